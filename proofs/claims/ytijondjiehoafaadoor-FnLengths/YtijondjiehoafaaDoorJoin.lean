/-
  Contracts of JoinMargins and of its model: both answer joinN and joinB of the numbers in the slice, for every slice of ints, and leave older memory alone.
-/
import Derived.Test.YtijondjiehoafaaDoorRowInts
import Derived.Test.YtijondjiehoafaaDoorJoinPlain
namespace Go.Proofs.YtijondjiehoafaaDoor
open Go.ChangeShapes Go.WideShapes Go.ChangeAt Go.RowKit
theorem ret_tup {a b : Int} {x y : Bool} (h : a = b) (k : x = y) : Ending.returned (.tuple #[.int .i64 a, .bool x]) = .returned (.tuple #[.int .i64 b, .bool y]) := by rw [h, k]
theorem ret_int {k : IntKind} {a b : Int} (h : a = b) : Ending.returned (.int k a) = .returned (.int k b) := by rw [h]

set_option maxHeartbeats 2000000 in
theorem l1Join_some (b off n cap : Nat) (zs : List Int) (w : World) (hn : zs.length = n) (hl : n ≤ 40) (hg : GoodTo zs n)
    (hc : ∀ i, i < n → w.cell? ⟨b, off + i, none⟩ = some (.int .i64 (zs.getD i 0))) :
    Calls Tryd.prog 63 #[.slice (some ⟨b, off, none⟩) n cap] w fun e w' => e = .returned (.int .i64 (up zs + lo zs)) ∧ w' = w := by
  go_enter Tryd.func63, Tryd.ntmps63
  go_wp2
  go_loop [3, 4, 9] (fun u d i => ∃ k : Nat, k ≤ n ∧ i = .int .i64 k ∧ u = .int .i64 (up (zs.take k)) ∧ d = .int .i64 (lo (zs.take k))) (fun _ _ i => n - (intOf i).toNat)
  case atStart => exact ⟨0, Nat.zero_le _, rfl, rfl, rfl⟩
  case round =>
    obtain ⟨k, hk, rfl, rfl, rfl⟩ := hrel
    have hu := up_bd (zs := zs) k (by omega) (fun j hj => hg j (by omega))
    have hd := lo_bd (zs := zs) k (by omega) (fun j hj => hg j (by omega))
    by_cases hlt : k < n
    · have U := up_next zs k (by omega)
      have D := lo_next zs k (by omega)
      obtain ⟨z, hz⟩ : ∃ z, z = zs.getD k 0 := ⟨_, rfl⟩
      obtain ⟨u, hu'⟩ : ∃ u, u = up (zs.take k) := ⟨_, rfl⟩
      obtain ⟨d, hd'⟩ : ∃ d, d = lo (zs.take k) := ⟨_, rfl⟩
      have hcx := hc k hlt
      rw [← hz] at hcx U D
      rw [← hu'] at U hu
      rw [← hd'] at D hd
      rw [← hu', ← hd']
      have HU : Hid (up (zs.take (k + 1)) = max u z) := U
      have HD : Hid (lo (zs.take (k + 1)) = min d z) := D
      clear hz hc hu' hd' U D hg
      go_wp2
      all_goals
        go_round
        case rel => exact ⟨k + 1, by omega, by go_num, by rw [HU.out]; go_num, by rw [HD.out]; go_num⟩
        case measure => simp [intOf]; omega
    · go_wp2
      go_ret
      have : k = n := by omega
      subst this
      exact ⟨ret_int (by rw [List.take_of_length_le (by omega)]), rfl⟩

set_option maxHeartbeats 2000000 in
theorem l1Join_none (a : Option Addr) (cap : Nat) (w : World) : Calls Tryd.prog 63 #[.slice a 0 cap] w fun e w' => e = .returned (.int .i64 0) ∧ w' = w := by
  go_enter Tryd.func63, Tryd.ntmps63
  go_wp2
  refine wp_loop_rounds 1 ?_
  rw [rounds_succ]
  go_wp2
  go_ret
  exact ⟨rfl, rfl⟩

theorem specJoin_long (a : Option Addr) (n cap : Nat) (zs : List Int) (w : World) (hn : zs.length = n) (h : 40 < n) (hm : n ≤ 1048576) :
    Calls Tryd.prog 24 #[.slice a n cap] w fun e w' => e = .returned (.tuple #[.int .i64 (joinN zs), .bool (joinB zs)]) ∧ w' = w := by
  have J := joinB_long (zs := zs) (by omega)
  have HJ : Hid (joinB zs = false) := J
  have HN : Hid (joinN zs = 0) := joinN_no J
  clear J
  have h' : (40 : Int) < (n : Int) := by omega
  go_enter Tryd.func24, Tryd.ntmps24
  go_wp2
  go_ret2
  exact ⟨ret_tup HN.out.symm HJ.out.symm, rfl⟩

theorem specJoin_none (a : Option Addr) (cap : Nat) (w : World) :
    Calls Tryd.prog 24 #[.slice a 0 cap] w fun e w' => e = .returned (.tuple #[.int .i64 0, .bool true]) ∧ w' = w := by
  go_enter Tryd.func24, Tryd.ntmps24
  go_wp2
  refine wp_loop_rounds 1 ?_
  rw [rounds_succ]
  go_wp2_with (go_at_call 63; refine (l1Join_none a cap _).mono ?_; rintro e w' ⟨rfl, rfl⟩)
  go_ret2
  exact ⟨rfl, rfl⟩

set_option maxHeartbeats 2000000 in
theorem specJoin_some (b off n cap : Nat) (zs : List Int) (w : World) (hn : zs.length = n) (hl : n ≤ 40)
    (hc : ∀ i, i < n → w.cell? ⟨b, off + i, none⟩ = some (.int .i64 (zs.getD i 0))) :
    Calls Tryd.prog 24 #[.slice (some ⟨b, off, none⟩) n cap] w fun e w' => e = .returned (.tuple #[.int .i64 (joinN zs), .bool (joinB zs)]) ∧ w' = w := by
  go_enter Tryd.func24, Tryd.ntmps24
  go_wp2
  go_loop [11] (fun i => ∃ k : Nat, k ≤ n ∧ i = .int .i64 k ∧ GoodTo zs k) (fun i => n - (intOf i).toNat)
  case atStart => exact ⟨0, Nat.zero_le _, rfl, goodTo_zero _⟩
  case round =>
    obtain ⟨k, hk, rfl, hg⟩ := hrel
    by_cases hlt : k < n
    · have hcx := hc k hlt
      have N := fun h => goodTo_next hg (k := k) h
      have B := fun h => joinB_bad (zs := zs) (k := k) (by omega) h
      obtain ⟨z, hz⟩ : ∃ z, z = zs.getD k 0 := ⟨_, rfl⟩
      rw [← hz] at hcx N B
      clear hz hc hg
      by_cases h1 : -1000000 ≤ z
      · by_cases h2 : z ≤ 1000000
        · have HN : Hid (GoodTo zs (k + 1)) := N (goodB_yes h1 h2)
          clear N B
          go_wp2
          go_round
          case rel => exact ⟨k + 1, by omega, by go_num, HN.out⟩
          case measure => simp [intOf]; omega
        · have J := B (goodB_no (by omega))
          have HJ : Hid (joinB zs = false) := J
          have HN : Hid (joinN zs = 0) := joinN_no J
          clear N B J
          go_wp2
          go_ret2
          exact ⟨ret_tup HN.out.symm HJ.out.symm, rfl⟩
      · have J := B (goodB_no (by omega))
        have HJ : Hid (joinB zs = false) := J
        have HN : Hid (joinN zs = 0) := joinN_no J
        clear N B J
        go_wp2
        go_ret2
        exact ⟨ret_tup HN.out.symm HJ.out.symm, rfl⟩
    · have e : k = n := by omega
      subst e
      have J := joinB_yes (zs := zs) (by omega) (by rw [hn]; exact hg)
      have HJ : Hid (joinB zs = true) := J
      have HN : Hid (joinN zs = up zs + lo zs) := joinN_yes J
      clear J
      have LJ := fun w' (hw : w' = w) => l1Join_some b off k cap zs w' hn hl hg (by rw [hw]; exact hc)
      clear hc hg
      go_wp2_with (go_at_call 63; refine (LJ _ rfl).mono ?_; rintro e w' ⟨rfl, rfl⟩)
      go_ret2
      exact ⟨ret_tup HN.out.symm HJ.out.symm, rfl⟩

/-- The model of JoinMargins. -/
theorem specJoin (a : Option Addr) (cap : Nat) (zs : List Int) (w : World) (hr : Row w a zs) (hm : zs.length ≤ 1048576) :
    Calls Tryd.prog 24 #[.slice a zs.length cap] w fun e w' => e = .returned (.tuple #[.int .i64 (joinN zs), .bool (joinB zs)]) ∧ w' = w := by
  by_cases h : 40 < zs.length
  · exact specJoin_long a _ cap zs w rfl h hm
  · rcases hr with rfl | ⟨b, off, rfl, hc⟩
    · exact specJoin_none a cap w
    · exact specJoin_some b off _ cap zs w rfl (by omega) hc
end Go.Proofs.YtijondjiehoafaaDoor
