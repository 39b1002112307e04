/-
  Contract of the program's JoinMargins, whole: it answers joinN and joinB of the numbers in the slice, for every slice of at most 1048576 ints, and leaves older memory alone.
-/
import Derived.Test.YtijondjiehoafaaDoorJoinImpl
namespace Go.Proofs.YtijondjiehoafaaDoor
open Go.ChangeShapes Go.WideShapes Go.ChangeAt Go.RowKit

theorem implJoin_long (a : Option Addr) (n cap : Nat) (zs : List Int) (w : World) (hn : zs.length = n) (h : 40 < n) (hm : n ≤ 1048576) :
    Calls Tryd.prog 23 #[.slice a n cap] w fun e w' => e = .returned (.tuple #[.int .i64 (joinN zs), .bool (joinB zs)]) ∧ Below w.heap.size w w' := by
  have J := joinB_long (zs := zs) (by omega)
  have HJ : Hid (joinB zs = false) := J
  have HN : Hid (joinN zs = 0) := joinN_no J
  clear J
  have h' : (40 : Int) < (n : Int) := by omega
  go_enter Tryd.func23, Tryd.ntmps23
  go_wp2
  go_ret2
  exact ⟨ret_tup HN.out.symm HJ.out.symm, (Below.refl _ _).alloc (Nat.le_refl _) _⟩

theorem all_none (a : Option Addr) (cap : Nat) (f : Value) (w : World) :
    Calls Tryd.prog 60 #[.slice a 0 cap, f] w fun e w' => e = .returned (.bool true) ∧ w' = w := by
  go_enter Tryd.func60, Tryd.ntmps60
  go_wp2
  refine wp_loop_rounds 1 ?_
  rw [rounds_succ]
  go_wp2
  go_ret
  exact ⟨rfl, rfl⟩

theorem new_cell0 (w : World) (x y : Value) (t : Nat) : (w.alloc (.cells #[x, y] t)).cell? ⟨w.heap.size, 0, none⟩ = some x := by simp
theorem new_cell1 (w : World) (x y : Value) (t : Nat) : (w.alloc (.cells #[x, y] t)).cell? ⟨w.heap.size, 1, none⟩ = some y := by simp
theorem new_free (w : World) (x y : Value) (t j : Nat) : (w.alloc (.cells #[x, y] t)).frozen? ⟨w.heap.size, j, none⟩ = false := by simp

set_option maxHeartbeats 1000000 in
theorem implJoin_none (a : Option Addr) (cap : Nat) (w : World) :
    Calls Tryd.prog 23 #[.slice a 0 cap] w fun e w' => e = .returned (.tuple #[.int .i64 0, .bool true]) ∧ Below w.heap.size w w' := by
  have hmf : ∀ (fn : Fn) (first cap : Array Value) (w : World), (Instr.makeFunc fn first cap).run Tryd.prog w = .ok (.func fn first cap) w := fun _ _ _ _ => rfl
  have Jn := joined_any w.heap.size 0 0 (w.alloc (.cells #[.int .i64 0, .int .i64 0] 89)) (new_cell0 _ _ _ _) (new_cell1 _ _ _ _) (by omega) (by omega)
  go_enter Tryd.func23, Tryd.ntmps23
  go_wp2_with (first | (go_at_call 60; refine (all_none _ _ _ _).mono ?_; rintro e w' ⟨rfl, rfl⟩) | (go_at_call 62; refine Jn.mono ?_; rintro e w' ⟨rfl, hb⟩))
  go_ret2
  exact ⟨rfl, ((Below.refl _ _).alloc (Nat.le_refl _) _).trans hb⟩

set_option maxHeartbeats 1000000 in
theorem implJoin_some (b off n cap : Nat) (zs : List Int) (w : World) (hn : zs.length = n) (hl : n ≤ 40) (hp : 0 < n)
    (hc : ∀ i, i < n → w.cell? ⟨b, off + i, none⟩ = some (.int .i64 (zs.getD i 0))) :
    Calls Tryd.prog 23 #[.slice (some ⟨b, off, none⟩) n cap] w fun e w' => e = .returned (.tuple #[.int .i64 (joinN zs), .bool (joinB zs)]) ∧ Below w.heap.size w w' := by
  have hb : b < w.heap.size := block_lt (hc 0 hp)
  have hmf : ∀ (fn : Fn) (first cap : Array Value) (w : World), (Instr.makeFunc fn first cap).run Tryd.prog w = .ok (.func fn first cap) w := fun _ _ _ _ => rfl
  have AL := all_some b off n cap w.heap.size zs (w.alloc (.cells #[.int .i64 0, .int .i64 0] 89)) hn hl hb (fun i hi => (World.cell?_alloc_lt _ _ _ hb).trans (hc i hi)) (new_cell0 _ _ _ _) (new_cell1 _ _ _ _) (new_free _ _ _ _ _) (new_free _ _ _ _ _)
  by_cases hG : ∃ k, k < n ∧ goodB (zs.getD k 0) = false
  · obtain ⟨k, hk, hbad⟩ := hG
    have J := joinB_bad (zs := zs) (by omega) hbad
    have HJ : Hid (joinB zs = false) := J
    have HN : Hid (joinN zs = 0) := joinN_no J
    have A0 := AL.mono (R' := fun e w' => e = Ending.returned (.bool false) ∧ Below w.heap.size (w.alloc (.cells #[.int .i64 0, .int .i64 0] 89)) w') (fun e w' h => by
      rcases h with ⟨h1, h2⟩
      rcases h2 with h2 | h2
      · exact ⟨h2.2, h1⟩
      · have := h2.1 k hk; rw [hbad] at this; cases this)
    clear AL J hc hbad
    go_enter Tryd.func23, Tryd.ntmps23
    go_wp2_with (go_at_call 60; refine A0.mono ?_; rintro e w' ⟨rfl, hbw⟩)
    go_ret2
    exact ⟨ret_tup HN.out.symm HJ.out.symm, ((Below.refl _ _).alloc (Nat.le_refl _) _).trans hbw⟩
  · have A1 := AL.mono (R' := fun e w' => e = Ending.returned (.bool true) ∧ Below w.heap.size (w.alloc (.cells #[.int .i64 0, .int .i64 0] 89)) w' ∧ GoodTo zs n ∧ w'.cell? ⟨w.heap.size, 0, none⟩ = some (.int .i64 (up zs)) ∧ w'.cell? ⟨w.heap.size, 1, none⟩ = some (.int .i64 (lo zs))) (fun e w' h => by
      rcases h with ⟨h1, h2⟩
      rcases h2 with h2 | h2
      · exact absurd h2.1 hG
      · exact ⟨h2.2.1, h1, h2.1, h2.2.2⟩)
    have g : GoodTo zs n := fun j hj => by
      cases hj' : goodB (zs.getD j 0) with
      | true => rfl
      | false => exact absurd ⟨j, hj, hj'⟩ hG
    have J := joinB_yes (zs := zs) (by omega) (by rw [hn]; exact g)
    have HJ : Hid (joinB zs = true) := J
    have HN : Hid (joinN zs = up zs + lo zs) := joinN_yes J
    have U := up_bd (zs := zs) n (by omega) g
    have L := lo_bd (zs := zs) n (by omega) g
    rw [List.take_of_length_le (by omega)] at U L
    have JN := fun (w' : World) h0 h1 => joined_any w.heap.size (up zs) (lo zs) w' h0 h1 U L
    clear AL J hc hG g
    obtain ⟨u, hu⟩ : ∃ u, u = up zs := ⟨_, rfl⟩
    obtain ⟨l, hl'⟩ : ∃ l, l = lo zs := ⟨_, rfl⟩
    rw [← hu, ← hl'] at A1 JN
    have HN' : Hid (joinN zs = u + l) := by rw [HN.out, hu, hl']; exact rfl
    clear hu hl' HN U L
    go_enter Tryd.func23, Tryd.ntmps23
    go_wp2_with (first | (go_at_call 60; refine A1.mono ?_; rintro e w1 ⟨rfl, hbw, hgt, d0, d1⟩; have JN1 := JN w1 d0 d1) | (go_at_call 62; refine JN1.mono ?_; rintro e w2 ⟨rfl, hb2⟩))
    go_ret2
    exact ⟨ret_tup HN'.out.symm HJ.out.symm, (((Below.refl _ _).alloc (Nat.le_refl _) _).trans hbw).trans hb2⟩

/-- The program's JoinMargins. -/
theorem implJoin (a : Option Addr) (cap : Nat) (zs : List Int) (w : World) (hr : Row w a zs) (hm : zs.length ≤ 1048576) :
    Calls Tryd.prog 23 #[.slice a zs.length cap] w fun e w' => e = .returned (.tuple #[.int .i64 (joinN zs), .bool (joinB zs)]) ∧ Below w.heap.size w w' := by
  by_cases h : 40 < zs.length
  · exact implJoin_long a _ cap zs w rfl h hm
  · rcases hr with rfl | ⟨b, off, rfl, hc⟩
    · exact implJoin_none a cap w
    · by_cases h0 : zs.length = 0
      · have : zs = [] := List.eq_nil_of_length_eq_zero h0
        subst this
        exact implJoin_none _ cap w
      · exact implJoin_some b off _ cap zs w rfl (by omega) (by omega) hc
end Go.Proofs.YtijondjiehoafaaDoor
