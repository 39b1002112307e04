/-
  slices.Index over a row of ints: the first place, or -1.
-/
import Derived.Test.YtddnphgpdnedbaaDoorTreeP
import Derived.Test.YtddnphgpdnedbaaDoorRowInts
namespace Go.Proofs.YtddnphgpdnedbaaDoor
open Go.ChangeShapes Go.WideShapes Go.ChangeAt Go.RowKit
set_option linter.unusedVariables false

def ixI (x : Int) (zs : List Int) : Int := if x ∈ zs then (idxL x zs : Int) else -1
theorem ixI_in {x : Int} {zs : List Int} (h : x ∈ zs) : ixI x zs = (idxL x zs : Int) := if_pos h
theorem ixI_out {x : Int} {zs : List Int} (h : x ∉ zs) : ixI x zs = -1 := if_neg h
theorem idx_of {x : Int} : ∀ {zs : List Int} {k : Nat}, k < zs.length → (∀ j, j < k → zs.getD j 0 ≠ x) → zs.getD k 0 = x → x ∈ zs ∧ idxL x zs = k
  | y :: ys, 0, _, _, e => by
    have e' : y = x := by simpa using e
    exact ⟨by simp [e'], by rw [idxL, if_pos e']⟩
  | y :: ys, k + 1, h, hb, e => by
    have h0 : y ≠ x := by simpa using hb 0 (by omega)
    obtain ⟨h1, h2⟩ := idx_of (zs := ys) (k := k) (by simpa using h) (fun j hj => by simpa using hb (j + 1) (by omega)) (by simpa using e)
    exact ⟨List.mem_cons_of_mem _ h1, by rw [idxL, if_neg h0, h2]⟩
theorem not_in_of {x : Int} {zs : List Int} (h : ∀ j, j < zs.length → zs.getD j 0 ≠ x) : x ∉ zs := fun hx => h _ (idx_lt hx) (idx_at hx)

set_option maxHeartbeats 1000000 in
theorem index_any (a : Option Addr) (n cap : Nat) (x : Int) (zs : List Int) (w : World) (hn : n = zs.length) (hl : n ≤ 1048576) (hr : Row w a zs) :
    Calls Tryd.prog 31 #[.slice a n cap, .int .i64 x] w fun e w' => e = .returned (.int .i64 (ixI x zs)) ∧ w' = w := by
  have HN : Hid (n = zs.length) := hn
  clear hn
  go_enter Tryd.func31, Tryd.ntmps31
  go_wp2_with fail
  go_loop [8] (fun i => ∃ k : Nat, k ≤ n ∧ i = .int .i64 k ∧ (∀ j, j < k → zs.getD j 0 ≠ x)) (fun i => n - (intOf i).toNat)
  case atStart => exact ⟨0, Nat.zero_le _, rfl, fun j hj => absurd hj (by omega)⟩
  case round =>
    obtain ⟨k, hk, rfl, hp⟩ := hrel
    have HP : Hid (∀ j, j < k → zs.getD j 0 ≠ x) := hp
    clear hp
    by_cases hlt : k < n
    · obtain ⟨b, off, rfl, hc⟩ : ∃ b off, a = some ⟨b, off, none⟩ ∧ ∀ i, i < zs.length → w.cell? ⟨b, off + i, none⟩ = some (.int .i64 (zs.getD i 0)) := by
        rcases hr with h | h
        · have := HN.out; rw [h] at this; simp at this; omega
        · exact h
      have hck := hc k (by rw [← HN.out]; exact hlt)
      obtain ⟨z, hz⟩ : ∃ z, z = zs.getD k 0 := ⟨_, rfl⟩
      rw [← hz] at hck
      have HZ : Hid (z = zs.getD k 0) := hz
      clear hc hz hr
      by_cases hxz : x = z
      · subst hxz
        go_wp2
        go_ret
        obtain ⟨q1, q2⟩ := idx_of (by rw [← HN.out]; exact hlt) HP.out HZ.out.symm
        exact ⟨by rw [ixI_in q1, q2]; rfl, rfl⟩
      · have hq : (x == z) = false := by simpa using hxz
        go_wp2
        go_round
        case rel => exact ⟨k + 1, by omega, by go_num, fun j hj => by
          by_cases e : j = k
          · rw [e, ← HZ.out]; exact fun h => hxz h.symm
          · exact HP.out j (by omega)⟩
        case measure => simp [intOf]; omega
    · go_wp2
      go_ret
      have e : k = n := by omega
      exact ⟨by rw [ixI_out (not_in_of fun j hj => HP.out j (by rw [e, HN.out]; exact hj))]; rfl, rfl⟩
end Go.Proofs.YtddnphgpdnedbaaDoor
