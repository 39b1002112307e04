/-
  The law's own looking again at a row of nodes that it has marked.
-/
import Derived.Test.YtddnphgpdnedbaaGreatDoorMNm
import Derived.Deep.RegionHeld3
namespace Go.Proofs.YtddnphgpdnedbaaGreatDoor
open Go.ChangeShapes Go.WideShapes Go.ChangeAt Go.RowKit
set_option linter.unusedVariables false
set_option linter.unusedSimpArgs false

theorem flatK_pre {j : Nat} : ∀ {n : Nat}, j ≤ n → ∃ r, flatK n = flatK j ++ r
  | 0, h => by obtain rfl : j = 0 := by omega
               exact ⟨[], by simp⟩
  | n + 1, h => by
    by_cases e : j = n + 1
    · subst e; exact ⟨[], by simp⟩
    · obtain ⟨r, hr⟩ := flatK_pre (j := j) (n := n) (by omega)
      exact ⟨r ++ markV (1 + 28 * n) (markT (2 + 28 * n)), by rw [flatK, hr]; simp⟩
theorem flatK_at {w : World} {g n j : Nat} (h : w.rangeAt g 0 (flatK n)) (hj : j < n) (c : Nat) (v : Value) (hv : (markV (1 + 28 * j) (markT (2 + 28 * j)))[c]? = some v) : w.cell? ⟨g, j * 28 + c, none⟩ = some v := by
  obtain ⟨r, hr⟩ := flatK_pre (j := j + 1) (n := n) (by omega)
  have hl := flatK_len j
  have hc : c < 28 := (List.getElem?_eq_some_iff.1 hv).1
  have := h (j * 28 + c) v (by
    rw [hr, flatK, List.append_assoc, List.getElem?_append_right (by omega), show j * 28 + c - (flatK j).length = c by omega, List.getElem?_append_left (by rw [markV_len]; exact hc)]
    exact hv)
  rwa [Nat.zero_add] at this
theorem flatK_cells {w : World} {g n j m : Nat} {t : ByteArray} (h : w.rangeAt g 0 (flatK n)) (hj : j < n) (hm : m = 1 + 28 * j) (ht : t = markT (2 + 28 * j)) : w.cell? ⟨g, j * 28, none⟩ = some (.int .i64 ((m : Int))) ∧ w.cell? ⟨g, j * 28 + 1, none⟩ = some (.string t) ∧ w.cell? ⟨g, j * 28 + 2, none⟩ = some (.int .i64 ((m : Int) + 1 + 1)) ∧ w.cell? ⟨g, j * 28 + 3, none⟩ = some (.int .i64 ((m : Int) + 1 + 1 + 1)) ∧ w.cell? ⟨g, j * 28 + 4, none⟩ = some (.int .i64 ((m : Int) + 1 + 1 + 1 + 1)) ∧ w.cell? ⟨g, j * 28 + 5, none⟩ = some (.bool (kB ((m : Int) + 1 + 1 + 1 + 1 + 1))) ∧ w.cell? ⟨g, j * 28 + 6, none⟩ = some (.bool (kB ((m : Int) + 1 + 1 + 1 + 1 + 1 + 1))) ∧ w.cell? ⟨g, j * 28 + 7, none⟩ = some (.int .i64 ((m : Int) + 1 + 1 + 1 + 1 + 1 + 1 + 1)) ∧ w.cell? ⟨g, j * 28 + 8, none⟩ = some (.bool (kB ((m : Int) + 1 + 1 + 1 + 1 + 1 + 1 + 1 + 1))) ∧ w.cell? ⟨g, j * 28 + 9, none⟩ = some (.bool (kB ((m : Int) + 1 + 1 + 1 + 1 + 1 + 1 + 1 + 1 + 1))) ∧ w.cell? ⟨g, j * 28 + 10, none⟩ = some (.int .i64 ((m : Int) + 1 + 1 + 1 + 1 + 1 + 1 + 1 + 1 + 1 + 1)) ∧ w.cell? ⟨g, j * 28 + 11, none⟩ = some (.int .i64 ((m : Int) + 1 + 1 + 1 + 1 + 1 + 1 + 1 + 1 + 1 + 1 + 1)) ∧ w.cell? ⟨g, j * 28 + 12, none⟩ = some (.int .i64 ((m : Int) + 1 + 1 + 1 + 1 + 1 + 1 + 1 + 1 + 1 + 1 + 1 + 1)) ∧ w.cell? ⟨g, j * 28 + 13, none⟩ = some (.int .i64 ((m : Int) + 1 + 1 + 1 + 1 + 1 + 1 + 1 + 1 + 1 + 1 + 1 + 1 + 1)) ∧ w.cell? ⟨g, j * 28 + 14, none⟩ = some (.bool (kB ((m : Int) + 1 + 1 + 1 + 1 + 1 + 1 + 1 + 1 + 1 + 1 + 1 + 1 + 1 + 1))) ∧ w.cell? ⟨g, j * 28 + 15, none⟩ = some (.bool (kB ((m : Int) + 1 + 1 + 1 + 1 + 1 + 1 + 1 + 1 + 1 + 1 + 1 + 1 + 1 + 1 + 1))) ∧ w.cell? ⟨g, j * 28 + 16, none⟩ = some (.int .i64 ((m : Int) + 1 + 1 + 1 + 1 + 1 + 1 + 1 + 1 + 1 + 1 + 1 + 1 + 1 + 1 + 1 + 1)) ∧ w.cell? ⟨g, j * 28 + 17, none⟩ = some (.int .i64 ((m : Int) + 1 + 1 + 1 + 1 + 1 + 1 + 1 + 1 + 1 + 1 + 1 + 1 + 1 + 1 + 1 + 1 + 1)) ∧ w.cell? ⟨g, j * 28 + 18, none⟩ = some (.bool (kB ((m : Int) + 1 + 1 + 1 + 1 + 1 + 1 + 1 + 1 + 1 + 1 + 1 + 1 + 1 + 1 + 1 + 1 + 1 + 1))) ∧ w.cell? ⟨g, j * 28 + 19, none⟩ = some (.bool (kB ((m : Int) + 1 + 1 + 1 + 1 + 1 + 1 + 1 + 1 + 1 + 1 + 1 + 1 + 1 + 1 + 1 + 1 + 1 + 1 + 1))) ∧ w.cell? ⟨g, j * 28 + 20, none⟩ = some (.int .i64 ((m : Int) + 1 + 1 + 1 + 1 + 1 + 1 + 1 + 1 + 1 + 1 + 1 + 1 + 1 + 1 + 1 + 1 + 1 + 1 + 1 + 1)) ∧ w.cell? ⟨g, j * 28 + 21, none⟩ = some (.int .i64 ((m : Int) + 1 + 1 + 1 + 1 + 1 + 1 + 1 + 1 + 1 + 1 + 1 + 1 + 1 + 1 + 1 + 1 + 1 + 1 + 1 + 1 + 1)) ∧ w.cell? ⟨g, j * 28 + 22, none⟩ = some (.int .i64 ((m : Int) + 1 + 1 + 1 + 1 + 1 + 1 + 1 + 1 + 1 + 1 + 1 + 1 + 1 + 1 + 1 + 1 + 1 + 1 + 1 + 1 + 1 + 1)) ∧ w.cell? ⟨g, j * 28 + 23, none⟩ = some (.int .i64 ((m : Int) + 1 + 1 + 1 + 1 + 1 + 1 + 1 + 1 + 1 + 1 + 1 + 1 + 1 + 1 + 1 + 1 + 1 + 1 + 1 + 1 + 1 + 1 + 1)) ∧ w.cell? ⟨g, j * 28 + 24, none⟩ = some (.int .i64 ((m : Int) + 1 + 1 + 1 + 1 + 1 + 1 + 1 + 1 + 1 + 1 + 1 + 1 + 1 + 1 + 1 + 1 + 1 + 1 + 1 + 1 + 1 + 1 + 1 + 1)) ∧ w.cell? ⟨g, j * 28 + 25, none⟩ = some (.int .i64 ((m : Int) + 1 + 1 + 1 + 1 + 1 + 1 + 1 + 1 + 1 + 1 + 1 + 1 + 1 + 1 + 1 + 1 + 1 + 1 + 1 + 1 + 1 + 1 + 1 + 1 + 1)) ∧ w.cell? ⟨g, j * 28 + 26, none⟩ = some (.int .i64 ((m : Int) + 1 + 1 + 1 + 1 + 1 + 1 + 1 + 1 + 1 + 1 + 1 + 1 + 1 + 1 + 1 + 1 + 1 + 1 + 1 + 1 + 1 + 1 + 1 + 1 + 1 + 1)) ∧ w.cell? ⟨g, j * 28 + 27, none⟩ = some (.int .i64 ((m : Int) + 1 + 1 + 1 + 1 + 1 + 1 + 1 + 1 + 1 + 1 + 1 + 1 + 1 + 1 + 1 + 1 + 1 + 1 + 1 + 1 + 1 + 1 + 1 + 1 + 1 + 1 + 1)) := by
  have A := flatK_at h hj
  rw [← hm, ← ht] at A
  exact ⟨A 0 _ rfl, A 1 _ rfl, A 2 _ rfl, A 3 _ rfl, A 4 _ rfl, A 5 _ rfl, A 6 _ rfl, A 7 _ rfl, A 8 _ rfl, A 9 _ rfl, A 10 _ rfl, A 11 _ rfl, A 12 _ rfl, A 13 _ rfl, A 14 _ rfl, A 15 _ rfl, A 16 _ rfl, A 17 _ rfl, A 18 _ rfl, A 19 _ rfl, A 20 _ rfl, A 21 _ rfl, A 22 _ rfl, A 23 _ rfl, A 24 _ rfl, A 25 _ rfl, A 26 _ rfl, A 27 _ rfl⟩
set_option maxRecDepth 100000 in
set_option maxHeartbeats 16000000 in
theorem heldNodesX_any (g n cap : Nat) (w : World) (hn : n ≤ 40000) (hg : g < w.heap.size) (hr : w.rangeAt g 0 (flatK n)) :
    Calls Tryz.prog 8 #[.slice (some ⟨g, 0, none⟩) n cap, .int .i64 1] w fun e w' => e = .returned (.int .i64 ((1 + 28 * n : Nat) : Int)) ∧ Below w.heap.size w w' := by
  have HR : Hid (w.rangeAt g 0 (flatK n)) := hr
  clear hr
  go_enter Tryz.func8, Tryz.ntmps8
  go_wp2_with fail
  go_loopw [1, 5] (fun q i wr => ∃ j : Nat, j ≤ n ∧ i = .int .i64 j ∧ q = .int .i64 ((1 + 28 * j : Nat) : Int) ∧ Below w.heap.size w wr) (fun _ i _ => n - (intOf i).toNat)
  case atStart => exact ⟨0, Nat.zero_le _, rfl, rfl, Below.refl _ _⟩
  case round =>
    obtain ⟨j, hj, rfl, rfl, hbw⟩ := hrel
    by_cases hlt : j < n
    · obtain ⟨m, hm⟩ : ∃ m, m = 1 + 28 * j := ⟨_, rfl⟩
      have MT := nmarkText_any (m + 1)
      obtain ⟨t, ht⟩ : ∃ t, t = markT (2 + 28 * j) := ⟨_, rfl⟩
      rw [show markT (m + 1) = t by rw [ht]; exact congrArg markT (by omega)] at MT
      have hgw : g < wr.heap.size := Nat.lt_of_lt_of_le hg hbw.size
      have HC : Hid (∀ W, Below wr.heap.size wr W → W.cell? ⟨g, j * 28, none⟩ = some (.int .i64 ((m : Int))) ∧ W.cell? ⟨g, j * 28 + 1, none⟩ = some (.string t) ∧ W.cell? ⟨g, j * 28 + 2, none⟩ = some (.int .i64 ((m : Int) + 1 + 1)) ∧ W.cell? ⟨g, j * 28 + 3, none⟩ = some (.int .i64 ((m : Int) + 1 + 1 + 1)) ∧ W.cell? ⟨g, j * 28 + 4, none⟩ = some (.int .i64 ((m : Int) + 1 + 1 + 1 + 1)) ∧ W.cell? ⟨g, j * 28 + 5, none⟩ = some (.bool (kB ((m : Int) + 1 + 1 + 1 + 1 + 1))) ∧ W.cell? ⟨g, j * 28 + 6, none⟩ = some (.bool (kB ((m : Int) + 1 + 1 + 1 + 1 + 1 + 1))) ∧ W.cell? ⟨g, j * 28 + 7, none⟩ = some (.int .i64 ((m : Int) + 1 + 1 + 1 + 1 + 1 + 1 + 1)) ∧ W.cell? ⟨g, j * 28 + 8, none⟩ = some (.bool (kB ((m : Int) + 1 + 1 + 1 + 1 + 1 + 1 + 1 + 1))) ∧ W.cell? ⟨g, j * 28 + 9, none⟩ = some (.bool (kB ((m : Int) + 1 + 1 + 1 + 1 + 1 + 1 + 1 + 1 + 1))) ∧ W.cell? ⟨g, j * 28 + 10, none⟩ = some (.int .i64 ((m : Int) + 1 + 1 + 1 + 1 + 1 + 1 + 1 + 1 + 1 + 1)) ∧ W.cell? ⟨g, j * 28 + 11, none⟩ = some (.int .i64 ((m : Int) + 1 + 1 + 1 + 1 + 1 + 1 + 1 + 1 + 1 + 1 + 1)) ∧ W.cell? ⟨g, j * 28 + 12, none⟩ = some (.int .i64 ((m : Int) + 1 + 1 + 1 + 1 + 1 + 1 + 1 + 1 + 1 + 1 + 1 + 1)) ∧ W.cell? ⟨g, j * 28 + 13, none⟩ = some (.int .i64 ((m : Int) + 1 + 1 + 1 + 1 + 1 + 1 + 1 + 1 + 1 + 1 + 1 + 1 + 1)) ∧ W.cell? ⟨g, j * 28 + 14, none⟩ = some (.bool (kB ((m : Int) + 1 + 1 + 1 + 1 + 1 + 1 + 1 + 1 + 1 + 1 + 1 + 1 + 1 + 1))) ∧ W.cell? ⟨g, j * 28 + 15, none⟩ = some (.bool (kB ((m : Int) + 1 + 1 + 1 + 1 + 1 + 1 + 1 + 1 + 1 + 1 + 1 + 1 + 1 + 1 + 1))) ∧ W.cell? ⟨g, j * 28 + 16, none⟩ = some (.int .i64 ((m : Int) + 1 + 1 + 1 + 1 + 1 + 1 + 1 + 1 + 1 + 1 + 1 + 1 + 1 + 1 + 1 + 1)) ∧ W.cell? ⟨g, j * 28 + 17, none⟩ = some (.int .i64 ((m : Int) + 1 + 1 + 1 + 1 + 1 + 1 + 1 + 1 + 1 + 1 + 1 + 1 + 1 + 1 + 1 + 1 + 1)) ∧ W.cell? ⟨g, j * 28 + 18, none⟩ = some (.bool (kB ((m : Int) + 1 + 1 + 1 + 1 + 1 + 1 + 1 + 1 + 1 + 1 + 1 + 1 + 1 + 1 + 1 + 1 + 1 + 1))) ∧ W.cell? ⟨g, j * 28 + 19, none⟩ = some (.bool (kB ((m : Int) + 1 + 1 + 1 + 1 + 1 + 1 + 1 + 1 + 1 + 1 + 1 + 1 + 1 + 1 + 1 + 1 + 1 + 1 + 1))) ∧ W.cell? ⟨g, j * 28 + 20, none⟩ = some (.int .i64 ((m : Int) + 1 + 1 + 1 + 1 + 1 + 1 + 1 + 1 + 1 + 1 + 1 + 1 + 1 + 1 + 1 + 1 + 1 + 1 + 1 + 1)) ∧ W.cell? ⟨g, j * 28 + 21, none⟩ = some (.int .i64 ((m : Int) + 1 + 1 + 1 + 1 + 1 + 1 + 1 + 1 + 1 + 1 + 1 + 1 + 1 + 1 + 1 + 1 + 1 + 1 + 1 + 1 + 1)) ∧ W.cell? ⟨g, j * 28 + 22, none⟩ = some (.int .i64 ((m : Int) + 1 + 1 + 1 + 1 + 1 + 1 + 1 + 1 + 1 + 1 + 1 + 1 + 1 + 1 + 1 + 1 + 1 + 1 + 1 + 1 + 1 + 1)) ∧ W.cell? ⟨g, j * 28 + 23, none⟩ = some (.int .i64 ((m : Int) + 1 + 1 + 1 + 1 + 1 + 1 + 1 + 1 + 1 + 1 + 1 + 1 + 1 + 1 + 1 + 1 + 1 + 1 + 1 + 1 + 1 + 1 + 1)) ∧ W.cell? ⟨g, j * 28 + 24, none⟩ = some (.int .i64 ((m : Int) + 1 + 1 + 1 + 1 + 1 + 1 + 1 + 1 + 1 + 1 + 1 + 1 + 1 + 1 + 1 + 1 + 1 + 1 + 1 + 1 + 1 + 1 + 1 + 1)) ∧ W.cell? ⟨g, j * 28 + 25, none⟩ = some (.int .i64 ((m : Int) + 1 + 1 + 1 + 1 + 1 + 1 + 1 + 1 + 1 + 1 + 1 + 1 + 1 + 1 + 1 + 1 + 1 + 1 + 1 + 1 + 1 + 1 + 1 + 1 + 1)) ∧ W.cell? ⟨g, j * 28 + 26, none⟩ = some (.int .i64 ((m : Int) + 1 + 1 + 1 + 1 + 1 + 1 + 1 + 1 + 1 + 1 + 1 + 1 + 1 + 1 + 1 + 1 + 1 + 1 + 1 + 1 + 1 + 1 + 1 + 1 + 1 + 1)) ∧ W.cell? ⟨g, j * 28 + 27, none⟩ = some (.int .i64 ((m : Int) + 1 + 1 + 1 + 1 + 1 + 1 + 1 + 1 + 1 + 1 + 1 + 1 + 1 + 1 + 1 + 1 + 1 + 1 + 1 + 1 + 1 + 1 + 1 + 1 + 1 + 1 + 1))) := fun W hb => flatK_cells (nm_range_keep (nm_range_keep HR.out hbw hg) hb hgw) hlt hm ht
      obtain ⟨q0, q1, _⟩ := HC.out wr (Below.refl _ _)
      rw [← hm]
      rw [show ((m + 1 : Nat) : Int) = (m : Int) + 1 by omega] at MT
      have hm0 : (0 : Int) ≤ (m : Int) := by omega
      have hm1 : (m : Int) ≤ 30000000 := by omega
      have HM : Hid (m = 1 + 28 * j) := hm
      have hm2 : m + 30 ≤ 30000000 := by omega
      clear hm ht
      go_wp2_with fail
      go_region_held3 (fun w' => w'.cell? ⟨g, j * 28 + 1, none⟩ = some (.string t))
        (first | exact q1 | exact hx)
        ((first
          | (go_at_call 15; refine (MT _ (by omega) (by omega)).mono ?_; rintro e w3 ⟨rfl, hb⟩; have hb' : Below wr.heap.size wr w3 := ⟨hb.os, hb.tape, hb.output, hb.size, hb.block⟩; have hx := (hb'.cell (p := ⟨g, j * 28 + 1, none⟩) hgw).trans q1)
          | fail))
      all_goals
        obtain ⟨p0, p1, q2, q3, q4, q5, q6, q7, q8, q9, q10, q11, q12, q13, q14, q15, q16, q17, q18, q19, q20, q21, q22, q23, q24, q25, q26, q27⟩ := HC.out w3 hb'
        have b3 : Below w.heap.size w w3 := hbw.trans (hb'.mono hbw.size)
        clear hb hx HC HR hbw
        obtain ⟨r5, hr5⟩ : ∃ r, r = ((m : Int) + 1 + 1 + 1 + 1 + 1) % 3 := ⟨_, rfl⟩
        have e5 : ((m : Int) + 1 + 1 + 1 + 1 + 1) % 3 = r5 := hr5.symm
        have d5 : ((m : Int) + 1 + 1 + 1 + 1 + 1).tmod 3 = r5 := by rw [Int.tmod_eq_emod_of_nonneg (by omega)]; exact hr5.symm
        obtain ⟨r6, hr6⟩ : ∃ r, r = ((m : Int) + 1 + 1 + 1 + 1 + 1 + 1) % 3 := ⟨_, rfl⟩
        have e6 : ((m : Int) + 1 + 1 + 1 + 1 + 1 + 1) % 3 = r6 := hr6.symm
        have d6 : ((m : Int) + 1 + 1 + 1 + 1 + 1 + 1).tmod 3 = r6 := by rw [Int.tmod_eq_emod_of_nonneg (by omega)]; exact hr6.symm
        obtain ⟨r8, hr8⟩ : ∃ r, r = ((m : Int) + 1 + 1 + 1 + 1 + 1 + 1 + 1 + 1) % 3 := ⟨_, rfl⟩
        have e8 : ((m : Int) + 1 + 1 + 1 + 1 + 1 + 1 + 1 + 1) % 3 = r8 := hr8.symm
        have d8 : ((m : Int) + 1 + 1 + 1 + 1 + 1 + 1 + 1 + 1).tmod 3 = r8 := by rw [Int.tmod_eq_emod_of_nonneg (by omega)]; exact hr8.symm
        obtain ⟨r9, hr9⟩ : ∃ r, r = ((m : Int) + 1 + 1 + 1 + 1 + 1 + 1 + 1 + 1 + 1) % 3 := ⟨_, rfl⟩
        have e9 : ((m : Int) + 1 + 1 + 1 + 1 + 1 + 1 + 1 + 1 + 1) % 3 = r9 := hr9.symm
        have d9 : ((m : Int) + 1 + 1 + 1 + 1 + 1 + 1 + 1 + 1 + 1).tmod 3 = r9 := by rw [Int.tmod_eq_emod_of_nonneg (by omega)]; exact hr9.symm
        obtain ⟨r14, hr14⟩ : ∃ r, r = ((m : Int) + 1 + 1 + 1 + 1 + 1 + 1 + 1 + 1 + 1 + 1 + 1 + 1 + 1 + 1) % 3 := ⟨_, rfl⟩
        have e14 : ((m : Int) + 1 + 1 + 1 + 1 + 1 + 1 + 1 + 1 + 1 + 1 + 1 + 1 + 1 + 1) % 3 = r14 := hr14.symm
        have d14 : ((m : Int) + 1 + 1 + 1 + 1 + 1 + 1 + 1 + 1 + 1 + 1 + 1 + 1 + 1 + 1).tmod 3 = r14 := by rw [Int.tmod_eq_emod_of_nonneg (by omega)]; exact hr14.symm
        obtain ⟨r15, hr15⟩ : ∃ r, r = ((m : Int) + 1 + 1 + 1 + 1 + 1 + 1 + 1 + 1 + 1 + 1 + 1 + 1 + 1 + 1 + 1) % 3 := ⟨_, rfl⟩
        have e15 : ((m : Int) + 1 + 1 + 1 + 1 + 1 + 1 + 1 + 1 + 1 + 1 + 1 + 1 + 1 + 1 + 1) % 3 = r15 := hr15.symm
        have d15 : ((m : Int) + 1 + 1 + 1 + 1 + 1 + 1 + 1 + 1 + 1 + 1 + 1 + 1 + 1 + 1 + 1).tmod 3 = r15 := by rw [Int.tmod_eq_emod_of_nonneg (by omega)]; exact hr15.symm
        obtain ⟨r18, hr18⟩ : ∃ r, r = ((m : Int) + 1 + 1 + 1 + 1 + 1 + 1 + 1 + 1 + 1 + 1 + 1 + 1 + 1 + 1 + 1 + 1 + 1 + 1) % 3 := ⟨_, rfl⟩
        have e18 : ((m : Int) + 1 + 1 + 1 + 1 + 1 + 1 + 1 + 1 + 1 + 1 + 1 + 1 + 1 + 1 + 1 + 1 + 1 + 1) % 3 = r18 := hr18.symm
        have d18 : ((m : Int) + 1 + 1 + 1 + 1 + 1 + 1 + 1 + 1 + 1 + 1 + 1 + 1 + 1 + 1 + 1 + 1 + 1 + 1).tmod 3 = r18 := by rw [Int.tmod_eq_emod_of_nonneg (by omega)]; exact hr18.symm
        obtain ⟨r19, hr19⟩ : ∃ r, r = ((m : Int) + 1 + 1 + 1 + 1 + 1 + 1 + 1 + 1 + 1 + 1 + 1 + 1 + 1 + 1 + 1 + 1 + 1 + 1 + 1) % 3 := ⟨_, rfl⟩
        have e19 : ((m : Int) + 1 + 1 + 1 + 1 + 1 + 1 + 1 + 1 + 1 + 1 + 1 + 1 + 1 + 1 + 1 + 1 + 1 + 1 + 1) % 3 = r19 := hr19.symm
        have d19 : ((m : Int) + 1 + 1 + 1 + 1 + 1 + 1 + 1 + 1 + 1 + 1 + 1 + 1 + 1 + 1 + 1 + 1 + 1 + 1 + 1).tmod 3 = r19 := by rw [Int.tmod_eq_emod_of_nonneg (by omega)]; exact hr19.symm
        have hk5 : kB ((m : Int) + 1 + 1 + 1 + 1 + 1) = (r5 == 0) := by unfold kB; rw [e5]
        rw [hk5] at q5
        have hk6 : kB ((m : Int) + 1 + 1 + 1 + 1 + 1 + 1) = (r6 == 0) := by unfold kB; rw [e6]
        rw [hk6] at q6
        have hk8 : kB ((m : Int) + 1 + 1 + 1 + 1 + 1 + 1 + 1 + 1) = (r8 == 0) := by unfold kB; rw [e8]
        rw [hk8] at q8
        have hk9 : kB ((m : Int) + 1 + 1 + 1 + 1 + 1 + 1 + 1 + 1 + 1) = (r9 == 0) := by unfold kB; rw [e9]
        rw [hk9] at q9
        have hk14 : kB ((m : Int) + 1 + 1 + 1 + 1 + 1 + 1 + 1 + 1 + 1 + 1 + 1 + 1 + 1 + 1) = (r14 == 0) := by unfold kB; rw [e14]
        rw [hk14] at q14
        have hk15 : kB ((m : Int) + 1 + 1 + 1 + 1 + 1 + 1 + 1 + 1 + 1 + 1 + 1 + 1 + 1 + 1 + 1) = (r15 == 0) := by unfold kB; rw [e15]
        rw [hk15] at q15
        have hk18 : kB ((m : Int) + 1 + 1 + 1 + 1 + 1 + 1 + 1 + 1 + 1 + 1 + 1 + 1 + 1 + 1 + 1 + 1 + 1 + 1) = (r18 == 0) := by unfold kB; rw [e18]
        rw [hk18] at q18
        have hk19 : kB ((m : Int) + 1 + 1 + 1 + 1 + 1 + 1 + 1 + 1 + 1 + 1 + 1 + 1 + 1 + 1 + 1 + 1 + 1 + 1 + 1) = (r19 == 0) := by unfold kB; rw [e19]
        rw [hk19] at q19
        clear hr5 hk5 hr6 hk6 hr8 hk8 hr9 hk9 hr14 hk14 hr15 hk15 hr18 hk18 hr19 hk19
        go_wp2
        go_roundw
        case rel => exact ⟨j + 1, by omega, by go_num, by have := HM.out; first | rfl | (congr 1; omega), b3⟩
        case measure => simp [intOf]; omega
    · have e : j = n := by omega
      subst e
      go_wp2
      go_ret
      exact ⟨rfl, hbw⟩
end Go.Proofs.YtddnphgpdnedbaaGreatDoor
