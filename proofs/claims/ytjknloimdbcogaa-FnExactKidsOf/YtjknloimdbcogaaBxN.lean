/-
  The law's own marking of a row of boxes, and its looking again.
-/
import Derived.Test.YtjknloimdbcogaaBxM
namespace Go.Proofs.Ytjknloimdbcogaa
open Go.ChangeShapes Go.WideShapes Go.ChangeAt Go.RowKit
set_option linter.unusedVariables false

/-- The cells of j marked boxes. -/
def flatM : Nat → List Value
  | 0 => []
  | j + 1 => flatM j ++ [.int .i64 ((1 + 4 * j : Nat) : Int)] ++ [.int .i64 ((2 + 4 * j : Nat) : Int)] ++ [.int .i64 ((3 + 4 * j : Nat) : Int)] ++ [.string (markT (4 + 4 * j))]
theorem flatM_len : ∀ j, (flatM j).length = 4 * j
  | 0 => rfl
  | j + 1 => by simp only [flatM, List.length_append, flatM_len j, List.length_singleton]; omega
theorem range_lt0 {w : World} {g : Nat} {L : List Value} (hL : w.rangeAt g 0 L) (h : 0 < L.length) : g < w.heap.size := World.block_lt_of_cell? _ ⟨g, 0, none⟩ (by simpa using hL 0 _ (List.getElem?_eq_getElem h))
theorem range_keep {B : Nat} {w w' : World} {g : Nat} {L : List Value} (hL : w.rangeAt g 0 L) (hb : Below B w w') (hB : g < B) : w'.rangeAt g 0 L := fun j v hv => (hb.cell (p := ⟨g, 0 + j, none⟩) hB).trans (hL j v hv)

set_option maxRecDepth 100000 in
set_option maxHeartbeats 8000000 in
theorem markBoxes_any (g n cap : Nat) (w : World) (hn : n ≤ 1048576) (ht : w.there g 0 (n * 4)) :
    Calls Try.prog 10 #[.slice (some ⟨g, 0, none⟩) n cap, .int .i64 1] w fun e w' => e = .returned (.int .i64 ((1 + 4 * n : Nat) : Int)) ∧ w.grownBy w' (some g) ∧ w'.rangeAt g 0 (flatM n) := by
  go_enter Try.func10, Try.ntmps10
  go_wp2_with fail
  go_loopw [1, 5] (fun q i wr => ∃ j : Nat, j ≤ n ∧ i = .int .i64 j ∧ q = .int .i64 ((1 + 4 * j : Nat) : Int) ∧ wr.there g 0 (n * 4) ∧ wr.rangeAt g 0 (flatM j) ∧ w.grownBy wr (some g)) (fun _ i _ => n - (intOf i).toNat)
  case atStart => exact ⟨0, Nat.zero_le _, rfl, rfl, ht, fun c v h => by simp [flatM] at h, bxn_grown_refl _ _⟩
  case round =>
    obtain ⟨j, hj, rfl, rfl, hth, hrg, hgr⟩ := hrel
    clear ht
    by_cases hlt : j < n
    · have hF := flatM_len j
      have HF : Hid (flatM (j + 1) = flatM j ++ [.int .i64 ((1 + 4 * j : Nat) : Int)] ++ [.int .i64 ((2 + 4 * j : Nat) : Int)] ++ [.int .i64 ((3 + 4 * j : Nat) : Int)] ++ [.string (markT (4 + 4 * j))]) := rfl
      obtain ⟨m, hm⟩ : ∃ m, m = 1 + 4 * j := ⟨_, rfl⟩
      have MT := bmarkText_any (m + 3)
      have e3 : markT (m + 3) = markT (4 + 4 * j) := congrArg markT (by omega)
      rw [e3] at MT
      generalize markT (4 + 4 * j) = t at MT HF
      rw [show ((2 + 4 * j : Nat) : Int) = (m : Int) + 1 by omega, show ((3 + 4 * j : Nat) : Int) = (m : Int) + 1 + 1 by omega] at HF
      rw [← hm] at HF ⊢
      rw [show ((m + 3 : Nat) : Int) = (m : Int) + 1 + 1 + 1 by omega] at MT
      generalize flatM j = L at hrg HF hF
      have hm0 : (0 : Int) ≤ (m : Int) := by omega
      have hm1 : (m : Int) ≤ 30000000 := by omega
      have HM : Hid (m = 1 + 4 * j) := hm
      have hm2 : m + 3 ≤ 30000000 := by omega
      clear hm e3
      go_wp2_with (first
        | (with_reducible show wpList _ _ _ (⟨none, Op.store 3 _ _, _, _, _, _⟩ :: _) _ _; refine bxn_store_push rfl 3 _ _ rfl rfl g _ (n * 4) _ _ rfl rfl (by kernel_rfl) rfl hth (by omega) hrg (by simp only [List.length_append, List.length_singleton, hF]; omega) ?_; intro w2 hth2 hg2 hr2; replace hgr := bxn_grown_trans hgr hg2; replace hth := hth2; replace hrg := hr2; clear hth2 hg2 hr2)
        | (with_reducible show wpList _ _ _ (⟨none, Op.store 9 _ _, _, _, _, _⟩ :: _) _ _; refine bxn_store_push rfl 9 _ _ rfl rfl g _ (n * 4) _ _ rfl rfl (by kernel_rfl) rfl hth (by omega) hrg (by simp only [List.length_append, List.length_singleton, hF]; omega) ?_; intro w2 hth2 hg2 hr2; replace hgr := bxn_grown_trans hgr hg2; replace hth := hth2; replace hrg := hr2; clear hth2 hg2 hr2)
        | (go_at_call 18; refine (MT _ (by omega) (by omega)).mono ?_; rintro e w3 ⟨rfl, hb⟩; replace hgr := bxn_grown_below hgr hb; replace hrg := range_keep hrg hb (bxn_there_lt hth (by omega)); replace hth := bx_there_below hth hb (bxn_there_lt hth (by omega)); clear hb)
        | fail)
      have hrg' : w2.rangeAt g 0 (flatM (j + 1)) := by rw [HF.out]; exact hrg
      go_roundw
      case rel => exact ⟨j + 1, by omega, by go_num, by have := HM.out; first | rfl | (congr 1; omega), hth, hrg', hgr⟩
      case measure => simp [intOf]; omega
    · have e : j = n := by omega
      subst e
      go_wp2
      go_ret
      exact ⟨rfl, hgr, hrg⟩

set_option maxRecDepth 100000 in
set_option maxHeartbeats 1000000 in
theorem markBoxes_none (a : Option Addr) (cap : Nat) (w : World) :
    Calls Try.prog 10 #[.slice a 0 cap, .int .i64 1] w fun e w' => e = .returned (.int .i64 1) ∧ w' = w := by
  go_enter Try.func10, Try.ntmps10
  go_wp2_with fail
  refine wp_loop_rounds 1 ?_
  rw [rounds_succ]
  go_wp2
  go_ret
  exact ⟨rfl, rfl⟩
end Go.Proofs.Ytjknloimdbcogaa
