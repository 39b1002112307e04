/-
  Contract of the model's widest stretch between places, of a text of at most 200 bytes.
-/
import Derived.Test.YtllkbokkhdomoabDoorRRWideA
namespace Go.Proofs.YtllkbokkhdomoabDoorRR
open Go.ChangeShapes Go.WideShapes Go.ChangeAt Go.RowKit
set_option linter.unusedVariables false

theorem Wd_bd {fn fu fb : Int} (hf : 1 ≤ fn ∧ fn ≤ 6400 ∧ 1 ≤ fu ∧ fu ≤ 6400 ∧ 1 ≤ fb ∧ fb ≤ 6400) (x : ByteArray) (h : x.size ≤ 400) : 0 ≤ Wd fn fu fb x ∧ Wd fn fu fb x ≤ 2560000 := by
  have h1 := advK_bd hf (bareS x) (bareS x).size
  have h2 := bare_size x
  unfold Wd
  omega
/-- The numbers of a row of places. -/
def intsN (E : List Nat) : List Int := E.map (fun n : Nat => (n : Int))
theorem intsN_at (E : List Nat) (j : Nat) : (intsN E).getD j 0 = ((E.getD j 0 : Nat) : Int) := by
  simp only [intsN, List.getD_eq_getElem?_getD, List.getElem?_map]
  cases E[j]? <;> rfl

set_option maxHeartbeats 4000000 in
theorem specWidest_any (fa fd fn fu fb : Int) (s : ByteArray) (E : List Nat) (a : Option Addr) (n cap : Nat) (w : World) (hn : n = E.length) (hl : n ≤ 1000) (hs : s.size ≤ 200)
    (hf : 1 ≤ fn ∧ fn ≤ 6400 ∧ 1 ≤ fu ∧ fu ≤ 6400 ∧ 1 ≤ fb ∧ fb ≤ 6400) (hE : EndsOk s.size E) (hR : Row w a (intsN E)) :
    Calls Tryd.prog 15 #[.agg #[.int .i64 fa, .int .i64 fd, .int .i64 fn, .int .i64 fu, .int .i64 fb], .string s, .slice a n cap] w fun e w' => e = .returned (.int .i64 (widestK (Wd fn fu fb) s E n)) ∧ Below w.heap.size w w' := by
  have HN : Hid (n = E.length) := hn
  have HE : Hid (EndsOk s.size E) := hE
  clear hE hn
  rcases hR with h0 | ⟨g, off, rfl, hc⟩
  · have e : n = 0 := by
      have := congrArg List.length h0
      simp [intsN] at this
      rw [HN.out, this]; rfl
    subst e
    clear h0 HN
    go_enter Tryd.func15, Tryd.ntmps15
    go_wp2_with fail
    refine wp_loop_rounds 1 ?_
    rw [rounds_succ]
    go_wp2
    go_ret
    exact ⟨rfl, (Below.refl _ _).alloc (Nat.le_refl _) _⟩
  · have hlen : (intsN E).length = n := by rw [HN.out]; simp [intsN]
    rw [hlen] at hc
    have HC : Hid (∀ j, j < n → w.cell? ⟨g, off + j, none⟩ = some (.int .i64 ((E.getD j 0 : Nat) : Int))) := fun j hj => (hc j hj).trans (by rw [intsN_at])
    clear hc hlen
    go_enter Tryd.func15, Tryd.ntmps15
    go_wp2_with fail
    go_loopw [7, 8, 14] (fun m p i wr => ∃ k : Nat, k ≤ n ∧ i = .int .i64 k ∧ m = .int .i64 (widestK (Wd fn fu fb) s E k) ∧ p = .int .i64 (prevE E k : Nat) ∧ BoxAt wr w.heap.size fa fd fn fu fb ∧ Below w.heap.size w wr) (fun _ _ i _ => n - (intOf i).toNat)
    case atStart => exact ⟨0, Nat.zero_le _, rfl, rfl, rfl, box_new w fa fd fn fu fb, (Below.refl _ _).alloc (Nat.le_refl _) _⟩
    case round =>
      obtain ⟨k, hk, rfl, rfl, rfl, hB, hbel⟩ := hrel
      have hBk := hB
      obtain ⟨b0, b1, b2, b3, b4, b5⟩ := hB
      by_cases hlt : k < n
      · have hcx : wr.cell? ⟨g, off + k, none⟩ = some (.int .i64 ((E.getD k 0 : Nat) : Int)) := (hbel.cell (block_lt (HC.out k hlt))).trans (HC.out k hlt)
        have hEk := HE.out k (by rw [← HN.out]; exact hlt)
        have hwb := widestK_bd (Wd fn fu fb) s E k (fun x hx => Wd_bd hf x (by omega))
        have hlw := Wd_bd hf (lineOf s E k) (by have := lineOf_size s E k; omega)
        have HW : Hid (widestK (Wd fn fu fb) s E (k + 1) = max (widestK (Wd fn fu fb) s E k) (Wd fn fu fb (lineOf s E k))) := rfl
        have HP : Hid (prevE E (k + 1) = E.getD k 0) := rfl
        have WI := fun w => specWidth_any fa fd fn fu fb (lineOf s E k) w (by have := lineOf_size s E k; omega) hf
        unfold lineOf at WI hlw HW
        generalize E.getD k 0 = p at hcx hEk WI hlw HW HP
        generalize prevE E k = q at hEk WI hlw HW ⊢
        generalize Wd fn fu fb (s.extract q p) = z at WI hlw HW
        generalize widestK (Wd fn fu fb) s E k = m at hwb HW ⊢
        have q1 : (0 : Int) ≤ (q : Int) := by omega
        have q2 : (q : Int) ≤ (p : Int) := by omega
        have q3 : (p : Int) ≤ (s.size : Int) := by omega
        go_wp2
        go_region_with (go_at_call 21; go_fit (WI _); rintro e w1 ⟨rfl, hb⟩)
        all_goals
          have hb' : Below wr.heap.size wr w1 := ⟨hb.os, hb.tape, hb.output, hb.size, hb.block⟩
          by_cases hzm : m < z
          · go_wp2
            go_roundw
            case rel => exact ⟨k + 1, by omega, by go_num, by rw [HW.out, Int.max_eq_right (by omega)], by rw [HP.out], hBk.below hb', hbel.trans (hb'.mono hbel.size)⟩
            case measure => simp [intOf]; omega
          · go_wp2
            go_roundw
            case rel => exact ⟨k + 1, by omega, by go_num, by rw [HW.out, Int.max_eq_left (by omega)], by rw [HP.out], hBk.below hb', hbel.trans (hb'.mono hbel.size)⟩
            case measure => simp [intOf]; omega
      · have e : k = n := by omega
        subst e
        go_wp2
        go_ret
        exact ⟨rfl, hbel⟩
end Go.Proofs.YtllkbokkhdomoabDoorRR
