/-
  Contract of the program's JoinMargins: it answers joinN and joinB of the numbers in the slice, for every slice of at most 1048576 ints, and leaves older memory alone.
-/
import Derived.Test.YtijondjiehoafaaDoorJoin
namespace Go.Proofs.YtijondjiehoafaaDoor
open Go.ChangeShapes Go.WideShapes Go.ChangeAt Go.RowKit

theorem ret_bool {a b : Bool} (h : a = b) : Ending.returned (.bool a) = .returned (.bool b) := by rw [h]
theorem set_two {w : World} {m : Nat} {a b c d : Int} (h : a = c) (k : b = d) : (w.setCell ⟨m, 0, none⟩ (.int .i64 a)).setCell ⟨m, 1, none⟩ (.int .i64 b) = (w.setCell ⟨m, 0, none⟩ (.int .i64 c)).setCell ⟨m, 1, none⟩ (.int .i64 d) := by rw [h, k]
set_option maxHeartbeats 1000000 in
theorem take_any (m : Nat) (x y z : Int) (w : World) (h0 : w.cell? ⟨m, 0, none⟩ = some (.int .i64 x)) (h1 : w.cell? ⟨m, 1, none⟩ = some (.int .i64 y))
    (f0 : w.frozen? ⟨m, 0, none⟩ = false) (f1 : w.frozen? ⟨m, 1, none⟩ = false) :
    Calls Tryd.prog 61 #[.pointer (some ⟨m, 0, none⟩), .int .i64 z] w fun e w' =>
      e = .returned (.bool (goodB z)) ∧ w' = (w.setCell ⟨m, 0, none⟩ (.int .i64 (max x z))).setCell ⟨m, 1, none⟩ (.int .i64 (min y z)) := by
  by_cases h2 : -1000000 ≤ z
  · by_cases h3 : z ≤ 1000000
    · have HG : Hid (goodB z = true) := goodB_yes h2 h3
      go_enter Tryd.func61, Tryd.ntmps61
      go_wp2
      all_goals
        go_ret
        exact ⟨ret_bool HG.out.symm, set_two (by omega) (by omega)⟩
    · have HG : Hid (goodB z = false) := goodB_no (by omega)
      go_enter Tryd.func61, Tryd.ntmps61
      go_wp2
      all_goals
        go_ret
        exact ⟨ret_bool HG.out.symm, set_two (by omega) (by omega)⟩
  · have HG : Hid (goodB z = false) := goodB_no (by omega)
    go_enter Tryd.func61, Tryd.ntmps61
    go_wp2
    all_goals
      go_ret
      exact ⟨ret_bool HG.out.symm, set_two (by omega) (by omega)⟩

set_option maxHeartbeats 1000000 in
theorem all_some (b off n cap m : Nat) (zs : List Int) (w : World) (hn : zs.length = n) (hl : n ≤ 40) (hb : b < m)
    (hc : ∀ i, i < n → w.cell? ⟨b, off + i, none⟩ = some (.int .i64 (zs.getD i 0)))
    (c0 : w.cell? ⟨m, 0, none⟩ = some (.int .i64 0)) (c1 : w.cell? ⟨m, 1, none⟩ = some (.int .i64 0)) (f0 : w.frozen? ⟨m, 0, none⟩ = false) (f1 : w.frozen? ⟨m, 1, none⟩ = false) :
    Calls Tryd.prog 60 #[.slice (some ⟨b, off, none⟩) n cap, .func (.func 61) #[.pointer (some ⟨m, 0, none⟩)] #[]] w fun e w' =>
      Below m w w' ∧ (((∃ k, k < n ∧ goodB (zs.getD k 0) = false) ∧ e = .returned (.bool false)) ∨
        (GoodTo zs n ∧ e = .returned (.bool true) ∧ w'.cell? ⟨m, 0, none⟩ = some (.int .i64 (up zs)) ∧ w'.cell? ⟨m, 1, none⟩ = some (.int .i64 (lo zs)))) := by
  go_enter Tryd.func60, Tryd.ntmps60
  go_wp2
  go_loopw [9] (fun i wr => ∃ k : Nat, k ≤ n ∧ i = .int .i64 k ∧ GoodTo zs k ∧ wr.cell? ⟨m, 0, none⟩ = some (.int .i64 (up (zs.take k))) ∧ wr.cell? ⟨m, 1, none⟩ = some (.int .i64 (lo (zs.take k))) ∧ wr.frozen? ⟨m, 0, none⟩ = false ∧ wr.frozen? ⟨m, 1, none⟩ = false ∧ Below m w wr) (fun i _ => n - (intOf i).toNat)
  case atStart => exact ⟨0, Nat.zero_le _, rfl, goodTo_zero _, c0, c1, f0, f1, Below.refl _ _⟩
  case round =>
    obtain ⟨k, hk, rfl, hg, d0, d1, g0, g1, hbw⟩ := hrel
    clear c0 c1 f0 f1
    by_cases hlt : k < n
    · have hcx : wr.cell? ⟨b, off + k, none⟩ = some (.int .i64 (zs.getD k 0)) := (hbw.cell hb).trans (hc k hlt)
      have U := up_next zs k (by omega)
      have D := lo_next zs k (by omega)
      have N := fun h => goodTo_next hg (k := k) h
      obtain ⟨z, hz⟩ : ∃ z, z = zs.getD k 0 := ⟨_, rfl⟩
      obtain ⟨u, hu'⟩ : ∃ u, u = up (zs.take k) := ⟨_, rfl⟩
      obtain ⟨d, hd'⟩ : ∃ d, d = lo (zs.take k) := ⟨_, rfl⟩
      have HZ : Hid (z = zs.getD k 0) := hz
      rw [← hz] at hcx U D N
      rw [← hu'] at U d0
      rw [← hd'] at D d1
      have T := take_any m u d z wr d0 d1 g0 g1
      have e0 : ((wr.setCell ⟨m, 0, none⟩ (.int .i64 (max u z))).setCell ⟨m, 1, none⟩ (.int .i64 (min d z))).cell? ⟨m, 0, none⟩ = some (.int .i64 (up (zs.take (k + 1)))) := by
        rw [U]; exact (World.cell?_setCell_other _ _ _ _ (by simp)).trans (World.cell?_setCell_same _ _ _ d0)
      have e1 : ((wr.setCell ⟨m, 0, none⟩ (.int .i64 (max u z))).setCell ⟨m, 1, none⟩ (.int .i64 (min d z))).cell? ⟨m, 1, none⟩ = some (.int .i64 (lo (zs.take (k + 1)))) := by
        rw [D]; exact World.cell?_setCell_same _ _ _ ((World.cell?_setCell_other _ _ _ _ (by simp)).trans d1)
      have e2 : Below m w ((wr.setCell ⟨m, 0, none⟩ (.int .i64 (max u z))).setCell ⟨m, 1, none⟩ (.int .i64 (min d z))) := (hbw.setCell (Nat.le_refl _) _).setCell (Nat.le_refl _) _
      obtain ⟨w2, hw2⟩ : ∃ w2, w2 = (wr.setCell ⟨m, 0, none⟩ (.int .i64 (max u z))).setCell ⟨m, 1, none⟩ (.int .i64 (min d z)) := ⟨_, rfl⟩
      have e3 : w2.frozen? ⟨m, 0, none⟩ = false := by rw [hw2]; simpa using g0
      have e4 : w2.frozen? ⟨m, 1, none⟩ = false := by rw [hw2]; simpa using g1
      rw [← hw2] at T e0 e1 e2
      clear hz hc hu' hd' U D d0 d1 g0 g1 hbw hw2 hg
      by_cases hgz : goodB z = true
      · have HN : Hid (GoodTo zs (k + 1)) := N hgz
        clear N
        rw [hgz] at T
        go_wp2_with (go_at_call 61; refine T.mono ?_; rintro e w' ⟨rfl, rfl⟩)
        go_roundw
        case rel => exact ⟨k + 1, by omega, by go_num, HN.out, e0, e1, e3, e4, e2⟩
        case measure => simp [intOf]; omega
      · have hgf : goodB z = false := by simpa using hgz
        have HG : Hid (goodB z = false) := hgf
        rw [hgf] at T
        clear N hgz hgf
        go_wp2_with (go_at_call 61; refine T.mono ?_; rintro e w' ⟨rfl, rfl⟩)
        go_ret
        exact ⟨e2, .inl ⟨⟨k, hlt, by rw [← HZ.out]; exact HG.out⟩, rfl⟩⟩
    · have e : k = n := by omega
      subst e
      go_wp2
      go_ret
      rw [List.take_of_length_le (by omega)] at d0 d1
      exact ⟨hbw, .inr ⟨hg, rfl, d0, d1⟩⟩

set_option maxHeartbeats 1000000 in
theorem joined_any (m : Nat) (x y : Int) (w : World) (h0 : w.cell? ⟨m, 0, none⟩ = some (.int .i64 x)) (h1 : w.cell? ⟨m, 1, none⟩ = some (.int .i64 y))
    (bx : 0 ≤ x ∧ x ≤ 1000000) (by' : -1000000 ≤ y ∧ y ≤ 0) :
    Calls Tryd.prog 62 #[.pointer (some ⟨m, 0, none⟩)] w fun e w' => e = .returned (.tuple #[.int .i64 (x + y), .bool true]) ∧ Below m w w' := by
  have T : ∀ w : World, Calls Tryd.prog 57 #[.int .i64 (x + y)] w fun e w' => e = .returned (.tuple #[.int .i64 (x + y), .bool true]) ∧ w' = w := by
    intro w
    have g1 : -1000000 ≤ x + y := by omega
    have g2 : x + y ≤ 1000000 := by omega
    clear h0 h1
    go_enter Tryd.func57, Tryd.ntmps57
    go_wp2
    go_ret2
    exact ⟨rfl, rfl⟩
  go_enter Tryd.func62, Tryd.ntmps62
  go_wp2
  go_quiet ((go_at_call 57; exact Calls.quiet_of_same (T _)))
  go_wp2
  go_ret2
  exact ⟨rfl, below_drewN (Below.refl _ _) _⟩
end Go.Proofs.YtijondjiehoafaaDoor
