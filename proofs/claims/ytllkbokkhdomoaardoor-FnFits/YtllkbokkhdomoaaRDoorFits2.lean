/-
  Contract of the model's FitsIn: it answers the one number that FitsAt names.
-/
import Derived.Test.YtllkbokkhdomoaaRDoorFits
import Derived.Deep.RegionHeld3
namespace Go.Proofs.YtllkbokkhdomoaaRDoor
open Go.ChangeShapes Go.WideShapes Go.ChangeAt Go.RowKit
set_option linter.unusedVariables false

theorem fits_exists (fn fu fb : Int) (s : ByteArray) (room : Int) : ∀ d n : Nat, n + d = s.size → (∀ j, j < n → advK fn fu fb s (j + 1) ≤ room) → ∃ m, FitsAt fn fu fb s room m := by
  intro d
  induction d with
  | zero => intro n h hall; exact ⟨n, by omega, hall, fun h' => absurd h' (by omega)⟩
  | succ d ih =>
    intro n h hall
    by_cases hr : advK fn fu fb s (n + 1) ≤ room
    · exact ih (n + 1) (by omega) (fun j hj => by
        by_cases e : j = n
        · subst e; exact hr
        · exact hall j (by omega))
    · exact ⟨n, by omega, hall, fun _ => by omega⟩
/-- One answer. -/
theorem fitsV_one (fa fd fn fu fb : Int) (s : ByteArray) (room : Int) : ∃ (n : Int) (b : Bool), ∀ e, FitsV fa fd fn fu fb s room e → e = .returned (.tuple #[.int .i64 n, .bool b]) := by
  cases h : advB fa fd fn fu fb s
  · refine ⟨0, false, fun e he => ?_⟩
    rcases he with ⟨_, rfl⟩ | ⟨h', _⟩
    · rfl
    · rw [h] at h'; cases h'
  · obtain ⟨m, hm⟩ := fits_exists fn fu fb s room s.size 0 (by omega) (fun j hj => absurd hj (by omega))
    refine ⟨m, true, fun e he => ?_⟩
    rcases he with ⟨h', _⟩ | ⟨_, n, hn, rfl⟩
    · rw [h] at h'; cases h'
    · rw [hn.one hm]
theorem cut_size (s : ByteArray) (k : Nat) (h : k ≤ s.size) : (s.extract 0 k).size = k := by
  rw [ByteArray.size_extract]; omega
theorem cut_take (s : ByteArray) (k : Nat) : (s.extract 0 k).data.toList = s.data.toList.take k := by
  rw [ByteArray.data_extract]; simp
theorem advK_cut (fn fu fb : Int) (s : ByteArray) (k : Nat) (h : k ≤ s.size) : advK fn fu fb (s.extract 0 k) (s.extract 0 k).size = advK fn fu fb s k := by
  unfold advK
  rw [cut_size s k h, cut_take, List.take_take, Nat.min_self]

set_option maxHeartbeats 4000000 in
theorem specFits_any (fa fd fn fu fb : Int) (s : ByteArray) (room : Int) (w : World) (hs : s.size ≤ maxLen) :
    Calls Tryd.prog 8 #[.agg #[.int .i64 fa, .int .i64 fd, .int .i64 fn, .int .i64 fu, .int .i64 fb], .string s, .int .i64 room] w fun e w' => FitsV fa fd fn fu fb s room e ∧ Below w.heap.size w w' := by
  have PL := fun w => specPlain_any s w hs
  unfold maxLen at hs
  cases hF : fontB fa fd fn fu fb
  · have HV : Hid (advB fa fd fn fu fb s = false) := (by show _ = _; simp [advB, hF])
    go_enter Tryd.func8, Tryd.ntmps8
    go_wp2_with (go_at_call 20; refine (specGood_any _ _ _ _ _ _).mono ?_; rintro e w1 ⟨rfl, hb1⟩)
    go_ret2
    exact ⟨.inl ⟨HV.out, rfl⟩, ((Below.refl _ _).alloc (Nat.le_refl _) _).trans (hb1.mono (by simp))⟩
  by_cases h4 : s.size ≤ 400
  rotate_left
  · have HV : Hid (advB fa fd fn fu fb s = false) := (by show _ = _; simp [advB, h4])
    have h4' : (400 : Int) < (s.size : Int) := by omega
    go_enter Tryd.func8, Tryd.ntmps8
    go_wp2_with (go_at_call 20; refine (specGood_any _ _ _ _ _ _).mono ?_; rintro e w1 ⟨rfl, hb1⟩)
    go_ret2
    exact ⟨.inl ⟨HV.out, rfl⟩, ((Below.refl _ _).alloc (Nat.le_refl _) _).trans (hb1.mono (by simp))⟩
  have h4' : (s.size : Int) ≤ 400 := by omega
  cases hP : plainB s
  · have HV : Hid (advB fa fd fn fu fb s = false) := (by show _ = _; simp [advB, hP])
    go_enter Tryd.func8, Tryd.ntmps8
    go_wp2_with (first | (go_at_call 20; refine (specGood_any _ _ _ _ _ _).mono ?_; rintro e w1 ⟨rfl, hb1⟩) | (go_at_call 21; refine (PL _).mono ?_; rintro e w' ⟨rfl, rfl⟩))
    go_ret2
    exact ⟨.inl ⟨HV.out, rfl⟩, ((Below.refl _ _).alloc (Nat.le_refl _) _).trans (hb1.mono (by simp))⟩
  have HV : Hid (advB fa fd fn fu fb s = true) := (by show _ = _; simp [advB, hP, hF, h4])
  have hg := fontB_yes hF
  have hf : 1 ≤ fn ∧ fn ≤ 6400 ∧ 1 ≤ fu ∧ fu ≤ 6400 ∧ 1 ≤ fb ∧ fb ≤ 6400 := by omega
  clear hg
  go_enter Tryd.func8, Tryd.ntmps8
  go_wp2_with (first | (go_at_call 20; refine (specGood_any _ _ _ _ _ _).mono ?_; rintro e w1 ⟨rfl, hb1⟩) | (go_at_call 21; refine (PL _).mono ?_; rintro e w' ⟨rfl, rfl⟩))
  have hbw := ((Below.refl w.heap.size w).alloc (Nat.le_refl _) _).trans (hb1.mono (by simp))
  have hbx := (box_new w fa fd fn fu fb).below hb1
  go_loopw [8] (fun n wr => ∃ k : Nat, k ≤ s.size ∧ n = .int .i64 k ∧ (∀ j, j < k → advK fn fu fb s (j + 1) ≤ room) ∧ BoxAt wr w.heap.size fa fd fn fu fb ∧ Below w.heap.size w wr) (fun n _ => s.size - (intOf n).toNat)
  case atStart => exact ⟨0, Nat.zero_le _, rfl, fun j h => absurd h (by omega), hbx, hbw⟩
  case round =>
    obtain ⟨k, hk, rfl, hall, hB, hbel⟩ := hrel
    have HA : Hid (∀ j, j < k → advK fn fu fb s (j + 1) ≤ room) := hall
    have hBk := hB
    obtain ⟨b0, b1, b2, b3, b4, b5⟩ := hB
    clear hb1 hbw hbx PL hall
    by_cases hlt : k < s.size
    · have hsz := cut_size s (k + 1) (by omega)
      have AD := specAdv_any fa fd fn fu fb (s.extract 0 (k + 1)) wr.drew (by omega) hf
      rw [advK_cut fn fu fb s (k + 1) (by omega)] at AD
      clear hsz
      have hlt' : (k : Int) < (s.size : Int) := by omega
      have hd : decide ((k : Int) < (s.size : Int)) = true := by simpa using hlt
      have F1 : IntKind.i64.wrap ((k : Int) + 1) = (k : Int) + 1 := wrapI _ (by omega) (by omega)
      have g1 : (0 : Int) ≤ (k : Int) + 1 := by omega
      have g2 : (k : Int) + 1 ≤ (s.size : Int) := by omega
      by_cases hr : advK fn fu fb s (k + 1) ≤ room
      · go_wp2
        go_region_held3 (fun w' => w'.cell? ⟨w.heap.size, 0, none⟩ = some (.int .i64 fa) ∧ w'.cell? ⟨w.heap.size, 1, none⟩ = some (.int .i64 fd) ∧ w'.cell? ⟨w.heap.size, 2, none⟩ = some (.int .i64 fn) ∧ w'.cell? ⟨w.heap.size, 3, none⟩ = some (.int .i64 fu) ∧ w'.cell? ⟨w.heap.size, 4, none⟩ = some (.int .i64 fb))
          (first | go_keep | exact (hBk.below ⟨hb.os, hb.tape, hb.output, hb.size, hb.block⟩).2)
          ((go_at_call 22; go_fit AD; rintro e w1 ⟨rfl, hb⟩))
        all_goals
          go_wp2
          go_roundw
          case rel => exact ⟨k + 1, by omega, by go_num, fun j hj => (by
            by_cases e : j = k
            · subst e; exact hr
            · exact HA.out j (by omega)), hBk.below ⟨hb.os, hb.tape, hb.output, hb.size, hb.block⟩, hbel.trans (Below.mono (B := wr.heap.size) ⟨hb.os, hb.tape, hb.output, hb.size, hb.block⟩ hbel.size)⟩
          case measure => simp [intOf]; omega
      · go_wp2
        go_region_held3 (fun w' => w'.cell? ⟨w.heap.size, 0, none⟩ = some (.int .i64 fa) ∧ w'.cell? ⟨w.heap.size, 1, none⟩ = some (.int .i64 fd) ∧ w'.cell? ⟨w.heap.size, 2, none⟩ = some (.int .i64 fn) ∧ w'.cell? ⟨w.heap.size, 3, none⟩ = some (.int .i64 fu) ∧ w'.cell? ⟨w.heap.size, 4, none⟩ = some (.int .i64 fb))
          (first | go_keep | exact (hBk.below ⟨hb.os, hb.tape, hb.output, hb.size, hb.block⟩).2)
          ((go_at_call 22; go_fit AD; rintro e w1 ⟨rfl, hb⟩))
        all_goals
          go_wp2
          go_ret2
          exact ⟨.inr ⟨HV.out, k, FitsAt.of hk HA.out (fun _ => by omega), rfl⟩, hbel.trans (Below.mono (B := wr.heap.size) ⟨hb.os, hb.tape, hb.output, hb.size, hb.block⟩ hbel.size)⟩
    · have e : k = s.size := by omega
      subst e
      go_wp2
      go_quiet (fail)
      go_wp2
      go_ret2
      exact ⟨.inr ⟨HV.out, s.size, FitsAt.of (Nat.le_refl _) HA.out (fun h => absurd h (by omega)), rfl⟩, below_drewN hbel _⟩
end Go.Proofs.YtllkbokkhdomoaaRDoor
