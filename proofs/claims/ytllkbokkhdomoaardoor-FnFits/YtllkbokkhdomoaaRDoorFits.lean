/-
  Contracts of how many letters fit, of the program and of its model: both answer the one number that FitsAt names, the program's where its table of letters holds what the program lays in it.
-/
import Derived.Test.YtllkbokkhdomoaaRDoorAdv3
namespace Go.Proofs.YtllkbokkhdomoaaRDoor
open Go.ChangeShapes Go.WideShapes Go.ChangeAt Go.RowKit
set_option linter.unusedVariables false

/-- What FitsIn answers: refused with 0, or the number that fits. -/
def FitsV (fa fd fn fu fb : Int) (s : ByteArray) (room : Int) (e : Ending) : Prop :=
  (advB fa fd fn fu fb s = false ∧ e = .returned (.tuple #[.int .i64 0, .bool false])) ∨
  (advB fa fd fn fu fb s = true ∧ ∃ n : Nat, FitsAt fn fu fb s room n ∧ e = .returned (.tuple #[.int .i64 n, .bool true]))
theorem FitsAt.of {fn fu fb : Int} {s : ByteArray} {room : Int} {k : Nat} (hk : k ≤ s.size) (h : ∀ j, j < k → advK fn fu fb s (j + 1) ≤ room) (h' : k < s.size → room < advK fn fu fb s (k + 1)) : FitsAt fn fu fb s room k := ⟨hk, h, h'⟩

set_option maxHeartbeats 4000000 in
theorem implFits_any (fa fd fn fu fb : Int) (s : ByteArray) (room : Int) (w : World) (hs : s.size ≤ maxLen) (hK : Kinds w) :
    Calls Tryd.prog 7 #[.agg #[.int .i64 fa, .int .i64 fd, .int .i64 fn, .int .i64 fu, .int .i64 fb], .string s, .int .i64 room] w fun e w' => FitsV fa fd fn fu fb s room e ∧ Below w.heap.size w w' := by
  have PL := fun w => implPlain_any s w hs
  unfold maxLen at hs
  cases hF : fontB fa fd fn fu fb
  · have HV : Hid (advB fa fd fn fu fb s = false) := (by show _ = _; simp [advB, hF])
    go_enter Tryd.func7, Tryd.ntmps7
    go_wp2_with (go_at_call 17; refine (implGood_any _ _ _ _ _ _).mono ?_; rintro e w1 ⟨rfl, hb1⟩)
    go_ret2
    exact ⟨.inl ⟨HV.out, rfl⟩, ((Below.refl _ _).alloc (Nat.le_refl _) _).trans (hb1.mono (by simp))⟩
  cases hP : (decide (s.size ≤ 400) && plainB s)
  · have HV : Hid (advB fa fd fn fu fb s = false) := (by show _ = _; simp only [advB, hP, hF]; rfl)
    rw [hP] at PL
    clear hP
    go_enter Tryd.func7, Tryd.ntmps7
    go_wp2_with (first | (go_at_call 17; refine (implGood_any _ _ _ _ _ _).mono ?_; rintro e w1 ⟨rfl, hb1⟩) | (go_at_call 18; refine (PL _).mono ?_; rintro e w' ⟨rfl, rfl⟩))
    go_ret2
    exact ⟨.inl ⟨HV.out, rfl⟩, ((Below.refl _ _).alloc (Nat.le_refl _) _).trans (hb1.mono (by simp))⟩
  have HV : Hid (advB fa fd fn fu fb s = true) := (by show _ = _; simp only [advB, hP, hF]; rfl)
  rw [hP] at PL
  have hP' := hP
  simp only [Bool.and_eq_true, decide_eq_true_eq] at hP'
  obtain ⟨h4, hpl⟩ := hP'
  clear hP
  have hg := fontB_yes hF
  have hf : 1 ≤ fn ∧ fn ≤ 6400 ∧ 1 ≤ fu ∧ fu ≤ 6400 ∧ 1 ≤ fb ∧ fb ≤ 6400 := by omega
  clear hg
  go_enter Tryd.func7, Tryd.ntmps7
  go_wp2_with (first | (go_at_call 17; refine (implGood_any _ _ _ _ _ _).mono ?_; rintro e w1 ⟨rfl, hb1⟩) | (go_at_call 18; refine (PL _).mono ?_; rintro e w' ⟨rfl, rfl⟩))
  have hbw := ((Below.refl w.heap.size w).alloc (Nat.le_refl _) _).trans (hb1.mono (by simp))
  have hbx := (box_new w fa fd fn fu fb).below hb1
  go_loopw [8, 20] (fun n i wr => ∃ k : Nat, k ≤ s.size ∧ i = .int .i64 k ∧ n = .int .i64 (advK fn fu fb s k) ∧ (∀ j, j < k → advK fn fu fb s (j + 1) ≤ room) ∧ BoxAt wr w.heap.size fa fd fn fu fb ∧ Kinds wr ∧ Below w.heap.size w wr) (fun _ i _ => s.size - (intOf i).toNat)
  case atStart => exact ⟨0, Nat.zero_le _, rfl, rfl, fun j h => absurd h (by omega), hbx, hK.below hbw, hbw⟩
  case round =>
    obtain ⟨k, hk, rfl, rfl, hall, hB, hKr, hbel⟩ := hrel
    have HA : Hid (∀ j, j < k → advK fn fu fb s (j + 1) ≤ room) := hall
    have hBk := hB
    obtain ⟨b0, b1, b2, b3, b4, b5⟩ := hB
    clear hK hb1 hbw hbx PL hall
    by_cases hlt : k < s.size
    · have hd := advK_bd hf s k
      have hw := wid_bd (s[k].toNat : Int) hf
      have hz := plainB_at hpl k hlt
      have F1 : IntKind.i64.wrap (advK fn fu fb s k + wid fn fu fb (s[k].toNat : Int)) = advK fn fu fb s k + wid fn fu fb (s[k].toNat : Int) := wrapI _ (by omega) (by omega)
      have HN : Hid (advK fn fu fb s (k + 1) = advK fn fu fb s k + wid fn fu fb (s[k].toNat : Int)) := advK_next fn fu fb s k hlt
      have LW := implOne_any fa fd fn fu fb s[k].toNat wr.drew (by omega) hKr
      clear hz
      by_cases hr : advK fn fu fb s k + wid fn fu fb (s[k].toNat : Int) ≤ room
      · go_wp2
        go_region_with (go_at_call 19; go_fit LW; rintro e w1 ⟨rfl, hb⟩)
        all_goals
          go_wp2
          go_roundw
          case rel => exact ⟨k + 1, by omega, by go_num, by rw [HN.out], fun j hj => (by
            by_cases e : j = k
            · subst e; rw [HN.out]; exact hr
            · exact HA.out j (by omega)), hBk.below ⟨hb.os, hb.tape, hb.output, hb.size, hb.block⟩, hKr.below ⟨hb.os, hb.tape, hb.output, hb.size, hb.block⟩, hbel.trans (Below.mono (B := wr.heap.size) ⟨hb.os, hb.tape, hb.output, hb.size, hb.block⟩ hbel.size)⟩
          case measure => simp [intOf]; omega
      · go_wp2
        go_region_with (go_at_call 19; go_fit LW; rintro e w1 ⟨rfl, hb⟩)
        all_goals
          go_wp2
          go_ret2
          exact ⟨.inr ⟨HV.out, k, FitsAt.of hk HA.out (fun _ => by rw [HN.out]; omega), rfl⟩, hbel.trans (Below.mono (B := wr.heap.size) ⟨hb.os, hb.tape, hb.output, hb.size, hb.block⟩ hbel.size)⟩
    · have e : k = s.size := by omega
      subst e
      go_wp2
      go_ret2
      exact ⟨.inr ⟨HV.out, s.size, FitsAt.of (Nat.le_refl _) HA.out (fun h => absurd h (by omega)), rfl⟩, hbel⟩
end Go.Proofs.YtllkbokkhdomoaaRDoor
