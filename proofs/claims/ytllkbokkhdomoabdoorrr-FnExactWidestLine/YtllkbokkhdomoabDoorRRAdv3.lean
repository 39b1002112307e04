/-
  Contract of the program's AdvanceOf: it answers as its model, where its table of letters holds what the program lays in it.
-/
import Derived.Test.YtllkbokkhdomoabDoorRRAdv2
namespace Go.Proofs.YtllkbokkhdomoabDoorRR
open Go.ChangeShapes Go.WideShapes Go.ChangeAt Go.RowKit
set_option linter.unusedVariables false

set_option maxHeartbeats 4000000 in
theorem implAdvance_any (fa fd fn fu fb : Int) (s : ByteArray) (w : World) (hs : s.size ≤ maxLen) (hK : Kinds w) :
    Calls Tryd.prog 23 #[.agg #[.int .i64 fa, .int .i64 fd, .int .i64 fn, .int .i64 fu, .int .i64 fb], .string s] w fun e w' => e = .returned (.tuple #[.int .i64 (advN fa fd fn fu fb s), .bool (advB fa fd fn fu fb s)]) ∧ Below w.heap.size w w' := by
  have PL := fun w => implPlain_any s w hs
  unfold maxLen at hs
  cases hF : fontB fa fd fn fu fb
  · have HV : Hid (_ = _) := adv_no (fa := fa) (fd := fd) (fn := fn) (fu := fu) (fb := fb) (s := s) (by simp [advB, hF])
    go_enter Tryd.func23, Tryd.ntmps23
    go_wp2_with (go_at_call 11; refine (implGood_any _ _ _ _ _ _).mono ?_; rintro e w1 ⟨rfl, hb1⟩)
    go_ret2
    exact ⟨congrArg Ending.returned HV.out, ((Below.refl _ _).alloc (Nat.le_refl _) _).trans (hb1.mono (by simp))⟩
  cases hP : (decide (s.size ≤ 400) && plainB s)
  · have HV : Hid (_ = _) := adv_no (fa := fa) (fd := fd) (fn := fn) (fu := fu) (fb := fb) (s := s) (by simp only [advB, hP, hF]; rfl)
    rw [hP] at PL
    clear hP
    go_enter Tryd.func23, Tryd.ntmps23
    go_wp2_with (first | (go_at_call 11; refine (implGood_any _ _ _ _ _ _).mono ?_; rintro e w1 ⟨rfl, hb1⟩) | (go_at_call 30; refine (PL _).mono ?_; rintro e w' ⟨rfl, rfl⟩))
    go_ret2
    exact ⟨congrArg Ending.returned HV.out, ((Below.refl _ _).alloc (Nat.le_refl _) _).trans (hb1.mono (by simp))⟩
  have HV : Hid (_ = _) := adv_yes (fa := fa) (fd := fd) (fn := fn) (fu := fu) (fb := fb) (s := s) (by simp only [advB, hP, hF]; rfl)
  rw [hP] at PL
  have hP' := hP
  simp only [Bool.and_eq_true, decide_eq_true_eq] at hP'
  obtain ⟨h4, hpl⟩ := hP'
  clear hP
  have hg := fontB_yes hF
  have hf : 1 ≤ fn ∧ fn ≤ 6400 ∧ 1 ≤ fu ∧ fu ≤ 6400 ∧ 1 ≤ fb ∧ fb ≤ 6400 := by omega
  clear hg
  go_enter Tryd.func23, Tryd.ntmps23
  go_wp2_with (first | (go_at_call 11; refine (implGood_any _ _ _ _ _ _).mono ?_; rintro e w1 ⟨rfl, hb1⟩) | (go_at_call 30; refine (PL _).mono ?_; rintro e w' ⟨rfl, rfl⟩))
  have hbw := ((Below.refl w.heap.size w).alloc (Nat.le_refl _) _).trans (hb1.mono (by simp))
  have hbx := (box_new w fa fd fn fu fb).below hb1
  go_loopw [6, 18] (fun n i wr => ∃ k : Nat, k ≤ s.size ∧ i = .int .i64 k ∧ n = .int .i64 (advK fn fu fb s k) ∧ BoxAt wr w.heap.size fa fd fn fu fb ∧ Kinds wr ∧ Below w.heap.size w wr) (fun _ i _ => s.size - (intOf i).toNat)
  case atStart => exact ⟨0, Nat.zero_le _, rfl, rfl, hbx, hK.below hbw, hbw⟩
  case round =>
    obtain ⟨k, hk, rfl, rfl, hB, hKr, hbel⟩ := hrel
    have hBk := hB
    obtain ⟨b0, b1, b2, b3, b4, b5⟩ := hB
    clear hK hb1 hbw hbx PL
    by_cases hlt : k < s.size
    · have hd := advK_bd hf s k
      have hw := wid_bd (s[k].toNat : Int) hf
      have hz := plainB_at hpl k hlt
      have F1 : IntKind.i64.wrap (advK fn fu fb s k + wid fn fu fb (s[k].toNat : Int)) = advK fn fu fb s k + wid fn fu fb (s[k].toNat : Int) := wrapI _ (by omega) (by omega)
      have HN : Hid (advK fn fu fb s (k + 1) = advK fn fu fb s k + wid fn fu fb (s[k].toNat : Int)) := advK_next fn fu fb s k hlt
      have LW := implOne_any fa fd fn fu fb s[k].toNat wr.drew (by omega) hKr
      clear hz
      go_wp2
      go_region_with (go_at_call 31; go_fit LW; rintro e w1 ⟨rfl, hb⟩)
      all_goals
        have hb' : Below wr.heap.size wr w1 := ⟨hb.os, hb.tape, hb.output, hb.size, hb.block⟩
        go_wp2
        go_roundw
        case rel => exact ⟨k + 1, by omega, by go_num, by rw [HN.out], hBk.below ⟨hb.os, hb.tape, hb.output, hb.size, hb.block⟩, hKr.below ⟨hb.os, hb.tape, hb.output, hb.size, hb.block⟩, hbel.trans (Below.mono (B := wr.heap.size) ⟨hb.os, hb.tape, hb.output, hb.size, hb.block⟩ hbel.size)⟩
        case measure => simp [intOf]; omega
    · have e : k = s.size := by omega
      subst e
      go_wp2
      go_ret2
      exact ⟨congrArg Ending.returned HV.out, hbel⟩
end Go.Proofs.YtllkbokkhdomoabDoorRR
