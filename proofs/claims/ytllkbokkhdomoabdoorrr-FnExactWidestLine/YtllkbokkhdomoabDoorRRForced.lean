/-
  Contracts of the places behind line breaks, of the program and of its model: both hand back a new row of the places that forcedL names.
-/
import Derived.Test.YtllkbokkhdomoabDoorRRT3
import Derived.Test.YtllkbokkhdomoabDoorRROwnI
namespace Go.Proofs.YtllkbokkhdomoabDoorRR
open Go.ChangeShapes Go.WideShapes Go.ChangeAt Go.RowKit
set_option linter.unusedVariables false

/-- The places 1 .. k at which p holds. -/
def placesL (p : Nat → Bool) : Nat → List Int
  | 0 => []
  | k + 1 => if p (k + 1) = true then placesL p k ++ [((k + 1 : Nat) : Int)] else placesL p k
theorem placesL_len (p : Nat → Bool) (k : Nat) : (placesL p k).length ≤ k := by
  induction k with
  | zero => simp [placesL]
  | succ k ih =>
    unfold placesL
    split
    · rw [List.length_append, List.length_singleton]; omega
    · omega
theorem placesL_yes {p : Nat → Bool} {k : Nat} (h : p (k + 1) = true) : placesL p (k + 1) = placesL p k ++ [((k + 1 : Nat) : Int)] := by rw [placesL, if_pos h]
theorem placesL_no {p : Nat → Bool} {k : Nat} (h : p (k + 1) = false) : placesL p (k + 1) = placesL p k := by rw [placesL, if_neg (by rw [h]; decide)]
/-- A line break stands ahead of place i. -/
def tenB (s : ByteArray) (i : Nat) : Bool := decide ((s.data.toList.getD (i - 1) 0).toNat = 10)
theorem at_list (s : ByteArray) (k : Nat) (h : k < s.size) : s.data.toList.getD k 0 = s[k] := by
  rw [List.getD_eq_getElem?_getD, List.getElem?_eq_getElem (by simpa using h)]; rfl
theorem tenB_yes {s : ByteArray} {k : Nat} (h : k < s.size) (hz : (s[k].toNat : Int) = 10) : tenB s (k + 1) = true := by
  simp only [tenB, Nat.add_sub_cancel]; rw [at_list s k h]; exact decide_eq_true (by omega)
theorem tenB_no {s : ByteArray} {k : Nat} (h : k < s.size) (hz : ¬ (s[k].toNat : Int) = 10) : tenB s (k + 1) = false := by
  simp only [tenB, Nat.add_sub_cancel]; rw [at_list s k h]; exact decide_eq_false (by omega)
def forcedL (s : ByteArray) : List Int := if okB false s then placesL (tenB s) s.size else []

set_option maxHeartbeats 2000000 in
theorem specForcedL_any (s : ByteArray) (w : World) (hs : s.size ≤ 200) :
    Calls Tryd.prog 16 #[.string s] w fun e w' => ∃ v, e = .returned v ∧ OwnI w' w.heap.size v (placesL (tenB s) s.size) ∧ Below w.heap.size w w' := by
  obtain ⟨i0, hi, hz0, hz1, hz2⟩ := info_parts Tryd.infoInt
  have h00 := ownI_nil w w.heap.size
  go_enter Tryd.func16, Tryd.ntmps16
  go_wp2_with fail
  go_loopw [3, 4] (fun v i wr => ∃ k : Nat, k ≤ s.size ∧ i = .int .i64 ((k : Int) + 1) ∧ OwnI wr w.heap.size v (placesL (tenB s) k) ∧ Below w.heap.size w wr) (fun _ i _ => s.size + 1 - (intOf i).toNat)
  case atStart => exact ⟨0, Nat.zero_le _, rfl, h00, Below.refl _ _⟩
  case round =>
    obtain ⟨k, hk, rfl, hown, hbw⟩ := hrel
    clear h00
    by_cases hlt : k < s.size
    · have q1 : (k : Int) + 1 ≤ (s.size : Int) := by omega
      have hle := placesL_len (tenB s) k
      by_cases h10 : (s[k].toNat : Int) = 10
      · have HP : Hid (placesL (tenB s) (k + 1) = placesL (tenB s) k ++ [((k + 1 : Nat) : Int)]) := placesL_yes (tenB_yes hlt h10)
        generalize placesL (tenB s) k = zs at hown HP hle
        have hown' : wr.ownsRow w.heap.size 3 1 _ zs.length (zs.map (Value.int .i64)) := hown
        go_wp2_with (at_builtin; refine wpList_append_own _ rfl (.tmp 16) (.tmp 18) 32 rfl w.heap.size 3 i0 (.int .i64 0) 1 8 Tryd.underlying32 hi hz0 hz1 hz2 rfl (by decide) _ _ _ rfl (hown'.alloc _) ⟨wr.heap.size, 0, none⟩ 1 1 [.int .i64 ((k : Int) + 1)] rfl rfl (cell_one_new _ _ _) (one_i64 _) (by unfold maxLen; omega) (by omega) (by have := hbw.size; simp; omega) ?_)
        intro v' w2 hown2 hgrow2 _
        have R1 : OwnI w2 w.heap.size v' (placesL (tenB s) (k + 1)) := by rw [HP.out]; exact OwnI.snoc rfl hown2
        have R2 : Below w.heap.size w w2 := (hbw.alloc hbw.size _).grown hgrow2 (by have := hbw.size; simp; omega) (fun j hj => hown.base j hj)
        clear hown2 hgrow2 hown hbw hown'
        go_wp2
        go_roundw
        case rel => exact ⟨k + 1, by omega, by go_num, R1, R2⟩
        case measure => simp [intOf]; omega
      · have R1 := hown
        rw [← placesL_no (tenB_no hlt h10)] at R1
        have b10 : ((s[k].toNat : Int) == 10) = false := by simpa using h10
        clear hown hle
        go_wp2
        go_roundw
        case rel => exact ⟨k + 1, by omega, by go_num, R1, hbw⟩
        case measure => simp [intOf]; omega
    · have e : k = s.size := by omega
      subst e
      go_wp2
      go_ret
      exact ⟨_, rfl, hown, hbw⟩

set_option maxHeartbeats 2000000 in
theorem implForced_any (s : ByteArray) (w : World) (hs : s.size ≤ maxLen) :
    Calls Tryd.prog 10 #[.string s] w fun e w' => ∃ v, e = .returned (.tuple #[v, .bool (okB false s)]) ∧ OwnI w' w.heap.size v (forcedL s) ∧ Below w.heap.size w w' := by
  have PL := fun w => isKept_any s w hs
  unfold maxLen at hs
  cases hT : okB false s
  · have HF : Hid (forcedL s = []) := by show _ = _; simp [forcedL, hT]
    rw [hT] at PL
    go_enter Tryd.func10, Tryd.ntmps10
    go_wp2_with (go_at_call 17; refine (PL _).mono ?_; rintro e w' ⟨rfl, rfl⟩)
    go_ret2
    exact ⟨_, rfl, by rw [HF.out]; exact ownI_nil _ _, Below.refl _ _⟩
  have HF : Hid (forcedL s = placesL (tenB s) s.size) := by show _ = _; simp [forcedL, hT]
  have h200 := (okB_yes hT).1
  obtain ⟨i0, hi, hz0, hz1, hz2⟩ := info_parts Tryd.infoInt
  have h00 := ownI_nil w w.heap.size
  rw [hT] at PL
  clear hT
  go_enter Tryd.func10, Tryd.ntmps10
  go_wp2_with (go_at_call 17; refine (PL _).mono ?_; rintro e w' ⟨rfl, hw⟩; have hw := hw.symm; subst hw)
  go_loopw [4, 5] (fun v i wr => ∃ k : Nat, k ≤ s.size ∧ i = .int .i64 ((k : Int) + 1) ∧ OwnI wr w.heap.size v (placesL (tenB s) k) ∧ Below w.heap.size w wr) (fun _ i _ => s.size + 1 - (intOf i).toNat)
  case atStart => exact ⟨0, Nat.zero_le _, rfl, h00, Below.refl _ _⟩
  case round =>
    obtain ⟨k, hk, rfl, hown, hbw⟩ := hrel
    clear h00 PL
    by_cases hlt : k < s.size
    · have q1 : (k : Int) + 1 ≤ (s.size : Int) := by omega
      have hle := placesL_len (tenB s) k
      by_cases h10 : (s[k].toNat : Int) = 10
      · have HP : Hid (placesL (tenB s) (k + 1) = placesL (tenB s) k ++ [((k + 1 : Nat) : Int)]) := placesL_yes (tenB_yes hlt h10)
        generalize placesL (tenB s) k = zs at hown HP hle
        have hown' : wr.ownsRow w.heap.size 3 1 _ zs.length (zs.map (Value.int .i64)) := hown
        go_wp2_with (at_builtin; refine wpList_append_own _ rfl (.tmp 20) (.tmp 22) 32 rfl w.heap.size 3 i0 (.int .i64 0) 1 8 Tryd.underlying32 hi hz0 hz1 hz2 rfl (by decide) _ _ _ rfl (hown'.alloc _) ⟨wr.heap.size, 0, none⟩ 1 1 [.int .i64 ((k : Int) + 1)] rfl rfl (cell_one_new _ _ _) (one_i64 _) (by unfold maxLen; omega) (by omega) (by have := hbw.size; simp; omega) ?_)
        intro v' w2 hown2 hgrow2 _
        have R1 : OwnI w2 w.heap.size v' (placesL (tenB s) (k + 1)) := by rw [HP.out]; exact OwnI.snoc rfl hown2
        have R2 : Below w.heap.size w w2 := (hbw.alloc hbw.size _).grown hgrow2 (by have := hbw.size; simp; omega) (fun j hj => hown.base j hj)
        clear hown2 hgrow2 hown hbw hown'
        go_wp2
        go_roundw
        case rel => exact ⟨k + 1, by omega, by go_num, R1, R2⟩
        case measure => simp [intOf]; omega
      · have R1 := hown
        rw [← placesL_no (tenB_no hlt h10)] at R1
        have b10 : ((s[k].toNat : Int) == 10) = false := by simpa using h10
        clear hown hle
        go_wp2
        go_roundw
        case rel => exact ⟨k + 1, by omega, by go_num, R1, hbw⟩
        case measure => simp [intOf]; omega
    · have e : k = s.size := by omega
      subst e
      rw [← HF.out] at hown
      go_wp2
      go_ret2
      exact ⟨_, rfl, hown, hbw⟩
end Go.Proofs.YtllkbokkhdomoabDoorRR
