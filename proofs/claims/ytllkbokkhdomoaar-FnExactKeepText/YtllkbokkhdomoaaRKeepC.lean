/-
  Contract of the program's KeepText: for every white and every text it answers what keepN and keepB name, and leaves older memory alone.
-/
import Derived.Test.YtllkbokkhdomoaaRKeepB
namespace Go.Proofs.YtllkbokkhdomoaaR
open Go.ChangeShapes Go.WideShapes Go.ChangeAt Go.RowKit
set_option linter.unusedVariables false

theorem keep_no {white : Int} {s : ByteArray} (h : keepB white s = false) : Value.tuple #[.string ⟨#[]⟩, .bool false] = .tuple #[.string (keepN white s), .bool (keepB white s)] := by
  have e : keepN white s = ⟨#[]⟩ := by
    unfold keepN
    rw [if_neg]
    intro g
    unfold keepB at h
    rw [g.1, g.2] at h
    cases h
  rw [e, h]
theorem keep_yes {white : Int} {s : ByteArray} {l : List UInt8} (h : keepB white s = true) (hl : l = keepL white s.data.toList) : Value.tuple #[.string ⟨l.toArray⟩, .bool true] = .tuple #[.string (keepN white s), .bool (keepB white s)] := by
  have e : keepN white s = ⟨l.toArray⟩ := by
    unfold keepN
    rw [if_pos (by simpa [keepB] using h), hl]
  rw [e, h]
theorem keepL_pre {white : Int} (l : List UInt8) (h : white = 3 ∨ white = 4) : l.map (blk 9) = keepL white l := by
  unfold keepL
  rw [if_pos h, decide_eq_false (by omega), blk_one]
theorem keepL_line (l : List UInt8) : (joinK (l.map (blk 9)) l.length).1 = keepL 5 l := by
  unfold keepL
  rw [if_neg (by omega), decide_eq_false (by omega), blk_one]
theorem keepL_two {white : Int} (l : List UInt8) (h : white = 1 ∨ white = 2) : (joinK ((l.map (blk 9)).map (blk 10)) l.length).1 = keepL white l := by
  unfold keepL
  rw [if_neg (by omega), decide_eq_true (by omega), blk_two]

theorem size_bytesRow (s : ByteArray) (cap : Nat) : s.size ≤ (bytesRow s cap).size := by
  simp [bytesRow]
theorem below_undrew2 {w w1 : World} {o : Obj} (h : Below w.heap.size (w.alloc o).drew w1) : Below w.heap.size w w1 :=
  ((Below.refl w.heap.size w).alloc (Nat.le_refl _) o).trans ⟨h.os, h.tape, h.output, h.size, h.block⟩

set_option maxHeartbeats 4000000 in
theorem implKeep_any (white : Int) (s : ByteArray) (w : World) (hs : s.size ≤ maxLen) :
    Calls Try.prog 5 #[.int .i64 white, .string s] w fun e w' => e = .returned (.tuple #[.string (keepN white s), .bool (keepB white s)]) ∧ Below w.heap.size w w' := by
  have PL := fun w => isText_any s w hs
  unfold maxLen at hs
  cases hW : inB 1 5 white
  · have HV : Hid (_ = _) := keep_no (white := white) (s := s) (by simp [keepB, hW])
    go_enter Try.func5, Try.ntmps5
    go_wp2_with (go_at_call 9; refine (isWhite_any _ _).mono ?_; rintro e w' ⟨rfl, rfl⟩)
    go_ret2
    exact ⟨congrArg Ending.returned HV.out, Below.refl _ _⟩
  cases hT : okB true s
  · have HV : Hid (_ = _) := keep_no (white := white) (s := s) (by simp [keepB, hT])
    rw [hT] at PL
    go_enter Try.func5, Try.ntmps5
    go_wp2_with (first | (go_at_call 9; refine (isWhite_any _ _).mono ?_; rintro e w' ⟨rfl, rfl⟩) | (go_at_call 10; refine (PL _).mono ?_; rintro e w' ⟨rfl, rfl⟩))
    go_ret2
    exact ⟨congrArg Ending.returned HV.out, Below.refl _ _⟩
  have HB : Hid (keepB white s = true) := by show _ = _; simp [keepB, hW, hT]
  have h200 := (okB_yes hT).1
  rw [hT] at PL
  have kb := fun (w : World) => run_bytes_of_string (P := Try.prog) w 9 29 5 s Try.underlying9 Try.underlying29 Try.underlying5
  have hw5 : white = 1 ∨ white = 2 ∨ white = 3 ∨ white = 4 ∨ white = 5 := by have := inB_yes hW; omega
  have hsz : s.data.toList.length = s.size := by simp
  obtain ⟨l, hl⟩ : ∃ l, l = s.data.toList := ⟨_, rfl⟩
  rw [← hl] at hsz
  have HL : Hid (l = s.data.toList) := hl
  have HS : Hid (s.size = l.length) := hsz.symm
  clear hl hsz hT
  rcases hw5 with h | h | h | h | h
  all_goals subst h
  · go_enter Try.func5, Try.ntmps5
    go_wp2_with (first | (go_at_call 9; refine (isWhite_any _ _).mono ?_; rintro e w' ⟨rfl, hw⟩; have hw := hw.symm; subst hw) | (go_at_call 10; refine (PL _).mono ?_; rintro e w' ⟨rfl, hw⟩; have hw := hw.symm; subst hw))
    refine (blankOut_any _ _ 9 l s.size _ HS.out h200 (by rw [HL.out]; exact brow_new _ s _ _ (size_bytesRow s _))).mono ?_
    rintro e w1 ⟨⟨v1, rfl⟩, hB1, hb1⟩
    have hb1' : Below w.heap.size w w1 := below_undrew2 hb1
    have HS1 : Hid (s.size = (l.map (blk 9)).length) := by show _ = _; rw [List.length_map]; exact HS.out
    clear hb1 PL kb
    go_wp2_with fail
    refine (blankOut_any _ _ 10 (l.map (blk 9)) s.size _ HS1.out h200 hB1).mono ?_
    rintro e w2 ⟨⟨v2, rfl⟩, hB2, hb2⟩
    have hb2' := hb1'.trans hb2
    have HS2 : Hid (s.size = ((l.map (blk 9)).map (blk 10)).length) := by show _ = _; rw [List.length_map]; exact HS1.out
    have HJ : Hid (∀ n, n = l.length → (joinK ((l.map (blk 9)).map (blk 10)) n).1 = keepL 1 s.data.toList) := fun n hn => by subst hn; rw [← HL.out]; exact keepL_two l (by omega)
    generalize (l.map (blk 9)).map (blk 10) = l2 at hB2 HS2 HJ
    clear hb1' hb2 hB1
    go_wp2_with fail
    refine (joinBlanks_any _ _ s.size l2 _ HS2.out h200 hB2).mono ?_
    rintro e w3 ⟨v3, rfl, hown, hb3⟩
    have hb3' := hb2'.trans (hb3.mono hb2'.size)
    have kc := own_back rfl hown
    have HV : Hid (_ = _) := keep_yes HB.out (HJ.out s.size HS.out)
    clear hown hb3 hb2' hB2
    go_wp2
    go_ret2
    exact ⟨congrArg Ending.returned HV.out, hb3'⟩
  · go_enter Try.func5, Try.ntmps5
    go_wp2_with (first | (go_at_call 9; refine (isWhite_any _ _).mono ?_; rintro e w' ⟨rfl, hw⟩; have hw := hw.symm; subst hw) | (go_at_call 10; refine (PL _).mono ?_; rintro e w' ⟨rfl, hw⟩; have hw := hw.symm; subst hw))
    refine (blankOut_any _ _ 9 l s.size _ HS.out h200 (by rw [HL.out]; exact brow_new _ s _ _ (size_bytesRow s _))).mono ?_
    rintro e w1 ⟨⟨v1, rfl⟩, hB1, hb1⟩
    have hb1' : Below w.heap.size w w1 := below_undrew2 hb1
    have HS1 : Hid (s.size = (l.map (blk 9)).length) := by show _ = _; rw [List.length_map]; exact HS.out
    clear hb1 PL kb
    go_wp2_with fail
    refine (blankOut_any _ _ 10 (l.map (blk 9)) s.size _ HS1.out h200 hB1).mono ?_
    rintro e w2 ⟨⟨v2, rfl⟩, hB2, hb2⟩
    have hb2' := hb1'.trans hb2
    have HS2 : Hid (s.size = ((l.map (blk 9)).map (blk 10)).length) := by show _ = _; rw [List.length_map]; exact HS1.out
    have HJ : Hid (∀ n, n = l.length → (joinK ((l.map (blk 9)).map (blk 10)) n).1 = keepL 2 s.data.toList) := fun n hn => by subst hn; rw [← HL.out]; exact keepL_two l (by omega)
    generalize (l.map (blk 9)).map (blk 10) = l2 at hB2 HS2 HJ
    clear hb1' hb2 hB1
    go_wp2_with fail
    refine (joinBlanks_any _ _ s.size l2 _ HS2.out h200 hB2).mono ?_
    rintro e w3 ⟨v3, rfl, hown, hb3⟩
    have hb3' := hb2'.trans (hb3.mono hb2'.size)
    have kc := own_back rfl hown
    have HV : Hid (_ = _) := keep_yes HB.out (HJ.out s.size HS.out)
    clear hown hb3 hb2' hB2
    go_wp2
    go_ret2
    exact ⟨congrArg Ending.returned HV.out, hb3'⟩
  · go_enter Try.func5, Try.ntmps5
    go_wp2_with (first | (go_at_call 9; refine (isWhite_any _ _).mono ?_; rintro e w' ⟨rfl, hw⟩; have hw := hw.symm; subst hw) | (go_at_call 10; refine (PL _).mono ?_; rintro e w' ⟨rfl, hw⟩; have hw := hw.symm; subst hw))
    refine (blankOut_any _ _ 9 l s.size _ HS.out h200 (by rw [HL.out]; exact brow_new _ s _ _ (size_bytesRow s _))).mono ?_
    rintro e w1 ⟨⟨v1, rfl⟩, hB1, hb1⟩
    have hb1' : Below w.heap.size w w1 := below_undrew2 hb1
    have HS1 : Hid (s.size = (l.map (blk 9)).length) := by show _ = _; rw [List.length_map]; exact HS.out
    clear hb1 PL kb
    have kc := hB1.back (grownCap w s.size 0 5)
    rw [← HS1.out] at kc
    have HV : Hid (_ = _) := keep_yes (l := l.map (blk 9)) HB.out (by rw [← HL.out]; exact keepL_pre l (by omega))
    go_wp2
    go_ret2
    exact ⟨congrArg Ending.returned HV.out, hb1'⟩
  · go_enter Try.func5, Try.ntmps5
    go_wp2_with (first | (go_at_call 9; refine (isWhite_any _ _).mono ?_; rintro e w' ⟨rfl, hw⟩; have hw := hw.symm; subst hw) | (go_at_call 10; refine (PL _).mono ?_; rintro e w' ⟨rfl, hw⟩; have hw := hw.symm; subst hw))
    refine (blankOut_any _ _ 9 l s.size _ HS.out h200 (by rw [HL.out]; exact brow_new _ s _ _ (size_bytesRow s _))).mono ?_
    rintro e w1 ⟨⟨v1, rfl⟩, hB1, hb1⟩
    have hb1' : Below w.heap.size w w1 := below_undrew2 hb1
    have HS1 : Hid (s.size = (l.map (blk 9)).length) := by show _ = _; rw [List.length_map]; exact HS.out
    clear hb1 PL kb
    have kc := hB1.back (grownCap w s.size 0 5)
    rw [← HS1.out] at kc
    have HV : Hid (_ = _) := keep_yes (l := l.map (blk 9)) HB.out (by rw [← HL.out]; exact keepL_pre l (by omega))
    go_wp2
    go_ret2
    exact ⟨congrArg Ending.returned HV.out, hb1'⟩
  · go_enter Try.func5, Try.ntmps5
    go_wp2_with (first | (go_at_call 9; refine (isWhite_any _ _).mono ?_; rintro e w' ⟨rfl, hw⟩; have hw := hw.symm; subst hw) | (go_at_call 10; refine (PL _).mono ?_; rintro e w' ⟨rfl, hw⟩; have hw := hw.symm; subst hw))
    refine (blankOut_any _ _ 9 l s.size _ HS.out h200 (by rw [HL.out]; exact brow_new _ s _ _ (size_bytesRow s _))).mono ?_
    rintro e w1 ⟨⟨v1, rfl⟩, hB1, hb1⟩
    have hb1' : Below w.heap.size w w1 := below_undrew2 hb1
    have HS1 : Hid (s.size = (l.map (blk 9)).length) := by show _ = _; rw [List.length_map]; exact HS.out
    clear hb1 PL kb
    have HJ : Hid (∀ n, n = l.length → (joinK (l.map (blk 9)) n).1 = keepL 5 s.data.toList) := fun n hn => by subst hn; rw [← HL.out]; exact keepL_line l
    generalize l.map (blk 9) = l2 at hB1 HS1 HJ
    go_wp2_with fail
    refine (joinBlanks_any _ _ s.size l2 _ HS1.out h200 hB1).mono ?_
    rintro e w3 ⟨v3, rfl, hown, hb3⟩
    have hb3' := hb1'.trans (hb3.mono hb1'.size)
    have kc := own_back rfl hown
    have HV : Hid (_ = _) := keep_yes HB.out (HJ.out s.size HS.out)
    clear hown hb3 hb1' hB1
    go_wp2
    go_ret2
    exact ⟨congrArg Ending.returned HV.out, hb3'⟩
end Go.Proofs.YtllkbokkhdomoaaR
