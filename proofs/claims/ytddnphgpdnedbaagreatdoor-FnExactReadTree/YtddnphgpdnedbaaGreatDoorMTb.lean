/-
  Contracts of chapter 3's tests of a white and of a text, of the program and of its model: a white of the five; a text of at most 200 bytes, each plain, a line break, or a tab where tabs may be.
  Contracts of the places behind line breaks, of the program and of its model: both hand back a new row of the places that forcedL names.
-/
import Derived.Test.YtddnphgpdnedbaaGreatDoorMAd
import Derived.Test.YtddnphgpdnedbaaGreatDoorShelf
import Derived.Test.YtddnphgpdnedbaaGreatDoorMOw
namespace Go.Proofs.YtddnphgpdnedbaaGreatDoor
open Go.ChangeShapes Go.WideShapes Go.ChangeAt Go.RowKit
set_option linter.unusedVariables false

/-- A byte of such a text. -/
def okZ (tab : Bool) (z : Int) : Bool := decide ((32 ≤ z ∧ z ≤ 126) ∨ z = 10 ∨ (tab = true ∧ z = 9))
theorem okZ_mk {tab : Bool} {z : Int} (h : (32 ≤ z ∧ z ≤ 126) ∨ z = 10 ∨ (tab = true ∧ z = 9)) : okZ tab z = true := decide_eq_true h
theorem okZ_not {tab : Bool} {z : Int} (h : ¬ ((32 ≤ z ∧ z ≤ 126) ∨ z = 10 ∨ (tab = true ∧ z = 9))) : okZ tab z = false := decide_eq_false h
theorem okZ_yes {tab : Bool} {z : Int} (h : okZ tab z = true) : (32 ≤ z ∧ z ≤ 126) ∨ z = 10 ∨ (tab = true ∧ z = 9) := of_decide_eq_true h
theorem okZ_no {tab : Bool} {z : Int} (h : okZ tab z = false) : ¬ ((32 ≤ z ∧ z ≤ 126) ∨ z = 10 ∨ (tab = true ∧ z = 9)) := of_decide_eq_false h
def textB (tab : Bool) (s : ByteArray) : Bool := decide (∀ j, (h : j < s.size) → okZ tab (s[j].toNat : Int) = true)
theorem textB_at {tab : Bool} {s : ByteArray} (h : textB tab s = true) (j : Nat) (hj : j < s.size) : okZ tab (s[j].toNat : Int) = true := of_decide_eq_true h j hj
theorem textB_mk {tab : Bool} {s : ByteArray} {k : Nat} (hk : ¬ k < s.size) (h : ∀ j, (hj : j < s.size) → j < k → okZ tab (s[j].toNat : Int) = true) : textB tab s = true :=
  decide_eq_true (fun j hj => h j hj (by omega))
theorem textB_not {tab : Bool} {s : ByteArray} {k : Nat} (hk : k < s.size) (h : okZ tab (s[k].toNat : Int) = false) : textB tab s = false :=
  decide_eq_false (fun g => by rw [g k hk] at h; cases h)
/-- A text of this chapter. -/
def okB (tab : Bool) (s : ByteArray) : Bool := decide (s.size ≤ 200) && textB tab s
theorem okB_long {tab : Bool} {s : ByteArray} (h : ¬ s.size ≤ 200) : false = okB tab s := by simp [okB, h]
theorem okB_bad {tab : Bool} {s : ByteArray} (h : textB tab s = false) : false = okB tab s := by simp [okB, h]
theorem okB_good {tab : Bool} {s : ByteArray} (h : textB tab s = true) : decide ((s.size : Int) ≤ 200) = okB tab s := by
  by_cases g : s.size ≤ 200
  · have g' : (s.size : Int) ≤ 200 := by omega
    simp [okB, h, g, g']
  · have g' : ¬ (s.size : Int) ≤ 200 := by omega
    simp [okB, h, g, g']
theorem okB_yes {tab : Bool} {s : ByteArray} (h : okB tab s = true) : s.size ≤ 200 ∧ textB tab s = true := by
  simpa [okB] using h

set_option maxHeartbeats 2000000 in
theorem spec3Text_any (tab : Bool) (s : ByteArray) (w : World) (hs : s.size ≤ maxLen) :
    Calls Tryz.prog 45 #[.string s, .bool tab] w fun e w' => e = .returned (.bool (okB tab s)) ∧ w' = w := by
  unfold maxLen at hs
  go_enter Tryz.func45, Tryz.ntmps45
  go_wp2
  go_loop [5] (fun i => ∃ k : Nat, k ≤ s.size ∧ i = .int .i64 k ∧ ∀ j, (hj : j < s.size) → j < k → okZ tab (s[j].toNat : Int) = true) (fun i => s.size - (intOf i).toNat)
  case atStart => exact ⟨0, Nat.zero_le _, rfl, fun j _ h => absurd h (by omega)⟩
  case round =>
    obtain ⟨k, hk, rfl, hall⟩ := hrel
    by_cases hlt : k < s.size
    · have HA : okZ tab (s[k].toNat : Int) = true → Hid (∀ j, (hj : j < s.size) → j < k + 1 → okZ tab (s[j].toNat : Int) = true) := fun h j hj hjk => by
        by_cases e : j = k
        · subst e; exact h
        · exact hall j hj (by omega)
      have HN : okZ tab (s[k].toNat : Int) = false → Hid (false = okB tab s) := fun h => okB_bad (textB_not hlt h)
      clear hall
      by_cases h1 : (s[k].toNat : Int) < 32
      · by_cases h3 : (s[k].toNat : Int) = 10
        · have HA := HA (okZ_mk (by omega))
          clear HN
          go_wp2
          go_round
          case rel => exact ⟨k + 1, by omega, by go_num, HA.out⟩
          case measure => simp [intOf]; omega
        · cases tab
          · have HN := HN (okZ_not (by simp; omega))
            have b3 : ((s[k].toNat : Int) == 10) = false := by simpa using h3
            have c3 : ((s[k].toNat : Int) != 10) = true := by simpa using h3
            clear HA
            go_wp2
            go_ret
            exact ⟨ret_bool HN.out, rfl⟩
          · by_cases h4 : (s[k].toNat : Int) = 9
            · have HA := HA (okZ_mk (by simp; omega))
              clear HN
              go_wp2
              go_round
              case rel => exact ⟨k + 1, by omega, by go_num, HA.out⟩
              case measure => simp [intOf]; omega
            · have HN := HN (okZ_not (by simp; omega))
              have b3 : ((s[k].toNat : Int) == 10) = false := by simpa using h3
              have c3 : ((s[k].toNat : Int) != 10) = true := by simpa using h3
              have b4 : ((s[k].toNat : Int) == 9) = false := by simpa using h4
              clear HA
              go_wp2
              go_ret
              exact ⟨ret_bool HN.out, rfl⟩
      · by_cases h2 : (s[k].toNat : Int) ≤ 126
        · have HA := HA (okZ_mk (by omega))
          clear HN
          go_wp2
          go_round
          case rel => exact ⟨k + 1, by omega, by go_num, HA.out⟩
          case measure => simp [intOf]; omega
        · have HN := HN (okZ_not (by simp; omega))
          have h3 : ¬ (s[k].toNat : Int) = 10 := by omega
          have h4 : ¬ (s[k].toNat : Int) = 9 := by omega
          have b3 : ((s[k].toNat : Int) == 10) = false := by simpa using h3
          have c3 : ((s[k].toNat : Int) != 10) = true := by simpa using h3
          have b4 : ((s[k].toNat : Int) == 9) = false := by simpa using h4
          clear HA
          cases tab
          · go_wp2
            go_ret
            exact ⟨ret_bool HN.out, rfl⟩
          · go_wp2
            go_ret
            exact ⟨ret_bool HN.out, rfl⟩
    · have HN : Hid (decide ((s.size : Int) ≤ 200) = okB tab s) := okB_good (textB_mk hlt hall)
      clear hall
      go_wp2
      go_ret
      exact ⟨ret_bool HN.out, rfl⟩

/-- The others of a text with tabs and of one without. -/
def othersOf (tab : Bool) : ByteArray := if tab then ⟨#[9, 10]⟩ else ⟨#[10]⟩
theorem others_at (tab : Bool) (c : UInt8) : (0 ≤ Lib.indexByte (othersOf tab).data.toList c) ↔ (c.toNat = 10 ∨ (tab = true ∧ c.toNat = 9)) := by
  have e9 : ((9 : UInt8) = c) ↔ c.toNat = 9 := ⟨fun h => by rw [← h]; rfl, fun h => by apply UInt8.toNat_inj.1; rw [h]; rfl⟩
  have e10 : ((10 : UInt8) = c) ↔ c.toNat = 10 := ⟨fun h => by rw [← h]; rfl, fun h => by apply UInt8.toNat_inj.1; rw [h]; rfl⟩
  cases tab
  · by_cases h : c.toNat = 10
    · simp [othersOf, Lib.indexByte, e10, h]
    · simp [othersOf, Lib.indexByte, e10, h]
  · by_cases h : c.toNat = 10
    · by_cases g : c.toNat = 9
      · omega
      · simp [othersOf, Lib.indexByte, e9, e10, h]
    · by_cases g : c.toNat = 9
      · simp [othersOf, Lib.indexByte, e9, g]
      · simp [othersOf, Lib.indexByte, e9, e10, h, g]

set_option maxHeartbeats 2000000 in
theorem plainOr_any (tab : Bool) (s : ByteArray) (w : World) (hs : s.size ≤ maxLen) :
    Calls Tryz.prog 96 #[.string (othersOf tab), .string s] w fun e w' => e = .returned (.bool (okB tab s)) ∧ w' = w := by
  unfold maxLen at hs
  by_cases h4 : s.size ≤ 200
  rotate_left
  · have h4' : (200 : Int) < (s.size : Int) := by omega
    have HN : Hid (false = okB tab s) := okB_long h4
    go_enter Tryz.func96, Tryz.ntmps96
    go_wp2
    go_ret
    exact ⟨ret_bool HN.out, rfl⟩
  have h4' : (s.size : Int) ≤ 200 := by omega
  have hO := others_at tab
  generalize othersOf tab = O at hO
  go_enter Tryz.func96, Tryz.ntmps96
  go_wp2
  go_loop [11] (fun i => ∃ k : Nat, k ≤ s.size ∧ i = .int .i64 k ∧ ∀ j, (hj : j < s.size) → j < k → okZ tab (s[j].toNat : Int) = true) (fun i => s.size - (intOf i).toNat)
  case atStart => exact ⟨0, Nat.zero_le _, rfl, fun j _ h => absurd h (by omega)⟩
  case round =>
    obtain ⟨k, hk, rfl, hall⟩ := hrel
    by_cases hlt : k < s.size
    · have HA : okZ tab (s[k].toNat : Int) = true → Hid (∀ j, (hj : j < s.size) → j < k + 1 → okZ tab (s[j].toNat : Int) = true) := fun h j hj hjk => by
        by_cases e : j = k
        · subst e; exact h
        · exact hall j hj (by omega)
      have HN : okZ tab (s[k].toNat : Int) = false → Hid (false = okB tab s) := fun h => okB_bad (textB_not hlt h)
      have hOk := hO s[k]
      have IB := fun w => Tryz.strings_IndexByte O (s[k].toNat : Int) w
      have e1 : (s[k].toNat : Int).toNat.toUInt8 = s[k] := by simp
      rw [e1] at IB
      clear hall e1 hO
      cases hB : inB 32 126 (s[k].toNat : Int)
      · have hB' := inB_no hB
        by_cases hI : 0 ≤ Lib.indexByte O.data.toList s[k]
        · have HA := HA (okZ_mk (by
            rcases hOk.1 hI with h | h
            · exact .inr (.inl (by omega))
            · exact .inr (.inr ⟨h.1, by omega⟩)))
          generalize Lib.indexByte O.data.toList s[k] = x at IB hI hOk
          have hI' : ¬ x < 0 := by omega
          clear HN hOk hB'
          go_wp2_with (first | (go_at_call 109; refine (plainByte_any _ _).mono ?_; rintro e w' ⟨rfl, rfl⟩) | (go_at_call 47; refine (IB _).mono ?_; rintro e w' ⟨rfl, rfl⟩))
          go_round
          case rel => exact ⟨k + 1, by omega, by go_num, HA.out⟩
          case measure => simp [intOf]; omega
        · have HN := HN (okZ_not (by
            intro h
            apply hI
            apply hOk.2
            rcases h with h | h | h
            · exact absurd h hB'
            · left; omega
            · right; exact ⟨h.1, by omega⟩))
          generalize Lib.indexByte O.data.toList s[k] = x at IB hI hOk
          have hI' : x < 0 := by omega
          clear HA hOk hB'
          go_wp2_with (first | (go_at_call 109; refine (plainByte_any _ _).mono ?_; rintro e w' ⟨rfl, rfl⟩) | (go_at_call 47; refine (IB _).mono ?_; rintro e w' ⟨rfl, rfl⟩))
          go_ret
          exact ⟨ret_bool HN.out, rfl⟩
      · have HA := HA (okZ_mk (.inl (inB_yes hB)))
        clear HN hOk IB
        go_wp2_with (go_at_call 109; refine (plainByte_any _ _).mono ?_; rintro e w' ⟨rfl, rfl⟩)
        go_round
        case rel => exact ⟨k + 1, by omega, by go_num, HA.out⟩
        case measure => simp [intOf]; omega
    · have HN : Hid (true = okB tab s) := by show _ = _; simp [okB, h4, textB_mk hlt hall]
      clear hall
      go_wp2
      go_ret
      exact ⟨ret_bool HN.out, rfl⟩

theorem isText_any (s : ByteArray) (w : World) (hs : s.size ≤ maxLen) :
    Calls Tryz.prog 78 #[.string s] w fun e w' => e = .returned (.bool (okB true s)) ∧ w' = w := by
  have PO := fun w => plainOr_any true s w hs
  unfold othersOf at PO
  go_enter Tryz.func78, Tryz.ntmps78
  go_wp2_with (go_at_call 96; refine (PO _).mono ?_; rintro e w' ⟨rfl, rfl⟩)
  go_ret
  exact ⟨rfl, rfl⟩

end Go.Proofs.YtddnphgpdnedbaaGreatDoor

namespace Go.Proofs.YtddnphgpdnedbaaGreatDoor
open Go.ChangeShapes Go.WideShapes Go.ChangeAt Go.RowKit
set_option linter.unusedVariables false

/-- The places 1 .. k at which p holds. -/
def placesL (p : Nat → Bool) : Nat → List Int
  | 0 => []
  | k + 1 => if p (k + 1) = true then placesL p k ++ [((k + 1 : Nat) : Int)] else placesL p k
theorem placesL_len (p : Nat → Bool) (k : Nat) : (placesL p k).length ≤ k := by
  induction k with
  | zero => simp [placesL]
  | succ k ih =>
    unfold placesL
    split
    · rw [List.length_append, List.length_singleton]; omega
    · omega
theorem placesL_yes {p : Nat → Bool} {k : Nat} (h : p (k + 1) = true) : placesL p (k + 1) = placesL p k ++ [((k + 1 : Nat) : Int)] := by rw [placesL, if_pos h]
theorem placesL_no {p : Nat → Bool} {k : Nat} (h : p (k + 1) = false) : placesL p (k + 1) = placesL p k := by rw [placesL, if_neg (by rw [h]; decide)]
/-- A line break stands ahead of place i. -/
def tenB (s : ByteArray) (i : Nat) : Bool := decide ((s.data.toList.getD (i - 1) 0).toNat = 10)
theorem at_listF (s : ByteArray) (k : Nat) (h : k < s.size) : s.data.toList.getD k 0 = s[k] := by
  rw [List.getD_eq_getElem?_getD, List.getElem?_eq_getElem (by simpa using h)]; rfl
theorem tenB_yes {s : ByteArray} {k : Nat} (h : k < s.size) (hz : (s[k].toNat : Int) = 10) : tenB s (k + 1) = true := by
  simp only [tenB, Nat.add_sub_cancel]; rw [at_listF s k h]; exact decide_eq_true (by omega)
theorem tenB_no {s : ByteArray} {k : Nat} (h : k < s.size) (hz : ¬ (s[k].toNat : Int) = 10) : tenB s (k + 1) = false := by
  simp only [tenB, Nat.add_sub_cancel]; rw [at_listF s k h]; exact decide_eq_false (by omega)
def forcedL (s : ByteArray) : List Int := if okB false s then placesL (tenB s) s.size else []

set_option maxRecDepth 100000 in
set_option maxHeartbeats 2000000 in
theorem specForcedL_any (s : ByteArray) (w : World) (hs : s.size ≤ 200) :
    Calls Tryz.prog 23 #[.string s] w fun e w' => ∃ v, e = .returned v ∧ OwnI w' w.heap.size v (placesL (tenB s) s.size) ∧ Below w.heap.size w w' := by
  obtain ⟨i0, hi, hz0, hz1, hz2⟩ := info_parts Tryz.infoInt
  have h00 := ownI_nil w w.heap.size
  go_enter Tryz.func23, Tryz.ntmps23
  go_wp2_with fail
  go_loopw [3, 4] (fun v i wr => ∃ k : Nat, k ≤ s.size ∧ i = .int .i64 ((k : Int) + 1) ∧ OwnI wr w.heap.size v (placesL (tenB s) k) ∧ Below w.heap.size w wr) (fun _ i _ => s.size + 1 - (intOf i).toNat)
  case atStart => exact ⟨0, Nat.zero_le _, rfl, h00, Below.refl _ _⟩
  case round =>
    obtain ⟨k, hk, rfl, hown, hbw⟩ := hrel
    clear h00
    by_cases hlt : k < s.size
    · have q1 : (k : Int) + 1 ≤ (s.size : Int) := by omega
      have hle := placesL_len (tenB s) k
      by_cases h10 : (s[k].toNat : Int) = 10
      · have HP : Hid (placesL (tenB s) (k + 1) = placesL (tenB s) k ++ [((k + 1 : Nat) : Int)]) := placesL_yes (tenB_yes hlt h10)
        generalize placesL (tenB s) k = zs at hown HP hle
        have hown' : wr.ownsRow w.heap.size 3 1 _ zs.length (zs.map (Value.int .i64)) := hown
        go_wp2_with (at_builtin; refine wpList_append_own _ rfl (.tmp 16) (.tmp 18) 28 rfl w.heap.size 3 i0 (.int .i64 0) 1 8 Tryz.underlying28 hi hz0 hz1 hz2 rfl (by decide) _ _ _ rfl (hown'.alloc _) ⟨wr.heap.size, 0, none⟩ 1 1 [.int .i64 ((k : Int) + 1)] rfl rfl (cell_one_new _ _ _) (one_i64 _) (by unfold maxLen; omega) (by omega) (by have := hbw.size; simp; omega) ?_)
        intro v' w2 hown2 hgrow2 _
        have R1 : OwnI w2 w.heap.size v' (placesL (tenB s) (k + 1)) := by rw [HP.out]; exact OwnI.snoc rfl hown2
        have R2 : Below w.heap.size w w2 := (hbw.alloc hbw.size _).grown hgrow2 (by have := hbw.size; simp; omega) (fun j hj => hown.base j hj)
        clear hown2 hgrow2 hown hbw hown'
        go_wp2
        go_roundw
        case rel => exact ⟨k + 1, by omega, by go_num, R1, R2⟩
        case measure => simp [intOf]; omega
      · have R1 := hown
        rw [← placesL_no (tenB_no hlt h10)] at R1
        have b10 : ((s[k].toNat : Int) == 10) = false := by simpa using h10
        clear hown hle
        go_wp2
        go_roundw
        case rel => exact ⟨k + 1, by omega, by go_num, R1, hbw⟩
        case measure => simp [intOf]; omega
    · have e : k = s.size := by omega
      subst e
      go_wp2
      go_ret
      exact ⟨_, rfl, hown, hbw⟩

end Go.Proofs.YtddnphgpdnedbaaGreatDoor
