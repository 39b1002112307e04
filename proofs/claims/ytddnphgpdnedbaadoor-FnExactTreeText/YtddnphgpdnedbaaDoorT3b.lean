/-
  Contracts of chapter 3's tests of a white and of a text, of the program and of its model: a white of the five; a text of at most 200 bytes, each plain, a line break, or a tab where tabs may be.
-/
import Derived.Test.YtddnphgpdnedbaaDoorAdv2
import Derived.Test.YtddnphgpdnedbaaDoorShelf
namespace Go.Proofs.YtddnphgpdnedbaaDoor
open Go.ChangeShapes Go.WideShapes Go.ChangeAt Go.RowKit
set_option linter.unusedVariables false

/-- A byte of such a text. -/
def okZ (tab : Bool) (z : Int) : Bool := decide ((32 ≤ z ∧ z ≤ 126) ∨ z = 10 ∨ (tab = true ∧ z = 9))
theorem okZ_mk {tab : Bool} {z : Int} (h : (32 ≤ z ∧ z ≤ 126) ∨ z = 10 ∨ (tab = true ∧ z = 9)) : okZ tab z = true := decide_eq_true h
theorem okZ_not {tab : Bool} {z : Int} (h : ¬ ((32 ≤ z ∧ z ≤ 126) ∨ z = 10 ∨ (tab = true ∧ z = 9))) : okZ tab z = false := decide_eq_false h
theorem okZ_yes {tab : Bool} {z : Int} (h : okZ tab z = true) : (32 ≤ z ∧ z ≤ 126) ∨ z = 10 ∨ (tab = true ∧ z = 9) := of_decide_eq_true h
theorem okZ_no {tab : Bool} {z : Int} (h : okZ tab z = false) : ¬ ((32 ≤ z ∧ z ≤ 126) ∨ z = 10 ∨ (tab = true ∧ z = 9)) := of_decide_eq_false h
def textB (tab : Bool) (s : ByteArray) : Bool := decide (∀ j, (h : j < s.size) → okZ tab (s[j].toNat : Int) = true)
theorem textB_at {tab : Bool} {s : ByteArray} (h : textB tab s = true) (j : Nat) (hj : j < s.size) : okZ tab (s[j].toNat : Int) = true := of_decide_eq_true h j hj
theorem textB_mk {tab : Bool} {s : ByteArray} {k : Nat} (hk : ¬ k < s.size) (h : ∀ j, (hj : j < s.size) → j < k → okZ tab (s[j].toNat : Int) = true) : textB tab s = true :=
  decide_eq_true (fun j hj => h j hj (by omega))
theorem textB_not {tab : Bool} {s : ByteArray} {k : Nat} (hk : k < s.size) (h : okZ tab (s[k].toNat : Int) = false) : textB tab s = false :=
  decide_eq_false (fun g => by rw [g k hk] at h; cases h)
/-- A text of this chapter. -/
def okB (tab : Bool) (s : ByteArray) : Bool := decide (s.size ≤ 200) && textB tab s
theorem okB_long {tab : Bool} {s : ByteArray} (h : ¬ s.size ≤ 200) : false = okB tab s := by simp [okB, h]
theorem okB_bad {tab : Bool} {s : ByteArray} (h : textB tab s = false) : false = okB tab s := by simp [okB, h]
theorem okB_good {tab : Bool} {s : ByteArray} (h : textB tab s = true) : decide ((s.size : Int) ≤ 200) = okB tab s := by
  by_cases g : s.size ≤ 200
  · have g' : (s.size : Int) ≤ 200 := by omega
    simp [okB, h, g, g']
  · have g' : ¬ (s.size : Int) ≤ 200 := by omega
    simp [okB, h, g, g']
theorem okB_yes {tab : Bool} {s : ByteArray} (h : okB tab s = true) : s.size ≤ 200 ∧ textB tab s = true := by
  simpa [okB] using h

set_option maxHeartbeats 2000000 in
theorem spec3Text_any (tab : Bool) (s : ByteArray) (w : World) (hs : s.size ≤ maxLen) :
    Calls Tryd.prog 24 #[.string s, .bool tab] w fun e w' => e = .returned (.bool (okB tab s)) ∧ w' = w := by
  unfold maxLen at hs
  go_enter Tryd.func24, Tryd.ntmps24
  go_wp2
  go_loop [5] (fun i => ∃ k : Nat, k ≤ s.size ∧ i = .int .i64 k ∧ ∀ j, (hj : j < s.size) → j < k → okZ tab (s[j].toNat : Int) = true) (fun i => s.size - (intOf i).toNat)
  case atStart => exact ⟨0, Nat.zero_le _, rfl, fun j _ h => absurd h (by omega)⟩
  case round =>
    obtain ⟨k, hk, rfl, hall⟩ := hrel
    by_cases hlt : k < s.size
    · have HA : okZ tab (s[k].toNat : Int) = true → Hid (∀ j, (hj : j < s.size) → j < k + 1 → okZ tab (s[j].toNat : Int) = true) := fun h j hj hjk => by
        by_cases e : j = k
        · subst e; exact h
        · exact hall j hj (by omega)
      have HN : okZ tab (s[k].toNat : Int) = false → Hid (false = okB tab s) := fun h => okB_bad (textB_not hlt h)
      clear hall
      by_cases h1 : (s[k].toNat : Int) < 32
      · by_cases h3 : (s[k].toNat : Int) = 10
        · have HA := HA (okZ_mk (by omega))
          clear HN
          go_wp2
          go_round
          case rel => exact ⟨k + 1, by omega, by go_num, HA.out⟩
          case measure => simp [intOf]; omega
        · cases tab
          · have HN := HN (okZ_not (by simp; omega))
            have b3 : ((s[k].toNat : Int) == 10) = false := by simpa using h3
            have c3 : ((s[k].toNat : Int) != 10) = true := by simpa using h3
            clear HA
            go_wp2
            go_ret
            exact ⟨ret_bool HN.out, rfl⟩
          · by_cases h4 : (s[k].toNat : Int) = 9
            · have HA := HA (okZ_mk (by simp; omega))
              clear HN
              go_wp2
              go_round
              case rel => exact ⟨k + 1, by omega, by go_num, HA.out⟩
              case measure => simp [intOf]; omega
            · have HN := HN (okZ_not (by simp; omega))
              have b3 : ((s[k].toNat : Int) == 10) = false := by simpa using h3
              have c3 : ((s[k].toNat : Int) != 10) = true := by simpa using h3
              have b4 : ((s[k].toNat : Int) == 9) = false := by simpa using h4
              clear HA
              go_wp2
              go_ret
              exact ⟨ret_bool HN.out, rfl⟩
      · by_cases h2 : (s[k].toNat : Int) ≤ 126
        · have HA := HA (okZ_mk (by omega))
          clear HN
          go_wp2
          go_round
          case rel => exact ⟨k + 1, by omega, by go_num, HA.out⟩
          case measure => simp [intOf]; omega
        · have HN := HN (okZ_not (by simp; omega))
          have h3 : ¬ (s[k].toNat : Int) = 10 := by omega
          have h4 : ¬ (s[k].toNat : Int) = 9 := by omega
          have b3 : ((s[k].toNat : Int) == 10) = false := by simpa using h3
          have c3 : ((s[k].toNat : Int) != 10) = true := by simpa using h3
          have b4 : ((s[k].toNat : Int) == 9) = false := by simpa using h4
          clear HA
          cases tab
          · go_wp2
            go_ret
            exact ⟨ret_bool HN.out, rfl⟩
          · go_wp2
            go_ret
            exact ⟨ret_bool HN.out, rfl⟩
    · have HN : Hid (decide ((s.size : Int) ≤ 200) = okB tab s) := okB_good (textB_mk hlt hall)
      clear hall
      go_wp2
      go_ret
      exact ⟨ret_bool HN.out, rfl⟩

/-- The others of a text with tabs and of one without. -/
def othersOf (tab : Bool) : ByteArray := if tab then ⟨#[9, 10]⟩ else ⟨#[10]⟩
theorem others_at (tab : Bool) (c : UInt8) : (0 ≤ Lib.indexByte (othersOf tab).data.toList c) ↔ (c.toNat = 10 ∨ (tab = true ∧ c.toNat = 9)) := by
  have e9 : ((9 : UInt8) = c) ↔ c.toNat = 9 := ⟨fun h => by rw [← h]; rfl, fun h => by apply UInt8.toNat_inj.1; rw [h]; rfl⟩
  have e10 : ((10 : UInt8) = c) ↔ c.toNat = 10 := ⟨fun h => by rw [← h]; rfl, fun h => by apply UInt8.toNat_inj.1; rw [h]; rfl⟩
  cases tab
  · by_cases h : c.toNat = 10
    · simp [othersOf, Lib.indexByte, e10, h]
    · simp [othersOf, Lib.indexByte, e10, h]
  · by_cases h : c.toNat = 10
    · by_cases g : c.toNat = 9
      · omega
      · simp [othersOf, Lib.indexByte, e9, e10, h]
    · by_cases g : c.toNat = 9
      · simp [othersOf, Lib.indexByte, e9, g]
      · simp [othersOf, Lib.indexByte, e9, e10, h, g]

set_option maxHeartbeats 2000000 in
theorem plainOr_any (tab : Bool) (s : ByteArray) (w : World) (hs : s.size ≤ maxLen) :
    Calls Tryd.prog 60 #[.string (othersOf tab), .string s] w fun e w' => e = .returned (.bool (okB tab s)) ∧ w' = w := by
  unfold maxLen at hs
  by_cases h4 : s.size ≤ 200
  rotate_left
  · have h4' : (200 : Int) < (s.size : Int) := by omega
    have HN : Hid (false = okB tab s) := okB_long h4
    go_enter Tryd.func60, Tryd.ntmps60
    go_wp2
    go_ret
    exact ⟨ret_bool HN.out, rfl⟩
  have h4' : (s.size : Int) ≤ 200 := by omega
  have hO := others_at tab
  generalize othersOf tab = O at hO
  go_enter Tryd.func60, Tryd.ntmps60
  go_wp2
  go_loop [11] (fun i => ∃ k : Nat, k ≤ s.size ∧ i = .int .i64 k ∧ ∀ j, (hj : j < s.size) → j < k → okZ tab (s[j].toNat : Int) = true) (fun i => s.size - (intOf i).toNat)
  case atStart => exact ⟨0, Nat.zero_le _, rfl, fun j _ h => absurd h (by omega)⟩
  case round =>
    obtain ⟨k, hk, rfl, hall⟩ := hrel
    by_cases hlt : k < s.size
    · have HA : okZ tab (s[k].toNat : Int) = true → Hid (∀ j, (hj : j < s.size) → j < k + 1 → okZ tab (s[j].toNat : Int) = true) := fun h j hj hjk => by
        by_cases e : j = k
        · subst e; exact h
        · exact hall j hj (by omega)
      have HN : okZ tab (s[k].toNat : Int) = false → Hid (false = okB tab s) := fun h => okB_bad (textB_not hlt h)
      have hOk := hO s[k]
      have IB := fun w => Tryd.strings_IndexByte O (s[k].toNat : Int) w
      have e1 : (s[k].toNat : Int).toNat.toUInt8 = s[k] := by simp
      rw [e1] at IB
      clear hall e1 hO
      cases hB : inB 32 126 (s[k].toNat : Int)
      · have hB' := inB_no hB
        by_cases hI : 0 ≤ Lib.indexByte O.data.toList s[k]
        · have HA := HA (okZ_mk (by
            rcases hOk.1 hI with h | h
            · exact .inr (.inl (by omega))
            · exact .inr (.inr ⟨h.1, by omega⟩)))
          generalize Lib.indexByte O.data.toList s[k] = x at IB hI hOk
          have hI' : ¬ x < 0 := by omega
          clear HN hOk hB'
          go_wp2_with (first | (go_at_call 68; refine (plainByte_any _ _).mono ?_; rintro e w' ⟨rfl, rfl⟩) | (go_at_call 69; refine (IB _).mono ?_; rintro e w' ⟨rfl, rfl⟩))
          go_round
          case rel => exact ⟨k + 1, by omega, by go_num, HA.out⟩
          case measure => simp [intOf]; omega
        · have HN := HN (okZ_not (by
            intro h
            apply hI
            apply hOk.2
            rcases h with h | h | h
            · exact absurd h hB'
            · left; omega
            · right; exact ⟨h.1, by omega⟩))
          generalize Lib.indexByte O.data.toList s[k] = x at IB hI hOk
          have hI' : x < 0 := by omega
          clear HA hOk hB'
          go_wp2_with (first | (go_at_call 68; refine (plainByte_any _ _).mono ?_; rintro e w' ⟨rfl, rfl⟩) | (go_at_call 69; refine (IB _).mono ?_; rintro e w' ⟨rfl, rfl⟩))
          go_ret
          exact ⟨ret_bool HN.out, rfl⟩
      · have HA := HA (okZ_mk (.inl (inB_yes hB)))
        clear HN hOk IB
        go_wp2_with (go_at_call 68; refine (plainByte_any _ _).mono ?_; rintro e w' ⟨rfl, rfl⟩)
        go_round
        case rel => exact ⟨k + 1, by omega, by go_num, HA.out⟩
        case measure => simp [intOf]; omega
    · have HN : Hid (true = okB tab s) := by show _ = _; simp [okB, h4, textB_mk hlt hall]
      clear hall
      go_wp2
      go_ret
      exact ⟨ret_bool HN.out, rfl⟩

theorem isText_any (s : ByteArray) (w : World) (hs : s.size ≤ maxLen) :
    Calls Tryd.prog 48 #[.string s] w fun e w' => e = .returned (.bool (okB true s)) ∧ w' = w := by
  have PO := fun w => plainOr_any true s w hs
  unfold othersOf at PO
  go_enter Tryd.func48, Tryd.ntmps48
  go_wp2_with (go_at_call 60; refine (PO _).mono ?_; rintro e w' ⟨rfl, rfl⟩)
  go_ret
  exact ⟨rfl, rfl⟩

end Go.Proofs.YtddnphgpdnedbaaDoor
