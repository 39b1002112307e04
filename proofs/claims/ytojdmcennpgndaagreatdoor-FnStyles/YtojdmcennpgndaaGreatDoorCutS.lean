/-
  Cuts at a semicolon: the model's, and strings.Cut.
-/
import Derived.Test.YtojdmcennpgndaaGreatDoorRead2
namespace Go.Proofs.YtojdmcennpgndaaGreatDoor
open Go.ChangeShapes Go.WideShapes Go.ChangeAt Go.RowKit
set_option linter.unusedVariables false

/-- The first point of a text stands at i. -/
def s_DotAt (t : ByteArray) (i : Nat) : Prop := ∃ h : i < t.size, t[i].toNat = 59 ∧ ∀ j (hj : j < t.size), j < i → t[j].toNat ≠ 59

def s_NoDot (t : ByteArray) : Prop := ∀ j (hj : j < t.size), t[j].toNat ≠ 59

theorem s_dot_byte (c : UInt8) : c.toNat = 59 ↔ c = 59 := ⟨fun h => UInt8.toNat_inj.1 (by rw [h]; rfl), fun h => by rw [h]; rfl⟩

theorem s_dot_index (t : ByteArray) : (s_NoDot t ∧ Lib.indexByte t.data.toList 59 = -1) ∨ ∃ i, s_DotAt t i ∧ Lib.indexByte t.data.toList 59 = (i : Nat) := by
  have hg := Lib.indexByte_ge t.data.toList 59
  by_cases h : Lib.indexByte t.data.toList 59 = -1
  · refine .inl ⟨fun j hj e => ?_, h⟩
    have := Lib.indexByte_none h j
    rw [at_list t j hj, (s_dot_byte _).1 e] at this
    exact this rfl
  · obtain ⟨o, ho⟩ : ∃ o : Nat, Lib.indexByte t.data.toList 59 = o := ⟨(Lib.indexByte t.data.toList 59).toNat, by omega⟩
    have hs := Lib.indexByte_some ho
    have hlt : o < t.size := by
      rcases Nat.lt_or_ge o t.size with h' | h'
      · exact h'
      · rw [List.getElem?_eq_none (by simpa using h')] at hs; cases hs.1
    refine .inr ⟨o, ⟨hlt, ?_, fun j hj hjo e => ?_⟩, ho⟩
    · have := hs.1
      rw [at_list t o hlt] at this
      exact (s_dot_byte _).2 (Option.some.inj this)
    · have := hs.2 j hjo
      rw [at_list t j hj, (s_dot_byte _).1 e] at this
      exact this rfl

set_option maxHeartbeats 1000000 in
theorem s_index_dot (t : ByteArray) (w : World) :
    Calls Tryz.prog 66 #[.string t, .string ⟨#[59]⟩] w fun e w' => e = .returned (.int .i64 (Lib.indexByte t.data.toList 59)) ∧ w' = w := by
  go_enter Tryz.func66, Tryz.ntmps66
  go_wp2_with (go_at_call 74; refine (indexByte_any _ _ _).mono ?_; rintro e w' ⟨rfl, rfl⟩)
  · have h : ([59] == t.toList) = true := by assumption
    go_ret
    refine ⟨?_, rfl⟩
    have e : t.data.toList = [59] := by rw [← Lib.toList_data]; exact (beq_iff_eq.1 h).symm
    rw [e]
    simp [Lib.indexByte]
  · go_ret
    exact ⟨rfl, rfl⟩

set_option maxHeartbeats 1000000 in
theorem s_cut_hit (t : ByteArray) (i : Nat) (w : World) (hs : t.size ≤ 1048576) (hd : s_DotAt t i) (hx : Lib.indexByte t.data.toList 59 = (i : Nat)) :
    Calls Tryz.prog 49 #[.string t, .string ⟨#[59]⟩] w fun e w' => e = .returned (.tuple #[.string (t.extract 0 i), .string (t.extract (i + 1) t.size), .bool true]) ∧ ∃ n, w' = w.drewN n := by
  obtain ⟨hi, _, _⟩ := hd
  have X := fun w' => s_index_dot t w'
  rw [hx] at X
  clear hx
  have c1 : (0 : Int) ≤ (i : Int) := by omega
  have c2 : (i : Int) ≤ (t.size : Int) := by omega
  have c3 : (0 : Int) ≤ (i : Int) + 1 := by omega
  have c4 : (i : Int) + 1 ≤ (t.size : Int) := by omega
  have K : ∀ w : World, Calls Tryz.prog 59 #[.string t, .string ⟨#[59]⟩] w fun e w' => e = .returned (.tuple #[.string (t.extract 0 i), .string (t.extract (i + 1) t.size), .bool true]) ∧ ∃ n, w' = w.drewN n := by
    intro w
    go_enter Tryz.func59, Tryz.ntmps59
    go_wp2_with (go_at_call 66; refine (X _).mono ?_; rintro e w' ⟨rfl, rfl⟩)
    go_quiet (fail)
    go_wp2
    go_ret3
    exact ⟨rfl, _, rfl⟩
  go_enter Tryz.func49, Tryz.ntmps49
  go_wp2_with (go_at_call 59; refine (K _).mono ?_; rintro e w' ⟨rfl, n, rfl⟩)
  go_ret3
  exact ⟨rfl, _, rfl⟩

set_option maxHeartbeats 1000000 in
theorem s_cut_miss (t : ByteArray) (w : World) (hx : Lib.indexByte t.data.toList 59 = -1) :
    Calls Tryz.prog 49 #[.string t, .string ⟨#[59]⟩] w fun e w' => e = .returned (.tuple #[.string t, .string ⟨#[]⟩, .bool false]) ∧ w' = w := by
  have X := fun w' => s_index_dot t w'
  rw [hx] at X
  clear hx
  have K : ∀ w : World, Calls Tryz.prog 59 #[.string t, .string ⟨#[59]⟩] w fun e w' => e = .returned (.tuple #[.string t, .string ⟨#[]⟩, .bool false]) ∧ w' = w := by
    intro w
    go_enter Tryz.func59, Tryz.ntmps59
    go_wp2_with (go_at_call 66; refine (X _).mono ?_; rintro e w' ⟨rfl, rfl⟩)
    go_ret3
    exact ⟨rfl, rfl⟩
  go_enter Tryz.func49, Tryz.ntmps49
  go_wp2_with (go_at_call 59; refine (K _).mono ?_; rintro e w' ⟨rfl, rfl⟩)
  go_ret3
  exact ⟨rfl, rfl⟩

def s_dotB (t : ByteArray) : Bool := decide (0 ≤ Lib.indexByte t.data.toList 59)

def s_wholeOf (t : ByteArray) : ByteArray := if s_dotB t then t.extract 0 (Lib.indexByte t.data.toList 59).toNat else t

def s_partOf (t : ByteArray) : ByteArray := if s_dotB t then t.extract ((Lib.indexByte t.data.toList 59).toNat + 1) t.size else ⟨#[]⟩

theorem s_cutOf_hit {t : ByteArray} {i : Nat} (h : Lib.indexByte t.data.toList 59 = (i : Nat)) : s_dotB t = true ∧ s_wholeOf t = t.extract 0 i ∧ s_partOf t = t.extract (i + 1) t.size := by
  have e : s_dotB t = true := decide_eq_true (by omega)
  refine ⟨e, ?_, ?_⟩
  · simp [s_wholeOf, e, h]
  · simp [s_partOf, e, h]

theorem s_cutOf_miss {t : ByteArray} (h : Lib.indexByte t.data.toList 59 = -1) : s_dotB t = false ∧ s_wholeOf t = t ∧ s_partOf t = ⟨#[]⟩ := by
  have e : s_dotB t = false := decide_eq_false (by omega)
  refine ⟨e, ?_, ?_⟩
  · simp [s_wholeOf, e]
  · simp [s_partOf, e]

/-- strings.Cut at a point. -/
theorem s_cut_any (t : ByteArray) (w : World) (hs : t.size ≤ 1048576) :
    Calls Tryz.prog 49 #[.string t, .string ⟨#[59]⟩] w fun e w' => e = .returned (.tuple #[.string (s_wholeOf t), .string (s_partOf t), .bool (s_dotB t)]) ∧ ∃ n, w' = w.drewN n := by
  rcases s_dot_index t with ⟨_, h⟩ | ⟨i, hd, h⟩
  · obtain ⟨e1, e2, e3⟩ := s_cutOf_miss h
    rw [e1, e2, e3]
    exact (s_cut_miss t w h).mono fun e w' k => ⟨k.1, 0, k.2⟩
  · obtain ⟨e1, e2, e3⟩ := s_cutOf_hit h
    rw [e1, e2, e3]
    exact s_cut_hit t i w hs hd h

theorem s_part_size (t : ByteArray) : (s_partOf t).size ≤ t.size := by
  unfold s_partOf
  split
  · simp
  · exact Nat.zero_le _

theorem s_whole_size (t : ByteArray) : (s_wholeOf t).size ≤ t.size := by
  unfold s_wholeOf
  split
  · simp; omega
  · exact Nat.le_refl _
end Go.Proofs.YtojdmcennpgndaaGreatDoor
