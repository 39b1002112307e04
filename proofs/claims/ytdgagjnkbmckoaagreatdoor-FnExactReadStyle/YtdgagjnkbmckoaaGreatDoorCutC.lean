/-
  Cuts at a colon: the model's, and strings.Cut.
-/
import Derived.Test.YtdgagjnkbmckoaaGreatDoorRead2
namespace Go.Proofs.YtdgagjnkbmckoaaGreatDoor
open Go.ChangeShapes Go.WideShapes Go.ChangeAt Go.RowKit
set_option linter.unusedVariables false

/-- The first point of a text stands at i. -/
def c_DotAt (t : ByteArray) (i : Nat) : Prop := ∃ h : i < t.size, t[i].toNat = 58 ∧ ∀ j (hj : j < t.size), j < i → t[j].toNat ≠ 58

def c_NoDot (t : ByteArray) : Prop := ∀ j (hj : j < t.size), t[j].toNat ≠ 58

theorem c_dot_byte (c : UInt8) : c.toNat = 58 ↔ c = 58 := ⟨fun h => UInt8.toNat_inj.1 (by rw [h]; rfl), fun h => by rw [h]; rfl⟩

theorem c_dot_index (t : ByteArray) : (c_NoDot t ∧ Lib.indexByte t.data.toList 58 = -1) ∨ ∃ i, c_DotAt t i ∧ Lib.indexByte t.data.toList 58 = (i : Nat) := by
  have hg := Lib.indexByte_ge t.data.toList 58
  by_cases h : Lib.indexByte t.data.toList 58 = -1
  · refine .inl ⟨fun j hj e => ?_, h⟩
    have := Lib.indexByte_none h j
    rw [at_list t j hj, (c_dot_byte _).1 e] at this
    exact this rfl
  · obtain ⟨o, ho⟩ : ∃ o : Nat, Lib.indexByte t.data.toList 58 = o := ⟨(Lib.indexByte t.data.toList 58).toNat, by omega⟩
    have hs := Lib.indexByte_some ho
    have hlt : o < t.size := by
      rcases Nat.lt_or_ge o t.size with h' | h'
      · exact h'
      · rw [List.getElem?_eq_none (by simpa using h')] at hs; cases hs.1
    refine .inr ⟨o, ⟨hlt, ?_, fun j hj hjo e => ?_⟩, ho⟩
    · have := hs.1
      rw [at_list t o hlt] at this
      exact (c_dot_byte _).2 (Option.some.inj this)
    · have := hs.2 j hjo
      rw [at_list t j hj, (c_dot_byte _).1 e] at this
      exact this rfl

set_option maxHeartbeats 1000000 in
theorem c_l1Cut_hit (t : ByteArray) (i : Nat) (w : World) (hs : t.size ≤ 1048576) (hd : c_DotAt t i) :
    Calls Tryz.prog 8 #[.string t, .int .u8 58] w fun e w' => e = .returned (.tuple #[.string (t.extract 0 i), .string (t.extract (i + 1) t.size), .bool true]) ∧ ∃ n, w' = w.drewN n := by
  obtain ⟨hi, h1, h2⟩ := hd
  go_enter Tryz.func8, Tryz.ntmps8
  go_wp2
  go_loop [7] (fun v => ∃ k : Nat, k ≤ i ∧ v = .int .i64 k) (fun v => t.size - (intOf v).toNat)
  case atStart => exact ⟨0, Nat.zero_le _, rfl⟩
  case round =>
    obtain ⟨k, hk, rfl⟩ := hrel
    have hlt : k < t.size := by omega
    by_cases he : k = i
    · subst he
      have hb : (((t[k].toNat : Nat) : Int) == 58) = true := by simp [h1]
      have c1 : (0 : Int) ≤ (k : Int) := by omega
      have c2 : (k : Int) ≤ (t.size : Int) := by omega
      have c3 : (0 : Int) ≤ (k : Int) + 1 := by omega
      have c4 : (k : Int) + 1 ≤ (t.size : Int) := by omega
      clear h1 h2
      go_wp2
      go_quiet (fail)
      go_wp2
      go_ret3
      exact ⟨rfl, _, rfl⟩
    · have hb : (((t[k].toNat : Nat) : Int) == 58) = false := by have := h2 k hlt (by omega); simp; omega
      clear h1 h2
      go_wp2
      go_round
      case rel => exact ⟨k + 1, by omega, by go_num⟩
      case measure => simp [intOf]; omega

set_option maxHeartbeats 1000000 in
theorem c_l1Cut_miss (t : ByteArray) (w : World) (hs : t.size ≤ 1048576) (hd : c_NoDot t) :
    Calls Tryz.prog 8 #[.string t, .int .u8 58] w fun e w' => e = .returned (.tuple #[.string t, .string ⟨#[]⟩, .bool false]) ∧ w' = w := by
  go_enter Tryz.func8, Tryz.ntmps8
  go_wp2
  go_loop [7] (fun v => ∃ k : Nat, k ≤ t.size ∧ v = .int .i64 k) (fun v => t.size - (intOf v).toNat)
  case atStart => exact ⟨0, Nat.zero_le _, rfl⟩
  case round =>
    obtain ⟨k, hk, rfl⟩ := hrel
    by_cases hlt : k < t.size
    · have hb : (((t[k].toNat : Nat) : Int) == 58) = false := by have := hd k hlt; simp; omega
      clear hd
      go_wp2
      go_round
      case rel => exact ⟨k + 1, by omega, by go_num⟩
      case measure => simp [intOf]; omega
    · clear hd
      go_wp2
      go_ret3
      exact ⟨rfl, rfl⟩

def c_dotB (t : ByteArray) : Bool := decide (0 ≤ Lib.indexByte t.data.toList 58)

def c_wholeOf (t : ByteArray) : ByteArray := if c_dotB t then t.extract 0 (Lib.indexByte t.data.toList 58).toNat else t

def c_partOf (t : ByteArray) : ByteArray := if c_dotB t then t.extract ((Lib.indexByte t.data.toList 58).toNat + 1) t.size else ⟨#[]⟩

theorem c_cutOf_hit {t : ByteArray} {i : Nat} (h : Lib.indexByte t.data.toList 58 = (i : Nat)) : c_dotB t = true ∧ c_wholeOf t = t.extract 0 i ∧ c_partOf t = t.extract (i + 1) t.size := by
  have e : c_dotB t = true := decide_eq_true (by omega)
  refine ⟨e, ?_, ?_⟩
  · simp [c_wholeOf, e, h]
  · simp [c_partOf, e, h]

theorem c_cutOf_miss {t : ByteArray} (h : Lib.indexByte t.data.toList 58 = -1) : c_dotB t = false ∧ c_wholeOf t = t ∧ c_partOf t = ⟨#[]⟩ := by
  have e : c_dotB t = false := decide_eq_false (by omega)
  refine ⟨e, ?_, ?_⟩
  · simp [c_wholeOf, e]
  · simp [c_partOf, e]

/-- The model's cut at a point. -/
theorem c_l1Cut_any (t : ByteArray) (w : World) (hs : t.size ≤ 1048576) :
    Calls Tryz.prog 8 #[.string t, .int .u8 58] w fun e w' => e = .returned (.tuple #[.string (c_wholeOf t), .string (c_partOf t), .bool (c_dotB t)]) ∧ ∃ n, w' = w.drewN n := by
  rcases c_dot_index t with ⟨hn, h⟩ | ⟨i, hd, h⟩
  · obtain ⟨e1, e2, e3⟩ := c_cutOf_miss h
    rw [e1, e2, e3]
    exact (c_l1Cut_miss t w hs hn).mono fun e w' k => ⟨k.1, 0, k.2⟩
  · obtain ⟨e1, e2, e3⟩ := c_cutOf_hit h
    rw [e1, e2, e3]
    exact c_l1Cut_hit t i w hs hd

theorem c_part_size (t : ByteArray) : (c_partOf t).size ≤ t.size := by
  unfold c_partOf
  split
  · simp
  · exact Nat.zero_le _

theorem c_whole_size (t : ByteArray) : (c_wholeOf t).size ≤ t.size := by
  unfold c_wholeOf
  split
  · simp; omega
  · exact Nat.le_refl _
end Go.Proofs.YtdgagjnkbmckoaaGreatDoor
