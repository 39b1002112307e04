/-
  Contracts of the cuts of ReadPixels and of its model: the model's l1Cut and strings.Cut at a point, strings.CutSuffix at px and strings.CutPrefix at a minus sign, for every string of at most 1048576 bytes.
-/
import Derived.Test.YtijondjiehoafaaDoorRead1
import Derived.Lib.IndexLaws
namespace Go.Proofs.YtijondjiehoafaaDoor
open Go.ChangeShapes Go.WideShapes Go.ChangeAt Go.RowKit

/-- The first point of a text stands at i. -/
def DotAt (t : ByteArray) (i : Nat) : Prop := ∃ h : i < t.size, t[i].toNat = 46 ∧ ∀ j (hj : j < t.size), j < i → t[j].toNat ≠ 46
def NoDot (t : ByteArray) : Prop := ∀ j (hj : j < t.size), t[j].toNat ≠ 46
theorem at_list (t : ByteArray) (j : Nat) (h : j < t.size) : t.data.toList[j]? = some t[j] := by
  rw [List.getElem?_eq_getElem (by simpa using h)]; rfl
theorem dot_byte (c : UInt8) : c.toNat = 46 ↔ c = 46 := ⟨fun h => UInt8.toNat_inj.1 (by rw [h]; rfl), fun h => by rw [h]; rfl⟩
theorem dot_index (t : ByteArray) : (NoDot t ∧ Lib.indexByte t.data.toList 46 = -1) ∨ ∃ i, DotAt t i ∧ Lib.indexByte t.data.toList 46 = (i : Nat) := by
  have hg := Lib.indexByte_ge t.data.toList 46
  by_cases h : Lib.indexByte t.data.toList 46 = -1
  · refine .inl ⟨fun j hj e => ?_, h⟩
    have := Lib.indexByte_none h j
    rw [at_list t j hj, (dot_byte _).1 e] at this
    exact this rfl
  · obtain ⟨o, ho⟩ : ∃ o : Nat, Lib.indexByte t.data.toList 46 = o := ⟨(Lib.indexByte t.data.toList 46).toNat, by omega⟩
    have hs := Lib.indexByte_some ho
    have hlt : o < t.size := by
      rcases Nat.lt_or_ge o t.size with h' | h'
      · exact h'
      · rw [List.getElem?_eq_none (by simpa using h')] at hs; cases hs.1
    refine .inr ⟨o, ⟨hlt, ?_, fun j hj hjo e => ?_⟩, ho⟩
    · have := hs.1
      rw [at_list t o hlt] at this
      exact (dot_byte _).2 (Option.some.inj this)
    · have := hs.2 j hjo
      rw [at_list t j hj, (dot_byte _).1 e] at this
      exact this rfl

set_option maxRecDepth 100000 in
set_option maxHeartbeats 1000000 in
theorem indexByte_any (t : ByteArray) (c : Int) (w : World) :
    Calls Tryd.prog 101 #[.string t, .int .u8 c] w fun e w' => e = .returned (.int .i64 (Lib.indexByte t.data.toList c.toNat.toUInt8)) ∧ w' = w := by
  go_enter Tryd.func101, Tryd.ntmps101
  go_wp2
  rw [run_callFunc_extern Tryd.func110 (by kernel_rfl) (by kernel_rfl) (by kernel_rfl) (e := Extern.BytealgIndexByte.indexByte) (by kernel_rfl), Lib.run_indexByteString]
  simp only [Result.andThen]
  rw [Oper.upon_value]
  go_wp2
  go_ret
  exact ⟨rfl, rfl⟩

set_option maxHeartbeats 1000000 in
theorem index_dot (t : ByteArray) (w : World) :
    Calls Tryd.prog 95 #[.string t, .string ⟨#[46]⟩] w fun e w' => e = .returned (.int .i64 (Lib.indexByte t.data.toList 46)) ∧ w' = w := by
  go_enter Tryd.func95, Tryd.ntmps95
  go_wp2_with (go_at_call 101; refine (indexByte_any _ _ _).mono ?_; rintro e w' ⟨rfl, rfl⟩)
  · have h : ([46] == t.toList) = true := by assumption
    go_ret
    refine ⟨?_, rfl⟩
    have e : t.data.toList = [46] := by rw [← Lib.toList_data]; exact (beq_iff_eq.1 h).symm
    rw [e]
    simp [Lib.indexByte]
  · go_ret
    exact ⟨rfl, rfl⟩

set_option maxHeartbeats 1000000 in
theorem cut_hit (t : ByteArray) (i : Nat) (w : World) (hs : t.size ≤ 1048576) (hd : DotAt t i) (hx : Lib.indexByte t.data.toList 46 = (i : Nat)) :
    Calls Tryd.prog 53 #[.string t, .string ⟨#[46]⟩] w fun e w' => e = .returned (.tuple #[.string (t.extract 0 i), .string (t.extract (i + 1) t.size), .bool true]) ∧ ∃ n, w' = w.drewN n := by
  obtain ⟨hi, _, _⟩ := hd
  have X := fun w' => index_dot t w'
  rw [hx] at X
  clear hx
  have c1 : (0 : Int) ≤ (i : Int) := by omega
  have c2 : (i : Int) ≤ (t.size : Int) := by omega
  have c3 : (0 : Int) ≤ (i : Int) + 1 := by omega
  have c4 : (i : Int) + 1 ≤ (t.size : Int) := by omega
  have K : ∀ w : World, Calls Tryd.prog 80 #[.string t, .string ⟨#[46]⟩] w fun e w' => e = .returned (.tuple #[.string (t.extract 0 i), .string (t.extract (i + 1) t.size), .bool true]) ∧ ∃ n, w' = w.drewN n := by
    intro w
    go_enter Tryd.func80, Tryd.ntmps80
    go_wp2_with (go_at_call 95; refine (X _).mono ?_; rintro e w' ⟨rfl, rfl⟩)
    go_quiet (fail)
    go_wp2
    go_ret3
    exact ⟨rfl, _, rfl⟩
  go_enter Tryd.func53, Tryd.ntmps53
  go_wp2_with (go_at_call 80; refine (K _).mono ?_; rintro e w' ⟨rfl, n, rfl⟩)
  go_ret3
  exact ⟨rfl, _, rfl⟩

set_option maxHeartbeats 1000000 in
theorem cut_miss (t : ByteArray) (w : World) (hx : Lib.indexByte t.data.toList 46 = -1) :
    Calls Tryd.prog 53 #[.string t, .string ⟨#[46]⟩] w fun e w' => e = .returned (.tuple #[.string t, .string ⟨#[]⟩, .bool false]) ∧ w' = w := by
  have X := fun w' => index_dot t w'
  rw [hx] at X
  clear hx
  have K : ∀ w : World, Calls Tryd.prog 80 #[.string t, .string ⟨#[46]⟩] w fun e w' => e = .returned (.tuple #[.string t, .string ⟨#[]⟩, .bool false]) ∧ w' = w := by
    intro w
    go_enter Tryd.func80, Tryd.ntmps80
    go_wp2_with (go_at_call 95; refine (X _).mono ?_; rintro e w' ⟨rfl, rfl⟩)
    go_ret3
    exact ⟨rfl, rfl⟩
  go_enter Tryd.func53, Tryd.ntmps53
  go_wp2_with (go_at_call 80; refine (K _).mono ?_; rintro e w' ⟨rfl, rfl⟩)
  go_ret3
  exact ⟨rfl, rfl⟩


/-- A text ends with px. -/
def pxB (s : ByteArray) : Bool := decide (2 ≤ s.size) && ((s.extract (s.size - 2) s.size).toList == [112, 120])
/-- A text begins with a minus sign. -/
def negB (t : ByteArray) : Bool := decide (1 ≤ t.size) && ((t.extract 0 1).toList == [45])
def bodyOf (t : ByteArray) : ByteArray := if negB t then t.extract 1 t.size else t
def numOf (s : ByteArray) : ByteArray := if pxB s then s.extract 0 (s.size - 2) else s
def dotB (t : ByteArray) : Bool := decide (0 ≤ Lib.indexByte t.data.toList 46)
def wholeOf (t : ByteArray) : ByteArray := if dotB t then t.extract 0 (Lib.indexByte t.data.toList 46).toNat else t
def partOf (t : ByteArray) : ByteArray := if dotB t then t.extract ((Lib.indexByte t.data.toList 46).toNat + 1) t.size else ⟨#[]⟩
theorem ret2S {a b : ByteArray} {x y : Bool} (h : a = b) (k : x = y) : Ending.returned (.tuple #[.string a, .bool x]) = .returned (.tuple #[.string b, .bool y]) := by rw [h, k]

theorem cutSuffix_any (s : ByteArray) (w : World) (hs : s.size ≤ 1048576) :
    Calls Tryd.prog 51 #[.string s, .string ⟨#[112, 120]⟩] w fun e w' => e = .returned (.tuple #[.string (numOf s), .bool (pxB s)]) ∧ w' = w := by
  by_cases h2 : 2 ≤ s.size
  · cases h : ((s.extract (s.size - 2) s.size).toList == [112, 120]) with
    | true =>
      have e : pxB s = true := by simp only [pxB, h, h2, decide_true, Bool.and_self]
      have HE : Hid (pxB s = true) := e
      have HN : Hid (numOf s = s.extract 0 (s.size - 2)) := by show numOf s = _; simp [numOf, e]
      clear e
      go_enter Tryd.func51, Tryd.ntmps51
      go_wp2
      go_ret2
      exact ⟨ret2S HN.out.symm HE.out.symm, rfl⟩
    | false =>
      have e : pxB s = false := by simp only [pxB, h, Bool.and_false]
      have HE : Hid (pxB s = false) := e
      have HN : Hid (numOf s = s) := by show numOf s = _; simp [numOf, e]
      clear e
      go_enter Tryd.func51, Tryd.ntmps51
      go_wp2
      go_ret2
      exact ⟨ret2S HN.out.symm HE.out.symm, rfl⟩
  · have e : pxB s = false := by simp [pxB, h2]
    have HE : Hid (pxB s = false) := e
    have HN : Hid (numOf s = s) := by show numOf s = _; simp [numOf, e]
    clear e
    go_enter Tryd.func51, Tryd.ntmps51
    go_wp2
    go_ret2
    exact ⟨ret2S HN.out.symm HE.out.symm, rfl⟩

theorem cutPrefix_any (s : ByteArray) (w : World) (hs : s.size ≤ 1048576) :
    Calls Tryd.prog 52 #[.string s, .string ⟨#[45]⟩] w fun e w' => e = .returned (.tuple #[.string (bodyOf s), .bool (negB s)]) ∧ w' = w := by
  by_cases h2 : 1 ≤ s.size
  · cases h : ((s.extract 0 1).toList == [45]) with
    | true =>
      have e : negB s = true := by simp only [negB, h, h2, decide_true, Bool.and_self]
      have HE : Hid (negB s = true) := e
      have HN : Hid (bodyOf s = s.extract 1 s.size) := by show bodyOf s = _; simp [bodyOf, e]
      clear e
      go_enter Tryd.func52, Tryd.ntmps52
      go_wp2
      go_ret2
      exact ⟨ret2S HN.out.symm HE.out.symm, rfl⟩
    | false =>
      have e : negB s = false := by simp only [negB, h, Bool.and_false]
      have HE : Hid (negB s = false) := e
      have HN : Hid (bodyOf s = s) := by show bodyOf s = _; simp [bodyOf, e]
      clear e
      go_enter Tryd.func52, Tryd.ntmps52
      go_wp2
      go_ret2
      exact ⟨ret2S HN.out.symm HE.out.symm, rfl⟩
  · have e : negB s = false := by simp [negB, h2]
    have HE : Hid (negB s = false) := e
    have HN : Hid (bodyOf s = s) := by show bodyOf s = _; simp [bodyOf, e]
    clear e
    go_enter Tryd.func52, Tryd.ntmps52
    go_wp2
    go_ret2
    exact ⟨ret2S HN.out.symm HE.out.symm, rfl⟩

theorem cutOf_hit {t : ByteArray} {i : Nat} (h : Lib.indexByte t.data.toList 46 = (i : Nat)) : dotB t = true ∧ wholeOf t = t.extract 0 i ∧ partOf t = t.extract (i + 1) t.size := by
  have e : dotB t = true := decide_eq_true (by omega)
  refine ⟨e, ?_, ?_⟩
  · simp [wholeOf, e, h]
  · simp [partOf, e, h]
theorem cutOf_miss {t : ByteArray} (h : Lib.indexByte t.data.toList 46 = -1) : dotB t = false ∧ wholeOf t = t ∧ partOf t = ⟨#[]⟩ := by
  have e : dotB t = false := decide_eq_false (by omega)
  refine ⟨e, ?_, ?_⟩
  · simp [wholeOf, e]
  · simp [partOf, e]

/-- strings.Cut at a point. -/
theorem cut_any (t : ByteArray) (w : World) (hs : t.size ≤ 1048576) :
    Calls Tryd.prog 53 #[.string t, .string ⟨#[46]⟩] w fun e w' => e = .returned (.tuple #[.string (wholeOf t), .string (partOf t), .bool (dotB t)]) ∧ ∃ n, w' = w.drewN n := by
  rcases dot_index t with ⟨_, h⟩ | ⟨i, hd, h⟩
  · obtain ⟨e1, e2, e3⟩ := cutOf_miss h
    rw [e1, e2, e3]
    exact (cut_miss t w h).mono fun e w' k => ⟨k.1, 0, k.2⟩
  · obtain ⟨e1, e2, e3⟩ := cutOf_hit h
    rw [e1, e2, e3]
    exact cut_hit t i w hs hd h
theorem part_size (t : ByteArray) : (partOf t).size ≤ t.size := by
  unfold partOf
  split
  · simp
  · exact Nat.zero_le _
theorem whole_size (t : ByteArray) : (wholeOf t).size ≤ t.size := by
  unfold wholeOf
  split
  · simp; omega
  · exact Nat.le_refl _
theorem body_size (t : ByteArray) : (bodyOf t).size ≤ t.size := by
  unfold bodyOf
  split
  · simp
  · exact Nat.le_refl _
theorem numOf_size (t : ByteArray) : (numOf t).size ≤ t.size := by
  unfold numOf
  split
  · simp
  · exact Nat.le_refl _
end Go.Proofs.YtijondjiehoafaaDoor
