/-
  The plain numbers behind ReadPixels: digits, their value, and bounds of it.
  Contracts of the digit readers of ReadPixels and of its model: l1Digits, isDigits, l1Read and digitsValue, for every string of at most 1048576 bytes (the last two: of at most five digits).
  Contracts of the cuts of ReadPixels and of its model: the model's l1Cut and strings.Cut at a point, strings.CutSuffix at px and strings.CutPrefix at a minus sign, for every string of at most 1048576 bytes.
  Cuts at a semicolon: the model's, and strings.Cut.
  Cuts at a colon: the model's, and strings.Cut.
  Contracts of ReadPixels and of its model: both answer readN and readB of the text, for every string of at most 1048576 bytes.
  The model of ReadPixels answers readN and readB of the text, for every string of at most 1048576 bytes.
  The model of ReadPixels, way by way, over what its reader of hundredths answers.
  The program's ReadPixels, way by way, over what its callees answer.
  The program's ReadPixels answers readN and readB of the text, for every string of at most 1048576 bytes.
  The model of ReadPixels answers readN and readB of the text, for every string of at most 1048576 bytes.
  What the program's readers answer, as plain data: a text that begins with another, a text that ends with a percent sign; a size.
-/
import Derived.Test.YtdgagjnkbmckoaaGreatDoorRows
import Derived.WalkKit
import Derived.ProofKit
import Derived.OpenShut
import Derived.WalkSpells
import Derived.Deep.QuietTactic
import Derived.BigQuiet
import Derived.WalkSmall
import Derived.Lib.Bytealg
import Derived.Lib.IndexLaws
namespace Go.Proofs.YtdgagjnkbmckoaaGreatDoor
def digB (t : ByteArray) : Bool := t.data.toList.all (fun c => decide (48 ≤ c.toNat ∧ c.toNat ≤ 57))
def val (l : List UInt8) : Int := l.foldl (fun n c => 10 * n + ((c.toNat : Int) - 48)) 0
theorem val_snoc (l : List UInt8) (c : UInt8) : val (l ++ [c]) = 10 * val l + ((c.toNat : Int) - 48) := by simp [val]
theorem take_byte (s : ByteArray) (k : Nat) (h : k < s.size) : s.data.toList.take (k + 1) = s.data.toList.take k ++ [s[k]] := by
  rw [List.take_succ_eq_append_getElem (by simpa using h)]; rfl
theorem val_next (s : ByteArray) (k : Nat) (h : k < s.size) : val (s.data.toList.take (k + 1)) = 10 * val (s.data.toList.take k) + ((s[k].toNat : Int) - 48) := by
  rw [take_byte s k h, val_snoc]
theorem all_take (s : ByteArray) : s.data.toList.take s.size = s.data.toList := List.take_of_length_le (by simp)
theorem digB_at {s : ByteArray} (h : digB s = true) (k : Nat) (hk : k < s.size) : 48 ≤ s[k].toNat ∧ s[k].toNat ≤ 57 := by
  unfold digB at h
  rw [List.all_eq_true] at h
  have := h s[k] (by show s.data[k] ∈ s.data.toList; simp)
  simpa using this
theorem digB_bad {s : ByteArray} (k : Nat) (hk : k < s.size) (h : ¬ (48 ≤ s[k].toNat ∧ s[k].toNat ≤ 57)) : digB s = false := by
  cases e : digB s with
  | false => rfl
  | true => exact absurd (digB_at e k hk) h
/-- The first k bytes are digits. -/
def DigTo (s : ByteArray) (k : Nat) : Prop := ∀ j (h : j < s.size), j < k → 48 ≤ s[j].toNat ∧ s[j].toNat ≤ 57
theorem digTo_zero (s : ByteArray) : DigTo s 0 := fun j _ h => absurd h (by omega)
theorem digTo_next {s : ByteArray} {k : Nat} (h : DigTo s k) (hk : k < s.size) (d : 48 ≤ s[k].toNat ∧ s[k].toNat ≤ 57) : DigTo s (k + 1) := fun j hj hjk => by
  by_cases e : j = k
  · subst e; exact d
  · exact h j hj (by omega)
theorem digB_all {s : ByteArray} (h : DigTo s s.size) : digB s = true := by
  unfold digB
  rw [List.all_eq_true]
  intro c hc
  obtain ⟨j, hj, rfl⟩ := List.getElem_of_mem hc
  have hj' : j < s.size := by simpa using hj
  have hd := h j hj' hj'
  exact decide_eq_true hd
theorem val_pow (s : ByteArray) (h : digB s = true) : ∀ k, k ≤ s.size → 0 ≤ val (s.data.toList.take k) ∧ val (s.data.toList.take k) + 1 ≤ (10 : Int) ^ k := by
  intro k
  induction k with
  | zero => intro _; simp [val]
  | succ k ih =>
    intro hk
    have h1 := ih (by omega)
    have h2 := digB_at h k (by omega)
    rw [val_next s k (by omega), Int.pow_succ]
    omega
theorem val_bd (s : ByteArray) (h : digB s = true) (k : Nat) (hk : k ≤ s.size) (h5 : k ≤ 5) : 0 ≤ val (s.data.toList.take k) ∧ val (s.data.toList.take k) ≤ 99999 := by
  have h1 := val_pow s h k hk
  have : k = 0 ∨ k = 1 ∨ k = 2 ∨ k = 3 ∨ k = 4 ∨ k = 5 := by omega
  rcases this with rfl | rfl | rfl | rfl | rfl | rfl <;> simp at h1 ⊢ <;> omega
theorem val_bd2 (s : ByteArray) (h : digB s = true) (h2 : s.size ≤ 2) : 0 ≤ val s.data.toList ∧ val s.data.toList ≤ 99 := by
  have h1 := val_pow s h s.size (Nat.le_refl _)
  rw [all_take] at h1
  have : s.size = 0 ∨ s.size = 1 ∨ s.size = 2 := by omega
  rcases this with e | e | e <;> rw [e] at h1 <;> simp at h1 <;> omega
theorem val_bd1 (s : ByteArray) (h : digB s = true) (h2 : s.size = 1) : 0 ≤ val s.data.toList ∧ val s.data.toList ≤ 9 := by
  have h1 := val_pow s h s.size (Nat.le_refl _)
  rw [all_take, h2] at h1
  simp at h1
  omega
theorem val_bd5 (s : ByteArray) (h : digB s = true) (h5 : s.size ≤ 5) : 0 ≤ val s.data.toList ∧ val s.data.toList ≤ 99999 := by
  have := val_bd s h s.size (Nat.le_refl _) h5
  rwa [all_take] at this
end Go.Proofs.YtdgagjnkbmckoaaGreatDoor

namespace Go.Proofs.YtdgagjnkbmckoaaGreatDoor
open Go.ChangeShapes Go.WideShapes Go.ChangeAt Go.RowKit
theorem retI {k : IntKind} {a b : Int} (h : a = b) : Ending.returned (.int k a) = .returned (.int k b) := by rw [h]
theorem retB {a b : Bool} (h : a = b) : Ending.returned (.bool a) = .returned (.bool b) := by rw [h]

set_option maxHeartbeats 1000000 in
theorem l1Digits_any (s : ByteArray) (w : World) (hs : s.size ≤ 1048576) :
    Calls Tryz.prog 27 #[.string s] w fun e w' => e = .returned (.bool (digB s && decide (0 < s.size))) ∧ w' = w := by
  go_enter Tryz.func27, Tryz.ntmps27
  go_wp2
  go_loop [3] (fun i => ∃ k : Nat, k ≤ s.size ∧ i = .int .i64 k ∧ DigTo s k) (fun i => s.size - (intOf i).toNat)
  case atStart => exact ⟨0, Nat.zero_le _, rfl, digTo_zero _⟩
  case round =>
    obtain ⟨k, hk, rfl, hd⟩ := hrel
    by_cases hlt : k < s.size
    · have N := fun d => digTo_next hd hlt d
      have B := digB_bad (s := s) k hlt
      clear hd
      by_cases h1 : 48 ≤ s[k].toNat
      · by_cases h2 : s[k].toNat ≤ 57
        · have HN : Hid (DigTo s (k + 1)) := N ⟨h1, h2⟩
          clear N B
          go_wp2
          go_round
          case rel => exact ⟨k + 1, by omega, by go_num, HN.out⟩
          case measure => simp [intOf]; omega
        · have HB : Hid (digB s = false) := B (by omega)
          clear N B
          go_wp2
          go_ret
          exact ⟨retB (by rw [HB.out]; rfl), rfl⟩
      · have HB : Hid (digB s = false) := B (by omega)
        clear N B
        go_wp2
        go_ret
        exact ⟨retB (by rw [HB.out]; rfl), rfl⟩
    · have e : k = s.size := by omega
      subst e
      have HB : Hid (digB s = true) := digB_all hd
      clear hd
      go_wp2
      go_ret
      exact ⟨retB (by rw [HB.out]; simp), rfl⟩

def digsB (s : ByteArray) (m : Int) : Bool := decide (1 ≤ s.size) && decide ((s.size : Int) ≤ m) && digB s
theorem digsB_short {s : ByteArray} {m : Int} (h : ¬ 1 ≤ s.size) : digsB s m = false := by simp [digsB, h]
theorem digsB_long {s : ByteArray} {m : Int} (h : ¬ (s.size : Int) ≤ m) : digsB s m = false := by simp [digsB, h]
theorem digsB_bad {s : ByteArray} {m : Int} (h : digB s = false) : digsB s m = false := by simp [digsB, h]
theorem digsB_good {s : ByteArray} {m : Int} (h1 : 1 ≤ s.size) (h2 : (s.size : Int) ≤ m) (h : digB s = true) : digsB s m = true := by simp [digsB, h, h1, h2]

set_option maxHeartbeats 1000000 in
theorem isDigits_any (s : ByteArray) (m : Int) (w : World) (hs : s.size ≤ 1048576) :
    Calls Tryz.prog 71 #[.string s, .int .i64 m] w fun e w' => e = .returned (.bool (digsB s m)) ∧ w' = w := by
  by_cases h1 : 1 ≤ s.size
  rotate_left
  · have HB : Hid (digsB s m = false) := digsB_short h1
    go_enter Tryz.func71, Tryz.ntmps71
    go_wp2
    go_ret
    exact ⟨retB HB.out.symm, rfl⟩
  by_cases h2 : (s.size : Int) ≤ m
  rotate_left
  · have HB : Hid (digsB s m = false) := digsB_long h2
    go_enter Tryz.func71, Tryz.ntmps71
    go_wp2
    go_ret
    exact ⟨retB HB.out.symm, rfl⟩
  go_enter Tryz.func71, Tryz.ntmps71
  go_wp2
  go_loop [17] (fun i => ∃ k : Nat, k ≤ s.size ∧ i = .int .i64 k ∧ DigTo s k) (fun i => s.size - (intOf i).toNat)
  case atStart => exact ⟨0, Nat.zero_le _, rfl, digTo_zero _⟩
  case round =>
    obtain ⟨k, hk, rfl, hd⟩ := hrel
    by_cases hlt : k < s.size
    · have N := fun d => digTo_next hd hlt d
      have B := fun h => digsB_bad (m := m) (digB_bad (s := s) k hlt h)
      clear hd
      by_cases g1 : 48 ≤ s[k].toNat
      · by_cases g2 : s[k].toNat ≤ 57
        · have HN : Hid (DigTo s (k + 1)) := N ⟨g1, g2⟩
          clear N B
          go_wp2
          go_round
          case rel => exact ⟨k + 1, by omega, by go_num, HN.out⟩
          case measure => simp [intOf]; omega
        · have HB : Hid (digsB s m = false) := B (by omega)
          clear N B
          go_wp2
          go_ret
          exact ⟨retB HB.out.symm, rfl⟩
      · have HB : Hid (digsB s m = false) := B (by omega)
        clear N B
        go_wp2
        go_ret
        exact ⟨retB HB.out.symm, rfl⟩
    · have e : k = s.size := by omega
      subst e
      have HB : Hid (digsB s m = true) := digsB_good h1 h2 (digB_all hd)
      clear hd
      go_wp2
      go_ret
      exact ⟨retB HB.out.symm, rfl⟩

set_option maxHeartbeats 1000000 in
theorem l1Read_any (s : ByteArray) (w : World) (hs : s.size ≤ 5) (hd : digB s = true) :
    Calls Tryz.prog 28 #[.string s] w fun e w' => e = .returned (.int .i64 (val s.data.toList)) ∧ w' = w := by
  go_enter Tryz.func28, Tryz.ntmps28
  go_wp2
  go_loop [3, 4] (fun n i => ∃ k : Nat, k ≤ s.size ∧ i = .int .i64 k ∧ n = .int .i64 (val (s.data.toList.take k))) (fun _ i => s.size - (intOf i).toNat)
  case atStart => exact ⟨0, Nat.zero_le _, rfl, rfl⟩
  case round =>
    obtain ⟨k, hk, rfl, rfl⟩ := hrel
    by_cases hlt : k < s.size
    · have hb := val_bd s hd k hk (by omega)
      have hv := val_next s k hlt
      have hc := digB_at hd k hlt
      obtain ⟨v, hv'⟩ : ∃ v, v = val (s.data.toList.take k) := ⟨_, rfl⟩
      rw [← hv'] at hb hv
      rw [← hv']
      have HV : Hid (val (s.data.toList.take (k + 1)) = 10 * v + ((s[k].toNat : Int) - 48)) := hv
      clear hv hv' hd
      go_wp2
      go_round
      case rel => exact ⟨k + 1, by omega, by go_num, by rw [HV.out]⟩
      case measure => simp [intOf]; omega
    · have e : k = s.size := by omega
      subst e
      go_wp2
      go_ret
      exact ⟨retI (by rw [all_take]), rfl⟩

set_option maxHeartbeats 1000000 in
theorem digitsValue_any (s : ByteArray) (w : World) (hs : s.size ≤ 5) (hd : digB s = true) :
    Calls Tryz.prog 72 #[.string s] w fun e w' => e = .returned (.int .i64 (val s.data.toList)) ∧ w' = w := by
  go_enter Tryz.func72, Tryz.ntmps72
  go_wp2
  go_loop [3, 7] (fun n i => ∃ k : Nat, k ≤ s.size ∧ i = .int .i64 k ∧ n = .int .i64 (val (s.data.toList.take k))) (fun _ i => s.size - (intOf i).toNat)
  case atStart => exact ⟨0, Nat.zero_le _, rfl, rfl⟩
  case round =>
    obtain ⟨k, hk, rfl, rfl⟩ := hrel
    by_cases hlt : k < s.size
    · have hb := val_bd s hd k hk (by omega)
      have hv := val_next s k hlt
      have hc := digB_at hd k hlt
      obtain ⟨v, hv'⟩ : ∃ v, v = val (s.data.toList.take k) := ⟨_, rfl⟩
      rw [← hv'] at hb hv
      rw [← hv']
      have HV : Hid (val (s.data.toList.take (k + 1)) = 10 * v + ((s[k].toNat : Int) - 48)) := hv
      clear hv hv' hd
      go_wp2
      go_round
      case rel => exact ⟨k + 1, by omega, by go_num, by rw [HV.out]; go_num⟩
      case measure => simp [intOf]; omega
    · have e : k = s.size := by omega
      subst e
      go_wp2
      go_ret
      exact ⟨retI (by rw [all_take]), rfl⟩
end Go.Proofs.YtdgagjnkbmckoaaGreatDoor

namespace Go.Proofs.YtdgagjnkbmckoaaGreatDoor
open Go.ChangeShapes Go.WideShapes Go.ChangeAt Go.RowKit

/-- The first point of a text stands at i. -/
def DotAt (t : ByteArray) (i : Nat) : Prop := ∃ h : i < t.size, t[i].toNat = 46 ∧ ∀ j (hj : j < t.size), j < i → t[j].toNat ≠ 46
def NoDot (t : ByteArray) : Prop := ∀ j (hj : j < t.size), t[j].toNat ≠ 46
theorem at_list (t : ByteArray) (j : Nat) (h : j < t.size) : t.data.toList[j]? = some t[j] := by
  rw [List.getElem?_eq_getElem (by simpa using h)]; rfl
theorem dot_byte (c : UInt8) : c.toNat = 46 ↔ c = 46 := ⟨fun h => UInt8.toNat_inj.1 (by rw [h]; rfl), fun h => by rw [h]; rfl⟩
theorem dot_index (t : ByteArray) : (NoDot t ∧ Lib.indexByte t.data.toList 46 = -1) ∨ ∃ i, DotAt t i ∧ Lib.indexByte t.data.toList 46 = (i : Nat) := by
  have hg := Lib.indexByte_ge t.data.toList 46
  by_cases h : Lib.indexByte t.data.toList 46 = -1
  · refine .inl ⟨fun j hj e => ?_, h⟩
    have := Lib.indexByte_none h j
    rw [at_list t j hj, (dot_byte _).1 e] at this
    exact this rfl
  · obtain ⟨o, ho⟩ : ∃ o : Nat, Lib.indexByte t.data.toList 46 = o := ⟨(Lib.indexByte t.data.toList 46).toNat, by omega⟩
    have hs := Lib.indexByte_some ho
    have hlt : o < t.size := by
      rcases Nat.lt_or_ge o t.size with h' | h'
      · exact h'
      · rw [List.getElem?_eq_none (by simpa using h')] at hs; cases hs.1
    refine .inr ⟨o, ⟨hlt, ?_, fun j hj hjo e => ?_⟩, ho⟩
    · have := hs.1
      rw [at_list t o hlt] at this
      exact (dot_byte _).2 (Option.some.inj this)
    · have := hs.2 j hjo
      rw [at_list t j hj, (dot_byte _).1 e] at this
      exact this rfl

set_option maxHeartbeats 1000000 in
theorem l1Cut_hit (t : ByteArray) (i : Nat) (w : World) (hs : t.size ≤ 1048576) (hd : DotAt t i) :
    Calls Tryz.prog 8 #[.string t, .int .u8 46] w fun e w' => e = .returned (.tuple #[.string (t.extract 0 i), .string (t.extract (i + 1) t.size), .bool true]) ∧ ∃ n, w' = w.drewN n := by
  obtain ⟨hi, h1, h2⟩ := hd
  go_enter Tryz.func8, Tryz.ntmps8
  go_wp2
  go_loop [7] (fun v => ∃ k : Nat, k ≤ i ∧ v = .int .i64 k) (fun v => t.size - (intOf v).toNat)
  case atStart => exact ⟨0, Nat.zero_le _, rfl⟩
  case round =>
    obtain ⟨k, hk, rfl⟩ := hrel
    have hlt : k < t.size := by omega
    by_cases he : k = i
    · subst he
      have hb : (((t[k].toNat : Nat) : Int) == 46) = true := by simp [h1]
      have c1 : (0 : Int) ≤ (k : Int) := by omega
      have c2 : (k : Int) ≤ (t.size : Int) := by omega
      have c3 : (0 : Int) ≤ (k : Int) + 1 := by omega
      have c4 : (k : Int) + 1 ≤ (t.size : Int) := by omega
      clear h1 h2
      go_wp2
      go_quiet (fail)
      go_wp2
      go_ret3
      exact ⟨rfl, _, rfl⟩
    · have hb : (((t[k].toNat : Nat) : Int) == 46) = false := by have := h2 k hlt (by omega); simp; omega
      clear h1 h2
      go_wp2
      go_round
      case rel => exact ⟨k + 1, by omega, by go_num⟩
      case measure => simp [intOf]; omega

set_option maxHeartbeats 1000000 in
theorem l1Cut_miss (t : ByteArray) (w : World) (hs : t.size ≤ 1048576) (hd : NoDot t) :
    Calls Tryz.prog 8 #[.string t, .int .u8 46] w fun e w' => e = .returned (.tuple #[.string t, .string ⟨#[]⟩, .bool false]) ∧ w' = w := by
  go_enter Tryz.func8, Tryz.ntmps8
  go_wp2
  go_loop [7] (fun v => ∃ k : Nat, k ≤ t.size ∧ v = .int .i64 k) (fun v => t.size - (intOf v).toNat)
  case atStart => exact ⟨0, Nat.zero_le _, rfl⟩
  case round =>
    obtain ⟨k, hk, rfl⟩ := hrel
    by_cases hlt : k < t.size
    · have hb : (((t[k].toNat : Nat) : Int) == 46) = false := by have := hd k hlt; simp; omega
      clear hd
      go_wp2
      go_round
      case rel => exact ⟨k + 1, by omega, by go_num⟩
      case measure => simp [intOf]; omega
    · clear hd
      go_wp2
      go_ret3
      exact ⟨rfl, rfl⟩

set_option maxRecDepth 100000 in
set_option maxHeartbeats 1000000 in
theorem indexByte_any (t : ByteArray) (c : Int) (w : World) :
    Calls Tryz.prog 66 #[.string t, .int .u8 c] w fun e w' => e = .returned (.int .i64 (Lib.indexByte t.data.toList c.toNat.toUInt8)) ∧ w' = w := by
  go_enter Tryz.func66, Tryz.ntmps66
  go_wp2
  rw [run_callFunc_extern Tryz.func81 (by kernel_rfl) (by kernel_rfl) (by kernel_rfl) (e := Extern.BytealgIndexByte.indexByte) (by kernel_rfl), Lib.run_indexByteString]
  simp only [Result.andThen]
  rw [Oper.upon_value]
  go_wp2
  go_ret
  exact ⟨rfl, rfl⟩

set_option maxHeartbeats 1000000 in
theorem index_dot (t : ByteArray) (w : World) :
    Calls Tryz.prog 57 #[.string t, .string ⟨#[46]⟩] w fun e w' => e = .returned (.int .i64 (Lib.indexByte t.data.toList 46)) ∧ w' = w := by
  go_enter Tryz.func57, Tryz.ntmps57
  go_wp2_with (go_at_call 66; refine (indexByte_any _ _ _).mono ?_; rintro e w' ⟨rfl, rfl⟩)
  · have h : ([46] == t.toList) = true := by assumption
    go_ret
    refine ⟨?_, rfl⟩
    have e : t.data.toList = [46] := by rw [← Lib.toList_data]; exact (beq_iff_eq.1 h).symm
    rw [e]
    simp [Lib.indexByte]
  · go_ret
    exact ⟨rfl, rfl⟩

set_option maxHeartbeats 1000000 in
theorem cut_hit (t : ByteArray) (i : Nat) (w : World) (hs : t.size ≤ 1048576) (hd : DotAt t i) (hx : Lib.indexByte t.data.toList 46 = (i : Nat)) :
    Calls Tryz.prog 35 #[.string t, .string ⟨#[46]⟩] w fun e w' => e = .returned (.tuple #[.string (t.extract 0 i), .string (t.extract (i + 1) t.size), .bool true]) ∧ ∃ n, w' = w.drewN n := by
  obtain ⟨hi, _, _⟩ := hd
  have X := fun w' => index_dot t w'
  rw [hx] at X
  clear hx
  have c1 : (0 : Int) ≤ (i : Int) := by omega
  have c2 : (i : Int) ≤ (t.size : Int) := by omega
  have c3 : (0 : Int) ≤ (i : Int) + 1 := by omega
  have c4 : (i : Int) + 1 ≤ (t.size : Int) := by omega
  have K : ∀ w : World, Calls Tryz.prog 47 #[.string t, .string ⟨#[46]⟩] w fun e w' => e = .returned (.tuple #[.string (t.extract 0 i), .string (t.extract (i + 1) t.size), .bool true]) ∧ ∃ n, w' = w.drewN n := by
    intro w
    go_enter Tryz.func47, Tryz.ntmps47
    go_wp2_with (go_at_call 57; refine (X _).mono ?_; rintro e w' ⟨rfl, rfl⟩)
    go_quiet (fail)
    go_wp2
    go_ret3
    exact ⟨rfl, _, rfl⟩
  go_enter Tryz.func35, Tryz.ntmps35
  go_wp2_with (go_at_call 47; refine (K _).mono ?_; rintro e w' ⟨rfl, n, rfl⟩)
  go_ret3
  exact ⟨rfl, _, rfl⟩

set_option maxHeartbeats 1000000 in
theorem cut_miss (t : ByteArray) (w : World) (hx : Lib.indexByte t.data.toList 46 = -1) :
    Calls Tryz.prog 35 #[.string t, .string ⟨#[46]⟩] w fun e w' => e = .returned (.tuple #[.string t, .string ⟨#[]⟩, .bool false]) ∧ w' = w := by
  have X := fun w' => index_dot t w'
  rw [hx] at X
  clear hx
  have K : ∀ w : World, Calls Tryz.prog 47 #[.string t, .string ⟨#[46]⟩] w fun e w' => e = .returned (.tuple #[.string t, .string ⟨#[]⟩, .bool false]) ∧ w' = w := by
    intro w
    go_enter Tryz.func47, Tryz.ntmps47
    go_wp2_with (go_at_call 57; refine (X _).mono ?_; rintro e w' ⟨rfl, rfl⟩)
    go_ret3
    exact ⟨rfl, rfl⟩
  go_enter Tryz.func35, Tryz.ntmps35
  go_wp2_with (go_at_call 47; refine (K _).mono ?_; rintro e w' ⟨rfl, rfl⟩)
  go_ret3
  exact ⟨rfl, rfl⟩


/-- A text ends with px. -/
def pxB (s : ByteArray) : Bool := decide (2 ≤ s.size) && ((s.extract (s.size - 2) s.size).toList == [112, 120])
/-- A text begins with a minus sign. -/
def negB (t : ByteArray) : Bool := decide (1 ≤ t.size) && ((t.extract 0 1).toList == [45])
def bodyOf (t : ByteArray) : ByteArray := if negB t then t.extract 1 t.size else t
def numOf (s : ByteArray) : ByteArray := if pxB s then s.extract 0 (s.size - 2) else s
def dotB (t : ByteArray) : Bool := decide (0 ≤ Lib.indexByte t.data.toList 46)
def wholeOf (t : ByteArray) : ByteArray := if dotB t then t.extract 0 (Lib.indexByte t.data.toList 46).toNat else t
def partOf (t : ByteArray) : ByteArray := if dotB t then t.extract ((Lib.indexByte t.data.toList 46).toNat + 1) t.size else ⟨#[]⟩
theorem ret2S {a b : ByteArray} {x y : Bool} (h : a = b) (k : x = y) : Ending.returned (.tuple #[.string a, .bool x]) = .returned (.tuple #[.string b, .bool y]) := by rw [h, k]

theorem cutSuffix_any (s : ByteArray) (w : World) (hs : s.size ≤ 1048576) :
    Calls Tryz.prog 70 #[.string s, .string ⟨#[112, 120]⟩] w fun e w' => e = .returned (.tuple #[.string (numOf s), .bool (pxB s)]) ∧ w' = w := by
  by_cases h2 : 2 ≤ s.size
  · cases h : ((s.extract (s.size - 2) s.size).toList == [112, 120]) with
    | true =>
      have e : pxB s = true := by simp only [pxB, h, h2, decide_true, Bool.and_self]
      have HE : Hid (pxB s = true) := e
      have HN : Hid (numOf s = s.extract 0 (s.size - 2)) := by show numOf s = _; simp [numOf, e]
      clear e
      go_enter Tryz.func70, Tryz.ntmps70
      go_wp2
      go_ret2
      exact ⟨ret2S HN.out.symm HE.out.symm, rfl⟩
    | false =>
      have e : pxB s = false := by simp only [pxB, h, Bool.and_false]
      have HE : Hid (pxB s = false) := e
      have HN : Hid (numOf s = s) := by show numOf s = _; simp [numOf, e]
      clear e
      go_enter Tryz.func70, Tryz.ntmps70
      go_wp2
      go_ret2
      exact ⟨ret2S HN.out.symm HE.out.symm, rfl⟩
  · have e : pxB s = false := by simp [pxB, h2]
    have HE : Hid (pxB s = false) := e
    have HN : Hid (numOf s = s) := by show numOf s = _; simp [numOf, e]
    clear e
    go_enter Tryz.func70, Tryz.ntmps70
    go_wp2
    go_ret2
    exact ⟨ret2S HN.out.symm HE.out.symm, rfl⟩

theorem cutPrefix_any (s : ByteArray) (w : World) (hs : s.size ≤ 1048576) :
    Calls Tryz.prog 34 #[.string s, .string ⟨#[45]⟩] w fun e w' => e = .returned (.tuple #[.string (bodyOf s), .bool (negB s)]) ∧ w' = w := by
  by_cases h2 : 1 ≤ s.size
  · cases h : ((s.extract 0 1).toList == [45]) with
    | true =>
      have e : negB s = true := by simp only [negB, h, h2, decide_true, Bool.and_self]
      have HE : Hid (negB s = true) := e
      have HN : Hid (bodyOf s = s.extract 1 s.size) := by show bodyOf s = _; simp [bodyOf, e]
      clear e
      go_enter Tryz.func34, Tryz.ntmps34
      go_wp2
      go_ret2
      exact ⟨ret2S HN.out.symm HE.out.symm, rfl⟩
    | false =>
      have e : negB s = false := by simp only [negB, h, Bool.and_false]
      have HE : Hid (negB s = false) := e
      have HN : Hid (bodyOf s = s) := by show bodyOf s = _; simp [bodyOf, e]
      clear e
      go_enter Tryz.func34, Tryz.ntmps34
      go_wp2
      go_ret2
      exact ⟨ret2S HN.out.symm HE.out.symm, rfl⟩
  · have e : negB s = false := by simp [negB, h2]
    have HE : Hid (negB s = false) := e
    have HN : Hid (bodyOf s = s) := by show bodyOf s = _; simp [bodyOf, e]
    clear e
    go_enter Tryz.func34, Tryz.ntmps34
    go_wp2
    go_ret2
    exact ⟨ret2S HN.out.symm HE.out.symm, rfl⟩

theorem cutOf_hit {t : ByteArray} {i : Nat} (h : Lib.indexByte t.data.toList 46 = (i : Nat)) : dotB t = true ∧ wholeOf t = t.extract 0 i ∧ partOf t = t.extract (i + 1) t.size := by
  have e : dotB t = true := decide_eq_true (by omega)
  refine ⟨e, ?_, ?_⟩
  · simp [wholeOf, e, h]
  · simp [partOf, e, h]
theorem cutOf_miss {t : ByteArray} (h : Lib.indexByte t.data.toList 46 = -1) : dotB t = false ∧ wholeOf t = t ∧ partOf t = ⟨#[]⟩ := by
  have e : dotB t = false := decide_eq_false (by omega)
  refine ⟨e, ?_, ?_⟩
  · simp [wholeOf, e]
  · simp [partOf, e]

/-- strings.Cut at a point. -/
theorem cut_any (t : ByteArray) (w : World) (hs : t.size ≤ 1048576) :
    Calls Tryz.prog 35 #[.string t, .string ⟨#[46]⟩] w fun e w' => e = .returned (.tuple #[.string (wholeOf t), .string (partOf t), .bool (dotB t)]) ∧ ∃ n, w' = w.drewN n := by
  rcases dot_index t with ⟨_, h⟩ | ⟨i, hd, h⟩
  · obtain ⟨e1, e2, e3⟩ := cutOf_miss h
    rw [e1, e2, e3]
    exact (cut_miss t w h).mono fun e w' k => ⟨k.1, 0, k.2⟩
  · obtain ⟨e1, e2, e3⟩ := cutOf_hit h
    rw [e1, e2, e3]
    exact cut_hit t i w hs hd h
/-- The model's cut at a point. -/
theorem l1Cut_any (t : ByteArray) (w : World) (hs : t.size ≤ 1048576) :
    Calls Tryz.prog 8 #[.string t, .int .u8 46] w fun e w' => e = .returned (.tuple #[.string (wholeOf t), .string (partOf t), .bool (dotB t)]) ∧ ∃ n, w' = w.drewN n := by
  rcases dot_index t with ⟨hn, h⟩ | ⟨i, hd, h⟩
  · obtain ⟨e1, e2, e3⟩ := cutOf_miss h
    rw [e1, e2, e3]
    exact (l1Cut_miss t w hs hn).mono fun e w' k => ⟨k.1, 0, k.2⟩
  · obtain ⟨e1, e2, e3⟩ := cutOf_hit h
    rw [e1, e2, e3]
    exact l1Cut_hit t i w hs hd
theorem part_size (t : ByteArray) : (partOf t).size ≤ t.size := by
  unfold partOf
  split
  · simp
  · exact Nat.zero_le _
theorem whole_size (t : ByteArray) : (wholeOf t).size ≤ t.size := by
  unfold wholeOf
  split
  · simp; omega
  · exact Nat.le_refl _
theorem body_size (t : ByteArray) : (bodyOf t).size ≤ t.size := by
  unfold bodyOf
  split
  · simp
  · exact Nat.le_refl _
theorem numOf_size (t : ByteArray) : (numOf t).size ≤ t.size := by
  unfold numOf
  split
  · simp
  · exact Nat.le_refl _
end Go.Proofs.YtdgagjnkbmckoaaGreatDoor

namespace Go.Proofs.YtdgagjnkbmckoaaGreatDoor
open Go.ChangeShapes Go.WideShapes Go.ChangeAt Go.RowKit
set_option linter.unusedVariables false

/-- The first point of a text stands at i. -/
def s_DotAt (t : ByteArray) (i : Nat) : Prop := ∃ h : i < t.size, t[i].toNat = 59 ∧ ∀ j (hj : j < t.size), j < i → t[j].toNat ≠ 59

def s_NoDot (t : ByteArray) : Prop := ∀ j (hj : j < t.size), t[j].toNat ≠ 59

theorem s_dot_byte (c : UInt8) : c.toNat = 59 ↔ c = 59 := ⟨fun h => UInt8.toNat_inj.1 (by rw [h]; rfl), fun h => by rw [h]; rfl⟩

theorem s_dot_index (t : ByteArray) : (s_NoDot t ∧ Lib.indexByte t.data.toList 59 = -1) ∨ ∃ i, s_DotAt t i ∧ Lib.indexByte t.data.toList 59 = (i : Nat) := by
  have hg := Lib.indexByte_ge t.data.toList 59
  by_cases h : Lib.indexByte t.data.toList 59 = -1
  · refine .inl ⟨fun j hj e => ?_, h⟩
    have := Lib.indexByte_none h j
    rw [at_list t j hj, (s_dot_byte _).1 e] at this
    exact this rfl
  · obtain ⟨o, ho⟩ : ∃ o : Nat, Lib.indexByte t.data.toList 59 = o := ⟨(Lib.indexByte t.data.toList 59).toNat, by omega⟩
    have hs := Lib.indexByte_some ho
    have hlt : o < t.size := by
      rcases Nat.lt_or_ge o t.size with h' | h'
      · exact h'
      · rw [List.getElem?_eq_none (by simpa using h')] at hs; cases hs.1
    refine .inr ⟨o, ⟨hlt, ?_, fun j hj hjo e => ?_⟩, ho⟩
    · have := hs.1
      rw [at_list t o hlt] at this
      exact (s_dot_byte _).2 (Option.some.inj this)
    · have := hs.2 j hjo
      rw [at_list t j hj, (s_dot_byte _).1 e] at this
      exact this rfl

set_option maxHeartbeats 1000000 in
theorem s_l1Cut_hit (t : ByteArray) (i : Nat) (w : World) (hs : t.size ≤ 1048576) (hd : s_DotAt t i) :
    Calls Tryz.prog 8 #[.string t, .int .u8 59] w fun e w' => e = .returned (.tuple #[.string (t.extract 0 i), .string (t.extract (i + 1) t.size), .bool true]) ∧ ∃ n, w' = w.drewN n := by
  obtain ⟨hi, h1, h2⟩ := hd
  go_enter Tryz.func8, Tryz.ntmps8
  go_wp2
  go_loop [7] (fun v => ∃ k : Nat, k ≤ i ∧ v = .int .i64 k) (fun v => t.size - (intOf v).toNat)
  case atStart => exact ⟨0, Nat.zero_le _, rfl⟩
  case round =>
    obtain ⟨k, hk, rfl⟩ := hrel
    have hlt : k < t.size := by omega
    by_cases he : k = i
    · subst he
      have hb : (((t[k].toNat : Nat) : Int) == 59) = true := by simp [h1]
      have c1 : (0 : Int) ≤ (k : Int) := by omega
      have c2 : (k : Int) ≤ (t.size : Int) := by omega
      have c3 : (0 : Int) ≤ (k : Int) + 1 := by omega
      have c4 : (k : Int) + 1 ≤ (t.size : Int) := by omega
      clear h1 h2
      go_wp2
      go_quiet (fail)
      go_wp2
      go_ret3
      exact ⟨rfl, _, rfl⟩
    · have hb : (((t[k].toNat : Nat) : Int) == 59) = false := by have := h2 k hlt (by omega); simp; omega
      clear h1 h2
      go_wp2
      go_round
      case rel => exact ⟨k + 1, by omega, by go_num⟩
      case measure => simp [intOf]; omega

set_option maxHeartbeats 1000000 in
theorem s_l1Cut_miss (t : ByteArray) (w : World) (hs : t.size ≤ 1048576) (hd : s_NoDot t) :
    Calls Tryz.prog 8 #[.string t, .int .u8 59] w fun e w' => e = .returned (.tuple #[.string t, .string ⟨#[]⟩, .bool false]) ∧ w' = w := by
  go_enter Tryz.func8, Tryz.ntmps8
  go_wp2
  go_loop [7] (fun v => ∃ k : Nat, k ≤ t.size ∧ v = .int .i64 k) (fun v => t.size - (intOf v).toNat)
  case atStart => exact ⟨0, Nat.zero_le _, rfl⟩
  case round =>
    obtain ⟨k, hk, rfl⟩ := hrel
    by_cases hlt : k < t.size
    · have hb : (((t[k].toNat : Nat) : Int) == 59) = false := by have := hd k hlt; simp; omega
      clear hd
      go_wp2
      go_round
      case rel => exact ⟨k + 1, by omega, by go_num⟩
      case measure => simp [intOf]; omega
    · clear hd
      go_wp2
      go_ret3
      exact ⟨rfl, rfl⟩

set_option maxHeartbeats 1000000 in
theorem s_index_dot (t : ByteArray) (w : World) :
    Calls Tryz.prog 57 #[.string t, .string ⟨#[59]⟩] w fun e w' => e = .returned (.int .i64 (Lib.indexByte t.data.toList 59)) ∧ w' = w := by
  go_enter Tryz.func57, Tryz.ntmps57
  go_wp2_with (go_at_call 66; refine (indexByte_any _ _ _).mono ?_; rintro e w' ⟨rfl, rfl⟩)
  · have h : ([59] == t.toList) = true := by assumption
    go_ret
    refine ⟨?_, rfl⟩
    have e : t.data.toList = [59] := by rw [← Lib.toList_data]; exact (beq_iff_eq.1 h).symm
    rw [e]
    simp [Lib.indexByte]
  · go_ret
    exact ⟨rfl, rfl⟩

set_option maxHeartbeats 1000000 in
theorem s_cut_hit (t : ByteArray) (i : Nat) (w : World) (hs : t.size ≤ 1048576) (hd : s_DotAt t i) (hx : Lib.indexByte t.data.toList 59 = (i : Nat)) :
    Calls Tryz.prog 35 #[.string t, .string ⟨#[59]⟩] w fun e w' => e = .returned (.tuple #[.string (t.extract 0 i), .string (t.extract (i + 1) t.size), .bool true]) ∧ ∃ n, w' = w.drewN n := by
  obtain ⟨hi, _, _⟩ := hd
  have X := fun w' => s_index_dot t w'
  rw [hx] at X
  clear hx
  have c1 : (0 : Int) ≤ (i : Int) := by omega
  have c2 : (i : Int) ≤ (t.size : Int) := by omega
  have c3 : (0 : Int) ≤ (i : Int) + 1 := by omega
  have c4 : (i : Int) + 1 ≤ (t.size : Int) := by omega
  have K : ∀ w : World, Calls Tryz.prog 47 #[.string t, .string ⟨#[59]⟩] w fun e w' => e = .returned (.tuple #[.string (t.extract 0 i), .string (t.extract (i + 1) t.size), .bool true]) ∧ ∃ n, w' = w.drewN n := by
    intro w
    go_enter Tryz.func47, Tryz.ntmps47
    go_wp2_with (go_at_call 57; refine (X _).mono ?_; rintro e w' ⟨rfl, rfl⟩)
    go_quiet (fail)
    go_wp2
    go_ret3
    exact ⟨rfl, _, rfl⟩
  go_enter Tryz.func35, Tryz.ntmps35
  go_wp2_with (go_at_call 47; refine (K _).mono ?_; rintro e w' ⟨rfl, n, rfl⟩)
  go_ret3
  exact ⟨rfl, _, rfl⟩

set_option maxHeartbeats 1000000 in
theorem s_cut_miss (t : ByteArray) (w : World) (hx : Lib.indexByte t.data.toList 59 = -1) :
    Calls Tryz.prog 35 #[.string t, .string ⟨#[59]⟩] w fun e w' => e = .returned (.tuple #[.string t, .string ⟨#[]⟩, .bool false]) ∧ w' = w := by
  have X := fun w' => s_index_dot t w'
  rw [hx] at X
  clear hx
  have K : ∀ w : World, Calls Tryz.prog 47 #[.string t, .string ⟨#[59]⟩] w fun e w' => e = .returned (.tuple #[.string t, .string ⟨#[]⟩, .bool false]) ∧ w' = w := by
    intro w
    go_enter Tryz.func47, Tryz.ntmps47
    go_wp2_with (go_at_call 57; refine (X _).mono ?_; rintro e w' ⟨rfl, rfl⟩)
    go_ret3
    exact ⟨rfl, rfl⟩
  go_enter Tryz.func35, Tryz.ntmps35
  go_wp2_with (go_at_call 47; refine (K _).mono ?_; rintro e w' ⟨rfl, rfl⟩)
  go_ret3
  exact ⟨rfl, rfl⟩

def s_dotB (t : ByteArray) : Bool := decide (0 ≤ Lib.indexByte t.data.toList 59)

def s_wholeOf (t : ByteArray) : ByteArray := if s_dotB t then t.extract 0 (Lib.indexByte t.data.toList 59).toNat else t

def s_partOf (t : ByteArray) : ByteArray := if s_dotB t then t.extract ((Lib.indexByte t.data.toList 59).toNat + 1) t.size else ⟨#[]⟩

theorem s_cutOf_hit {t : ByteArray} {i : Nat} (h : Lib.indexByte t.data.toList 59 = (i : Nat)) : s_dotB t = true ∧ s_wholeOf t = t.extract 0 i ∧ s_partOf t = t.extract (i + 1) t.size := by
  have e : s_dotB t = true := decide_eq_true (by omega)
  refine ⟨e, ?_, ?_⟩
  · simp [s_wholeOf, e, h]
  · simp [s_partOf, e, h]

theorem s_cutOf_miss {t : ByteArray} (h : Lib.indexByte t.data.toList 59 = -1) : s_dotB t = false ∧ s_wholeOf t = t ∧ s_partOf t = ⟨#[]⟩ := by
  have e : s_dotB t = false := decide_eq_false (by omega)
  refine ⟨e, ?_, ?_⟩
  · simp [s_wholeOf, e]
  · simp [s_partOf, e]

/-- strings.Cut at a point. -/
theorem s_cut_any (t : ByteArray) (w : World) (hs : t.size ≤ 1048576) :
    Calls Tryz.prog 35 #[.string t, .string ⟨#[59]⟩] w fun e w' => e = .returned (.tuple #[.string (s_wholeOf t), .string (s_partOf t), .bool (s_dotB t)]) ∧ ∃ n, w' = w.drewN n := by
  rcases s_dot_index t with ⟨_, h⟩ | ⟨i, hd, h⟩
  · obtain ⟨e1, e2, e3⟩ := s_cutOf_miss h
    rw [e1, e2, e3]
    exact (s_cut_miss t w h).mono fun e w' k => ⟨k.1, 0, k.2⟩
  · obtain ⟨e1, e2, e3⟩ := s_cutOf_hit h
    rw [e1, e2, e3]
    exact s_cut_hit t i w hs hd h

/-- The model's cut at a point. -/
theorem s_l1Cut_any (t : ByteArray) (w : World) (hs : t.size ≤ 1048576) :
    Calls Tryz.prog 8 #[.string t, .int .u8 59] w fun e w' => e = .returned (.tuple #[.string (s_wholeOf t), .string (s_partOf t), .bool (s_dotB t)]) ∧ ∃ n, w' = w.drewN n := by
  rcases s_dot_index t with ⟨hn, h⟩ | ⟨i, hd, h⟩
  · obtain ⟨e1, e2, e3⟩ := s_cutOf_miss h
    rw [e1, e2, e3]
    exact (s_l1Cut_miss t w hs hn).mono fun e w' k => ⟨k.1, 0, k.2⟩
  · obtain ⟨e1, e2, e3⟩ := s_cutOf_hit h
    rw [e1, e2, e3]
    exact s_l1Cut_hit t i w hs hd

theorem s_part_size (t : ByteArray) : (s_partOf t).size ≤ t.size := by
  unfold s_partOf
  split
  · simp
  · exact Nat.zero_le _

theorem s_whole_size (t : ByteArray) : (s_wholeOf t).size ≤ t.size := by
  unfold s_wholeOf
  split
  · simp; omega
  · exact Nat.le_refl _
end Go.Proofs.YtdgagjnkbmckoaaGreatDoor

namespace Go.Proofs.YtdgagjnkbmckoaaGreatDoor
open Go.ChangeShapes Go.WideShapes Go.ChangeAt Go.RowKit
set_option linter.unusedVariables false

/-- The first point of a text stands at i. -/
def c_DotAt (t : ByteArray) (i : Nat) : Prop := ∃ h : i < t.size, t[i].toNat = 58 ∧ ∀ j (hj : j < t.size), j < i → t[j].toNat ≠ 58

def c_NoDot (t : ByteArray) : Prop := ∀ j (hj : j < t.size), t[j].toNat ≠ 58

theorem c_dot_byte (c : UInt8) : c.toNat = 58 ↔ c = 58 := ⟨fun h => UInt8.toNat_inj.1 (by rw [h]; rfl), fun h => by rw [h]; rfl⟩

theorem c_dot_index (t : ByteArray) : (c_NoDot t ∧ Lib.indexByte t.data.toList 58 = -1) ∨ ∃ i, c_DotAt t i ∧ Lib.indexByte t.data.toList 58 = (i : Nat) := by
  have hg := Lib.indexByte_ge t.data.toList 58
  by_cases h : Lib.indexByte t.data.toList 58 = -1
  · refine .inl ⟨fun j hj e => ?_, h⟩
    have := Lib.indexByte_none h j
    rw [at_list t j hj, (c_dot_byte _).1 e] at this
    exact this rfl
  · obtain ⟨o, ho⟩ : ∃ o : Nat, Lib.indexByte t.data.toList 58 = o := ⟨(Lib.indexByte t.data.toList 58).toNat, by omega⟩
    have hs := Lib.indexByte_some ho
    have hlt : o < t.size := by
      rcases Nat.lt_or_ge o t.size with h' | h'
      · exact h'
      · rw [List.getElem?_eq_none (by simpa using h')] at hs; cases hs.1
    refine .inr ⟨o, ⟨hlt, ?_, fun j hj hjo e => ?_⟩, ho⟩
    · have := hs.1
      rw [at_list t o hlt] at this
      exact (c_dot_byte _).2 (Option.some.inj this)
    · have := hs.2 j hjo
      rw [at_list t j hj, (c_dot_byte _).1 e] at this
      exact this rfl

set_option maxHeartbeats 1000000 in
theorem c_l1Cut_hit (t : ByteArray) (i : Nat) (w : World) (hs : t.size ≤ 1048576) (hd : c_DotAt t i) :
    Calls Tryz.prog 8 #[.string t, .int .u8 58] w fun e w' => e = .returned (.tuple #[.string (t.extract 0 i), .string (t.extract (i + 1) t.size), .bool true]) ∧ ∃ n, w' = w.drewN n := by
  obtain ⟨hi, h1, h2⟩ := hd
  go_enter Tryz.func8, Tryz.ntmps8
  go_wp2
  go_loop [7] (fun v => ∃ k : Nat, k ≤ i ∧ v = .int .i64 k) (fun v => t.size - (intOf v).toNat)
  case atStart => exact ⟨0, Nat.zero_le _, rfl⟩
  case round =>
    obtain ⟨k, hk, rfl⟩ := hrel
    have hlt : k < t.size := by omega
    by_cases he : k = i
    · subst he
      have hb : (((t[k].toNat : Nat) : Int) == 58) = true := by simp [h1]
      have c1 : (0 : Int) ≤ (k : Int) := by omega
      have c2 : (k : Int) ≤ (t.size : Int) := by omega
      have c3 : (0 : Int) ≤ (k : Int) + 1 := by omega
      have c4 : (k : Int) + 1 ≤ (t.size : Int) := by omega
      clear h1 h2
      go_wp2
      go_quiet (fail)
      go_wp2
      go_ret3
      exact ⟨rfl, _, rfl⟩
    · have hb : (((t[k].toNat : Nat) : Int) == 58) = false := by have := h2 k hlt (by omega); simp; omega
      clear h1 h2
      go_wp2
      go_round
      case rel => exact ⟨k + 1, by omega, by go_num⟩
      case measure => simp [intOf]; omega

set_option maxHeartbeats 1000000 in
theorem c_l1Cut_miss (t : ByteArray) (w : World) (hs : t.size ≤ 1048576) (hd : c_NoDot t) :
    Calls Tryz.prog 8 #[.string t, .int .u8 58] w fun e w' => e = .returned (.tuple #[.string t, .string ⟨#[]⟩, .bool false]) ∧ w' = w := by
  go_enter Tryz.func8, Tryz.ntmps8
  go_wp2
  go_loop [7] (fun v => ∃ k : Nat, k ≤ t.size ∧ v = .int .i64 k) (fun v => t.size - (intOf v).toNat)
  case atStart => exact ⟨0, Nat.zero_le _, rfl⟩
  case round =>
    obtain ⟨k, hk, rfl⟩ := hrel
    by_cases hlt : k < t.size
    · have hb : (((t[k].toNat : Nat) : Int) == 58) = false := by have := hd k hlt; simp; omega
      clear hd
      go_wp2
      go_round
      case rel => exact ⟨k + 1, by omega, by go_num⟩
      case measure => simp [intOf]; omega
    · clear hd
      go_wp2
      go_ret3
      exact ⟨rfl, rfl⟩

def c_dotB (t : ByteArray) : Bool := decide (0 ≤ Lib.indexByte t.data.toList 58)

def c_wholeOf (t : ByteArray) : ByteArray := if c_dotB t then t.extract 0 (Lib.indexByte t.data.toList 58).toNat else t

def c_partOf (t : ByteArray) : ByteArray := if c_dotB t then t.extract ((Lib.indexByte t.data.toList 58).toNat + 1) t.size else ⟨#[]⟩

theorem c_cutOf_hit {t : ByteArray} {i : Nat} (h : Lib.indexByte t.data.toList 58 = (i : Nat)) : c_dotB t = true ∧ c_wholeOf t = t.extract 0 i ∧ c_partOf t = t.extract (i + 1) t.size := by
  have e : c_dotB t = true := decide_eq_true (by omega)
  refine ⟨e, ?_, ?_⟩
  · simp [c_wholeOf, e, h]
  · simp [c_partOf, e, h]

theorem c_cutOf_miss {t : ByteArray} (h : Lib.indexByte t.data.toList 58 = -1) : c_dotB t = false ∧ c_wholeOf t = t ∧ c_partOf t = ⟨#[]⟩ := by
  have e : c_dotB t = false := decide_eq_false (by omega)
  refine ⟨e, ?_, ?_⟩
  · simp [c_wholeOf, e]
  · simp [c_partOf, e]

/-- The model's cut at a point. -/
theorem c_l1Cut_any (t : ByteArray) (w : World) (hs : t.size ≤ 1048576) :
    Calls Tryz.prog 8 #[.string t, .int .u8 58] w fun e w' => e = .returned (.tuple #[.string (c_wholeOf t), .string (c_partOf t), .bool (c_dotB t)]) ∧ ∃ n, w' = w.drewN n := by
  rcases c_dot_index t with ⟨hn, h⟩ | ⟨i, hd, h⟩
  · obtain ⟨e1, e2, e3⟩ := c_cutOf_miss h
    rw [e1, e2, e3]
    exact (c_l1Cut_miss t w hs hn).mono fun e w' k => ⟨k.1, 0, k.2⟩
  · obtain ⟨e1, e2, e3⟩ := c_cutOf_hit h
    rw [e1, e2, e3]
    exact c_l1Cut_hit t i w hs hd

theorem c_part_size (t : ByteArray) : (c_partOf t).size ≤ t.size := by
  unfold c_partOf
  split
  · simp
  · exact Nat.zero_le _

theorem c_whole_size (t : ByteArray) : (c_wholeOf t).size ≤ t.size := by
  unfold c_wholeOf
  split
  · simp; omega
  · exact Nat.le_refl _
end Go.Proofs.YtdgagjnkbmckoaaGreatDoor

namespace Go.Proofs.YtdgagjnkbmckoaaGreatDoor
open Go.ChangeShapes Go.WideShapes Go.ChangeAt Go.RowKit

theorem ret2I {a b : Int} {x y : Bool} (h : a = b) (k : x = y) : Ending.returned (.tuple #[.int .i64 a, .bool x]) = .returned (.tuple #[.int .i64 b, .bool y]) := by rw [h, k]
/-- The hundredths that the part behind a point tells. -/
def hund (p : ByteArray) : Int := if p.size = 1 then 10 * val p.data.toList else val p.data.toList
/-- A number as ReadPixels wants it. -/
def fitB (b : ByteArray) : Bool := digsB (wholeOf b) 5 && (!dotB b || digsB (partOf b) 2)
def lenGood (n : Int) : Bool := decide (-1000000 ≤ n ∧ n ≤ 1000000)
def amount (b : ByteArray) : Int := val (wholeOf b).data.toList * 64 + hund (partOf b) * 64 / 100
def signed (t : ByteArray) : Int := if negB t then -(amount (bodyOf t)) else amount (bodyOf t)
def readB (s : ByteArray) : Bool := pxB s && (fitB (bodyOf (numOf s)) && lenGood (signed (numOf s)))
def readN (s : ByteArray) : Int := if readB s then signed (numOf s) else 0

theorem digB_empty : digB ⟨#[]⟩ = true := rfl
theorem fit_parts {b : ByteArray} (h : fitB b = true) : (wholeOf b).size ≤ 5 ∧ digB (wholeOf b) = true ∧ (partOf b).size ≤ 2 ∧ digB (partOf b) = true := by
  unfold fitB at h
  rw [Bool.and_eq_true] at h
  obtain ⟨h1, h2⟩ := h
  unfold digsB at h1
  simp only [Bool.and_eq_true, decide_eq_true_eq] at h1
  refine ⟨by omega, h1.2, ?_⟩
  cases hd : dotB b with
  | false =>
    have e : partOf b = ⟨#[]⟩ := by simp [partOf, hd]
    rw [e]
    exact ⟨Nat.zero_le _, digB_empty⟩
  | true =>
    rw [hd] at h2
    simp only [Bool.not_true, Bool.false_or] at h2
    unfold digsB at h2
    simp only [Bool.and_eq_true, decide_eq_true_eq] at h2
    exact ⟨by omega, h2.2⟩
theorem hund_bd {p : ByteArray} (h : digB p = true) (h2 : p.size ≤ 2) : 0 ≤ hund p ∧ hund p ≤ 99 := by
  unfold hund
  have b2 := val_bd2 p h h2
  split
  · rename_i e
    have := val_bd1 p h e
    omega
  · exact b2

set_option maxHeartbeats 1000000 in
theorem hundredthsOf_any (p : ByteArray) (w : World) (h : digB p = true) (h2 : p.size ≤ 2) :
    Calls Tryz.prog 77 #[.string p] w fun e w' => e = .returned (.int .i64 (hund p)) ∧ w' = w := by
  have D := fun w' => digitsValue_any p w' (by omega) h
  have b2 := val_bd2 p h h2
  by_cases e : p.size = 1
  · have HH : Hid (hund p = 10 * val p.data.toList) := by show hund p = _; simp [hund, e]
    obtain ⟨v, hv⟩ : ∃ v, v = val p.data.toList := ⟨_, rfl⟩
    have HH' : Hid (hund p = 10 * v) := by rw [hv]; exact HH
    rw [← hv] at D b2
    clear hv HH h
    have e' : ((p.size : Int) == 1) = true := by simp [e]
    clear e
    go_enter Tryz.func77, Tryz.ntmps77
    go_wp2_with (go_at_call 72; refine (D _).mono ?_; rintro e w' ⟨rfl, rfl⟩)
    go_ret
    exact ⟨retI (by rw [HH'.out]; omega), rfl⟩
  · have HH : Hid (hund p = val p.data.toList) := by show hund p = _; simp [hund, e]
    obtain ⟨v, hv⟩ : ∃ v, v = val p.data.toList := ⟨_, rfl⟩
    have HH' : Hid (hund p = v) := by rw [hv]; exact HH
    rw [← hv] at D b2
    clear hv HH h
    have e' : ((p.size : Int) == 1) = false := by simp; omega
    clear e
    go_enter Tryz.func77, Tryz.ntmps77
    go_wp2_with (go_at_call 72; refine (D _).mono ?_; rintro e w' ⟨rfl, rfl⟩)
    go_ret
    exact ⟨retI (by rw [HH'.out]), rfl⟩

theorem told_yes (n : Int) (w : World) (h1 : -1000000 ≤ n) (h2 : n ≤ 1000000) :
    Calls Tryz.prog 78 #[.int .i64 n] w fun e w' => e = .returned (.tuple #[.int .i64 n, .bool true]) ∧ w' = w := by
  go_enter Tryz.func78, Tryz.ntmps78
  go_wp2
  go_ret2
  exact ⟨rfl, rfl⟩
theorem told_no (n : Int) (w : World) (h : ¬ (-1000000 ≤ n ∧ n ≤ 1000000)) :
    Calls Tryz.prog 78 #[.int .i64 n] w fun e w' => e = .returned (.tuple #[.int .i64 0, .bool false]) ∧ w' = w := by
  by_cases h1 : -1000000 ≤ n
  · have h2 : ¬ n ≤ 1000000 := by omega
    clear h
    go_enter Tryz.func78, Tryz.ntmps78
    go_wp2
    go_ret2
    exact ⟨rfl, rfl⟩
  · clear h
    go_enter Tryz.func78, Tryz.ntmps78
    go_wp2
    go_ret2
    exact ⟨rfl, rfl⟩
theorem told_any (n : Int) (w : World) :
    Calls Tryz.prog 78 #[.int .i64 n] w fun e w' => e = .returned (.tuple #[.int .i64 (if lenGood n then n else 0), .bool (lenGood n)]) ∧ w' = w := by
  by_cases h : -1000000 ≤ n ∧ n ≤ 1000000
  · have e : lenGood n = true := decide_eq_true h
    simp only [e, if_true]
    exact told_yes n w h.1 h.2
  · have e : lenGood n = false := decide_eq_false h
    simp only [e, Bool.false_eq_true, if_false]
    exact told_no n w h
end Go.Proofs.YtdgagjnkbmckoaaGreatDoor

namespace Go.Proofs.YtdgagjnkbmckoaaGreatDoor
open Go.ChangeShapes Go.WideShapes Go.ChangeAt Go.RowKit
set_option linter.unusedVariables false
theorem l1D_yes (s : ByteArray) (m : Int) (w : World) (hs : s.size ≤ 1048576) (h : digsB s m = true) :
    Calls Tryz.prog 27 #[.string s] w fun e w' => e = .returned (.bool true) ∧ w' = w := by
  have e : (digB s && decide (0 < s.size)) = true := by
    unfold digsB at h
    simp only [Bool.and_eq_true, decide_eq_true_eq] at h
    simp only [Bool.and_eq_true, decide_eq_true_eq]
    exact ⟨h.2, by omega⟩
  have := l1Digits_any s w hs
  rwa [e] at this
theorem l1D_no (s : ByteArray) (m : Int) (w : World) (hs : s.size ≤ 1048576) (h : digsB s m = false) (hm : (s.size : Int) ≤ m) :
    Calls Tryz.prog 27 #[.string s] w fun e w' => e = .returned (.bool false) ∧ w' = w := by
  have e : (digB s && decide (0 < s.size)) = false := by
    unfold digsB at h
    simp only [hm, decide_true, Bool.and_true] at h
    cases hd : digB s with
    | false => rfl
    | true =>
      rw [hd] at h
      simp only [Bool.and_true] at h
      have : ¬ 1 ≤ s.size := by simpa using h
      have e0 : s.size = 0 := by omega
      simp [e0]
  have := l1Digits_any s w hs
  rwa [e] at this
theorem neg_first (t : ByteArray) (h : 1 ≤ t.size) : negB t = (((t[0].toNat : Nat) : Int) == 45) := by
  have e : (t.extract 0 1).toList = [t[0]] := by
    rw [Lib.toList_data, ByteArray.data_extract, Array.toList_extract]
    have := take_byte t 0 (by omega)
    simpa using this
  unfold negB
  rw [e]
  simp only [h, decide_true, Bool.true_and]
  rw [Bool.eq_iff_iff]
  simp only [beq_iff_eq, List.cons.injEq, and_true]
  constructor
  · intro k; rw [k]; rfl
  · intro k; exact UInt8.toNat_inj.1 (by have : t[0].toNat = 45 := by omega
                                         rw [this]; rfl)
theorem neg_empty (t : ByteArray) (h : ¬ 1 ≤ t.size) : negB t = false := by simp [negB, h]

set_option maxHeartbeats 1000000 in
theorem hu_neg_a (t wh pt : ByteArray) (dot : Bool) (w : World) (hs : t.size ≤ 1048576) (h1 : 1 ≤ t.size) (hn : (((t[0].toNat : Nat) : Int) == 45) = true) (hw : 5 < wh.size) (hb1 : wh.size ≤ 1048576) (hb2 : pt.size ≤ 1048576)
    (CC : ∀ w, Calls Tryz.prog 8 #[.string (t.extract 1 t.size), .int .u8 46] w fun e w' => e = .returned (.tuple #[.string wh, .string pt, .bool dot]) ∧ ∃ n, w' = w.drewN n) :
    Calls Tryz.prog 15 #[.string t] w fun e w' => e = .returned (.tuple #[.int .i64 0, .bool false]) ∧ ∃ n, w' = w.drewN n := by
  go_enter Tryz.func15, Tryz.ntmps15
  go_wp2_with (first | (go_at_call 8; refine (CC _).mono ?_; rintro e w' ⟨rfl, nd, rfl⟩))
  go_ret2
  exact ⟨rfl, _, rfl⟩

set_option maxHeartbeats 1000000 in
theorem hu_neg_b (t wh pt : ByteArray) (dot : Bool) (w : World) (hs : t.size ≤ 1048576) (h1 : 1 ≤ t.size) (hn : (((t[0].toNat : Nat) : Int) == 45) = true) (hw : wh.size ≤ 5) (hb1 : wh.size ≤ 1048576) (hb2 : pt.size ≤ 1048576)
    (CC : ∀ w, Calls Tryz.prog 8 #[.string (t.extract 1 t.size), .int .u8 46] w fun e w' => e = .returned (.tuple #[.string wh, .string pt, .bool dot]) ∧ ∃ n, w' = w.drewN n)
    (D1 : ∀ w, Calls Tryz.prog 27 #[.string wh] w fun e w' => e = .returned (.bool false) ∧ w' = w) :
    Calls Tryz.prog 15 #[.string t] w fun e w' => e = .returned (.tuple #[.int .i64 0, .bool false]) ∧ ∃ n, w' = w.drewN n := by
  have tok1 : True := trivial
  go_enter Tryz.func15, Tryz.ntmps15
  go_wp2_with (first | (go_at_call 8; refine (CC _).mono ?_; rintro e w' ⟨rfl, nd, rfl⟩) | (go_at_call 27; have _t := tok1; refine (D1 _).mono ?_; rintro e w' ⟨rfl, rfl⟩; clear tok1))
  go_ret2
  exact ⟨rfl, _, rfl⟩

set_option maxHeartbeats 1000000 in
theorem hu_neg_c (t wh pt : ByteArray) (w : World) (hs : t.size ≤ 1048576) (h1 : 1 ≤ t.size) (hn : (((t[0].toNat : Nat) : Int) == 45) = true) (hw : wh.size ≤ 5) (hp : 2 < pt.size) (hb1 : wh.size ≤ 1048576) (hb2 : pt.size ≤ 1048576)
    (CC : ∀ w, Calls Tryz.prog 8 #[.string (t.extract 1 t.size), .int .u8 46] w fun e w' => e = .returned (.tuple #[.string wh, .string pt, .bool true]) ∧ ∃ n, w' = w.drewN n)
    (D1 : ∀ w, Calls Tryz.prog 27 #[.string wh] w fun e w' => e = .returned (.bool true) ∧ w' = w) :
    Calls Tryz.prog 15 #[.string t] w fun e w' => e = .returned (.tuple #[.int .i64 0, .bool false]) ∧ ∃ n, w' = w.drewN n := by
  have tok1 : True := trivial
  go_enter Tryz.func15, Tryz.ntmps15
  go_wp2_with (first | (go_at_call 8; refine (CC _).mono ?_; rintro e w' ⟨rfl, nd, rfl⟩) | (go_at_call 27; have _t := tok1; refine (D1 _).mono ?_; rintro e w' ⟨rfl, rfl⟩; clear tok1))
  go_ret2
  exact ⟨rfl, _, rfl⟩

set_option maxHeartbeats 1000000 in
theorem hu_neg_d (t wh pt : ByteArray) (w : World) (hs : t.size ≤ 1048576) (h1 : 1 ≤ t.size) (hn : (((t[0].toNat : Nat) : Int) == 45) = true) (hw : wh.size ≤ 5) (hp : pt.size ≤ 2) (hb1 : wh.size ≤ 1048576) (hb2 : pt.size ≤ 1048576)
    (CC : ∀ w, Calls Tryz.prog 8 #[.string (t.extract 1 t.size), .int .u8 46] w fun e w' => e = .returned (.tuple #[.string wh, .string pt, .bool true]) ∧ ∃ n, w' = w.drewN n)
    (D1 : ∀ w, Calls Tryz.prog 27 #[.string wh] w fun e w' => e = .returned (.bool true) ∧ w' = w)
    (D2 : ∀ w, Calls Tryz.prog 27 #[.string pt] w fun e w' => e = .returned (.bool false) ∧ w' = w) :
    Calls Tryz.prog 15 #[.string t] w fun e w' => e = .returned (.tuple #[.int .i64 0, .bool false]) ∧ ∃ n, w' = w.drewN n := by
  have tok1 : True := trivial
  go_enter Tryz.func15, Tryz.ntmps15
  go_wp2_with (first | (go_at_call 8; refine (CC _).mono ?_; rintro e w' ⟨rfl, nd, rfl⟩) | (go_at_call 27; have _t := tok1; refine (D1 _).mono ?_; rintro e w' ⟨rfl, rfl⟩; clear tok1) | (go_at_call 27; refine (D2 _).mono ?_; rintro e w' ⟨rfl, rfl⟩))
  go_ret2
  exact ⟨rfl, _, rfl⟩

set_option maxHeartbeats 1000000 in
theorem hu_neg_e (t wh pt : ByteArray) (x y : Int) (w : World) (hs : t.size ≤ 1048576) (h1 : 1 ≤ t.size) (hn : (((t[0].toNat : Nat) : Int) == 45) = true) (hw : wh.size ≤ 5) (hp : pt.size = 1)
    (CC : ∀ w, Calls Tryz.prog 8 #[.string (t.extract 1 t.size), .int .u8 46] w fun e w' => e = .returned (.tuple #[.string wh, .string pt, .bool true]) ∧ ∃ n, w' = w.drewN n)
    (D1 : ∀ w, Calls Tryz.prog 27 #[.string wh] w fun e w' => e = .returned (.bool true) ∧ w' = w)
    (D2 : ∀ w, Calls Tryz.prog 27 #[.string pt] w fun e w' => e = .returned (.bool true) ∧ w' = w)
    (R1 : ∀ w, Calls Tryz.prog 28 #[.string wh] w fun e w' => e = .returned (.int .i64 x) ∧ w' = w)
    (R2 : ∀ w, Calls Tryz.prog 28 #[.string (pt ++ ⟨#[48]⟩)] w fun e w' => e = .returned (.int .i64 y) ∧ w' = w)
    (bx : 0 ≤ x ∧ x ≤ 99999) (by' : 0 ≤ y ∧ y ≤ 99) :
    Calls Tryz.prog 15 #[.string t] w fun e w' => e = .returned (.tuple #[.int .i64 (-(100 * x + y)), .bool true]) ∧ ∃ n, w' = w.drewN n := by
  have tok1 : True := trivial
  have tok2 : True := trivial
  go_enter Tryz.func15, Tryz.ntmps15
  go_wp2_with (first | (go_at_call 8; refine (CC _).mono ?_; rintro e w' ⟨rfl, nd, rfl⟩) | (go_at_call 27; have _t := tok1; refine (D1 _).mono ?_; rintro e w' ⟨rfl, rfl⟩; clear tok1) | (go_at_call 27; refine (D2 _).mono ?_; rintro e w' ⟨rfl, rfl⟩) | (go_at_call 28; have _t := tok2; refine (R1 _).mono ?_; rintro e w' ⟨rfl, rfl⟩; clear tok2) | (go_at_call 28; refine (R2 _).mono ?_; rintro e w' ⟨rfl, rfl⟩))
  go_ret2
  exact ⟨rfl, _, rfl⟩

set_option maxHeartbeats 1000000 in
theorem hu_neg_f (t wh pt : ByteArray) (x y : Int) (w : World) (hs : t.size ≤ 1048576) (h1 : 1 ≤ t.size) (hn : (((t[0].toNat : Nat) : Int) == 45) = true) (hw : wh.size ≤ 5) (hp : pt.size ≤ 2) (hp1 : ((pt.size : Int) == 1) = false)
    (CC : ∀ w, Calls Tryz.prog 8 #[.string (t.extract 1 t.size), .int .u8 46] w fun e w' => e = .returned (.tuple #[.string wh, .string pt, .bool true]) ∧ ∃ n, w' = w.drewN n)
    (D1 : ∀ w, Calls Tryz.prog 27 #[.string wh] w fun e w' => e = .returned (.bool true) ∧ w' = w)
    (D2 : ∀ w, Calls Tryz.prog 27 #[.string pt] w fun e w' => e = .returned (.bool true) ∧ w' = w)
    (R1 : ∀ w, Calls Tryz.prog 28 #[.string wh] w fun e w' => e = .returned (.int .i64 x) ∧ w' = w)
    (R2 : ∀ w, Calls Tryz.prog 28 #[.string pt] w fun e w' => e = .returned (.int .i64 y) ∧ w' = w)
    (bx : 0 ≤ x ∧ x ≤ 99999) (by' : 0 ≤ y ∧ y ≤ 99) :
    Calls Tryz.prog 15 #[.string t] w fun e w' => e = .returned (.tuple #[.int .i64 (-(100 * x + y)), .bool true]) ∧ ∃ n, w' = w.drewN n := by
  have tok1 : True := trivial
  have tok2 : True := trivial
  go_enter Tryz.func15, Tryz.ntmps15
  go_wp2_with (first | (go_at_call 8; refine (CC _).mono ?_; rintro e w' ⟨rfl, nd, rfl⟩) | (go_at_call 27; have _t := tok1; refine (D1 _).mono ?_; rintro e w' ⟨rfl, rfl⟩; clear tok1) | (go_at_call 27; refine (D2 _).mono ?_; rintro e w' ⟨rfl, rfl⟩) | (go_at_call 28; have _t := tok2; refine (R1 _).mono ?_; rintro e w' ⟨rfl, rfl⟩; clear tok2) | (go_at_call 28; refine (R2 _).mono ?_; rintro e w' ⟨rfl, rfl⟩))
  go_ret2
  exact ⟨rfl, _, rfl⟩

set_option maxHeartbeats 1000000 in
theorem hu_neg_g (t wh pt : ByteArray) (x y : Int) (w : World) (hs : t.size ≤ 1048576) (h1 : 1 ≤ t.size) (hn : (((t[0].toNat : Nat) : Int) == 45) = true) (hw : wh.size ≤ 5) (hp1 : ((pt.size : Int) == 1) = false) (hb2 : pt.size ≤ 1048576)
    (CC : ∀ w, Calls Tryz.prog 8 #[.string (t.extract 1 t.size), .int .u8 46] w fun e w' => e = .returned (.tuple #[.string wh, .string pt, .bool false]) ∧ ∃ n, w' = w.drewN n)
    (D1 : ∀ w, Calls Tryz.prog 27 #[.string wh] w fun e w' => e = .returned (.bool true) ∧ w' = w)
    (R1 : ∀ w, Calls Tryz.prog 28 #[.string wh] w fun e w' => e = .returned (.int .i64 x) ∧ w' = w)
    (R2 : ∀ w, Calls Tryz.prog 28 #[.string pt] w fun e w' => e = .returned (.int .i64 y) ∧ w' = w)
    (bx : 0 ≤ x ∧ x ≤ 99999) (by' : 0 ≤ y ∧ y ≤ 99) :
    Calls Tryz.prog 15 #[.string t] w fun e w' => e = .returned (.tuple #[.int .i64 (-(100 * x + y)), .bool true]) ∧ ∃ n, w' = w.drewN n := by
  have tok1 : True := trivial
  have tok2 : True := trivial
  go_enter Tryz.func15, Tryz.ntmps15
  go_wp2_with (first | (go_at_call 8; refine (CC _).mono ?_; rintro e w' ⟨rfl, nd, rfl⟩) | (go_at_call 27; have _t := tok1; refine (D1 _).mono ?_; rintro e w' ⟨rfl, rfl⟩; clear tok1) | (go_at_call 28; have _t := tok2; refine (R1 _).mono ?_; rintro e w' ⟨rfl, rfl⟩; clear tok2) | (go_at_call 28; refine (R2 _).mono ?_; rintro e w' ⟨rfl, rfl⟩))
  go_ret2
  exact ⟨rfl, _, rfl⟩

set_option maxHeartbeats 1000000 in
theorem hu_pos_a (t wh pt : ByteArray) (dot : Bool) (w : World) (hs : t.size ≤ 1048576) (h1 : 1 ≤ t.size) (hn : (((t[0].toNat : Nat) : Int) == 45) = false) (hw : 5 < wh.size) (hb1 : wh.size ≤ 1048576) (hb2 : pt.size ≤ 1048576)
    (CC : ∀ w, Calls Tryz.prog 8 #[.string t, .int .u8 46] w fun e w' => e = .returned (.tuple #[.string wh, .string pt, .bool dot]) ∧ ∃ n, w' = w.drewN n) :
    Calls Tryz.prog 15 #[.string t] w fun e w' => e = .returned (.tuple #[.int .i64 0, .bool false]) ∧ ∃ n, w' = w.drewN n := by
  go_enter Tryz.func15, Tryz.ntmps15
  go_wp2_with (first | (go_at_call 8; refine (CC _).mono ?_; rintro e w' ⟨rfl, nd, rfl⟩))
  go_ret2
  exact ⟨rfl, _, rfl⟩

set_option maxHeartbeats 1000000 in
theorem hu_pos_b (t wh pt : ByteArray) (dot : Bool) (w : World) (hs : t.size ≤ 1048576) (h1 : 1 ≤ t.size) (hn : (((t[0].toNat : Nat) : Int) == 45) = false) (hw : wh.size ≤ 5) (hb1 : wh.size ≤ 1048576) (hb2 : pt.size ≤ 1048576)
    (CC : ∀ w, Calls Tryz.prog 8 #[.string t, .int .u8 46] w fun e w' => e = .returned (.tuple #[.string wh, .string pt, .bool dot]) ∧ ∃ n, w' = w.drewN n)
    (D1 : ∀ w, Calls Tryz.prog 27 #[.string wh] w fun e w' => e = .returned (.bool false) ∧ w' = w) :
    Calls Tryz.prog 15 #[.string t] w fun e w' => e = .returned (.tuple #[.int .i64 0, .bool false]) ∧ ∃ n, w' = w.drewN n := by
  have tok1 : True := trivial
  go_enter Tryz.func15, Tryz.ntmps15
  go_wp2_with (first | (go_at_call 8; refine (CC _).mono ?_; rintro e w' ⟨rfl, nd, rfl⟩) | (go_at_call 27; have _t := tok1; refine (D1 _).mono ?_; rintro e w' ⟨rfl, rfl⟩; clear tok1))
  go_ret2
  exact ⟨rfl, _, rfl⟩

set_option maxHeartbeats 1000000 in
theorem hu_pos_c (t wh pt : ByteArray) (w : World) (hs : t.size ≤ 1048576) (h1 : 1 ≤ t.size) (hn : (((t[0].toNat : Nat) : Int) == 45) = false) (hw : wh.size ≤ 5) (hp : 2 < pt.size) (hb1 : wh.size ≤ 1048576) (hb2 : pt.size ≤ 1048576)
    (CC : ∀ w, Calls Tryz.prog 8 #[.string t, .int .u8 46] w fun e w' => e = .returned (.tuple #[.string wh, .string pt, .bool true]) ∧ ∃ n, w' = w.drewN n)
    (D1 : ∀ w, Calls Tryz.prog 27 #[.string wh] w fun e w' => e = .returned (.bool true) ∧ w' = w) :
    Calls Tryz.prog 15 #[.string t] w fun e w' => e = .returned (.tuple #[.int .i64 0, .bool false]) ∧ ∃ n, w' = w.drewN n := by
  have tok1 : True := trivial
  go_enter Tryz.func15, Tryz.ntmps15
  go_wp2_with (first | (go_at_call 8; refine (CC _).mono ?_; rintro e w' ⟨rfl, nd, rfl⟩) | (go_at_call 27; have _t := tok1; refine (D1 _).mono ?_; rintro e w' ⟨rfl, rfl⟩; clear tok1))
  go_ret2
  exact ⟨rfl, _, rfl⟩

set_option maxHeartbeats 1000000 in
theorem hu_pos_d (t wh pt : ByteArray) (w : World) (hs : t.size ≤ 1048576) (h1 : 1 ≤ t.size) (hn : (((t[0].toNat : Nat) : Int) == 45) = false) (hw : wh.size ≤ 5) (hp : pt.size ≤ 2) (hb1 : wh.size ≤ 1048576) (hb2 : pt.size ≤ 1048576)
    (CC : ∀ w, Calls Tryz.prog 8 #[.string t, .int .u8 46] w fun e w' => e = .returned (.tuple #[.string wh, .string pt, .bool true]) ∧ ∃ n, w' = w.drewN n)
    (D1 : ∀ w, Calls Tryz.prog 27 #[.string wh] w fun e w' => e = .returned (.bool true) ∧ w' = w)
    (D2 : ∀ w, Calls Tryz.prog 27 #[.string pt] w fun e w' => e = .returned (.bool false) ∧ w' = w) :
    Calls Tryz.prog 15 #[.string t] w fun e w' => e = .returned (.tuple #[.int .i64 0, .bool false]) ∧ ∃ n, w' = w.drewN n := by
  have tok1 : True := trivial
  go_enter Tryz.func15, Tryz.ntmps15
  go_wp2_with (first | (go_at_call 8; refine (CC _).mono ?_; rintro e w' ⟨rfl, nd, rfl⟩) | (go_at_call 27; have _t := tok1; refine (D1 _).mono ?_; rintro e w' ⟨rfl, rfl⟩; clear tok1) | (go_at_call 27; refine (D2 _).mono ?_; rintro e w' ⟨rfl, rfl⟩))
  go_ret2
  exact ⟨rfl, _, rfl⟩

set_option maxHeartbeats 1000000 in
theorem hu_pos_e (t wh pt : ByteArray) (x y : Int) (w : World) (hs : t.size ≤ 1048576) (h1 : 1 ≤ t.size) (hn : (((t[0].toNat : Nat) : Int) == 45) = false) (hw : wh.size ≤ 5) (hp : pt.size = 1)
    (CC : ∀ w, Calls Tryz.prog 8 #[.string t, .int .u8 46] w fun e w' => e = .returned (.tuple #[.string wh, .string pt, .bool true]) ∧ ∃ n, w' = w.drewN n)
    (D1 : ∀ w, Calls Tryz.prog 27 #[.string wh] w fun e w' => e = .returned (.bool true) ∧ w' = w)
    (D2 : ∀ w, Calls Tryz.prog 27 #[.string pt] w fun e w' => e = .returned (.bool true) ∧ w' = w)
    (R1 : ∀ w, Calls Tryz.prog 28 #[.string wh] w fun e w' => e = .returned (.int .i64 x) ∧ w' = w)
    (R2 : ∀ w, Calls Tryz.prog 28 #[.string (pt ++ ⟨#[48]⟩)] w fun e w' => e = .returned (.int .i64 y) ∧ w' = w)
    (bx : 0 ≤ x ∧ x ≤ 99999) (by' : 0 ≤ y ∧ y ≤ 99) :
    Calls Tryz.prog 15 #[.string t] w fun e w' => e = .returned (.tuple #[.int .i64 (100 * x + y), .bool true]) ∧ ∃ n, w' = w.drewN n := by
  have tok1 : True := trivial
  have tok2 : True := trivial
  go_enter Tryz.func15, Tryz.ntmps15
  go_wp2_with (first | (go_at_call 8; refine (CC _).mono ?_; rintro e w' ⟨rfl, nd, rfl⟩) | (go_at_call 27; have _t := tok1; refine (D1 _).mono ?_; rintro e w' ⟨rfl, rfl⟩; clear tok1) | (go_at_call 27; refine (D2 _).mono ?_; rintro e w' ⟨rfl, rfl⟩) | (go_at_call 28; have _t := tok2; refine (R1 _).mono ?_; rintro e w' ⟨rfl, rfl⟩; clear tok2) | (go_at_call 28; refine (R2 _).mono ?_; rintro e w' ⟨rfl, rfl⟩))
  go_ret2
  exact ⟨rfl, _, rfl⟩

set_option maxHeartbeats 1000000 in
theorem hu_pos_f (t wh pt : ByteArray) (x y : Int) (w : World) (hs : t.size ≤ 1048576) (h1 : 1 ≤ t.size) (hn : (((t[0].toNat : Nat) : Int) == 45) = false) (hw : wh.size ≤ 5) (hp : pt.size ≤ 2) (hp1 : ((pt.size : Int) == 1) = false)
    (CC : ∀ w, Calls Tryz.prog 8 #[.string t, .int .u8 46] w fun e w' => e = .returned (.tuple #[.string wh, .string pt, .bool true]) ∧ ∃ n, w' = w.drewN n)
    (D1 : ∀ w, Calls Tryz.prog 27 #[.string wh] w fun e w' => e = .returned (.bool true) ∧ w' = w)
    (D2 : ∀ w, Calls Tryz.prog 27 #[.string pt] w fun e w' => e = .returned (.bool true) ∧ w' = w)
    (R1 : ∀ w, Calls Tryz.prog 28 #[.string wh] w fun e w' => e = .returned (.int .i64 x) ∧ w' = w)
    (R2 : ∀ w, Calls Tryz.prog 28 #[.string pt] w fun e w' => e = .returned (.int .i64 y) ∧ w' = w)
    (bx : 0 ≤ x ∧ x ≤ 99999) (by' : 0 ≤ y ∧ y ≤ 99) :
    Calls Tryz.prog 15 #[.string t] w fun e w' => e = .returned (.tuple #[.int .i64 (100 * x + y), .bool true]) ∧ ∃ n, w' = w.drewN n := by
  have tok1 : True := trivial
  have tok2 : True := trivial
  go_enter Tryz.func15, Tryz.ntmps15
  go_wp2_with (first | (go_at_call 8; refine (CC _).mono ?_; rintro e w' ⟨rfl, nd, rfl⟩) | (go_at_call 27; have _t := tok1; refine (D1 _).mono ?_; rintro e w' ⟨rfl, rfl⟩; clear tok1) | (go_at_call 27; refine (D2 _).mono ?_; rintro e w' ⟨rfl, rfl⟩) | (go_at_call 28; have _t := tok2; refine (R1 _).mono ?_; rintro e w' ⟨rfl, rfl⟩; clear tok2) | (go_at_call 28; refine (R2 _).mono ?_; rintro e w' ⟨rfl, rfl⟩))
  go_ret2
  exact ⟨rfl, _, rfl⟩

set_option maxHeartbeats 1000000 in
theorem hu_pos_g (t wh pt : ByteArray) (x y : Int) (w : World) (hs : t.size ≤ 1048576) (h1 : 1 ≤ t.size) (hn : (((t[0].toNat : Nat) : Int) == 45) = false) (hw : wh.size ≤ 5) (hp1 : ((pt.size : Int) == 1) = false) (hb2 : pt.size ≤ 1048576)
    (CC : ∀ w, Calls Tryz.prog 8 #[.string t, .int .u8 46] w fun e w' => e = .returned (.tuple #[.string wh, .string pt, .bool false]) ∧ ∃ n, w' = w.drewN n)
    (D1 : ∀ w, Calls Tryz.prog 27 #[.string wh] w fun e w' => e = .returned (.bool true) ∧ w' = w)
    (R1 : ∀ w, Calls Tryz.prog 28 #[.string wh] w fun e w' => e = .returned (.int .i64 x) ∧ w' = w)
    (R2 : ∀ w, Calls Tryz.prog 28 #[.string pt] w fun e w' => e = .returned (.int .i64 y) ∧ w' = w)
    (bx : 0 ≤ x ∧ x ≤ 99999) (by' : 0 ≤ y ∧ y ≤ 99) :
    Calls Tryz.prog 15 #[.string t] w fun e w' => e = .returned (.tuple #[.int .i64 (100 * x + y), .bool true]) ∧ ∃ n, w' = w.drewN n := by
  have tok1 : True := trivial
  have tok2 : True := trivial
  go_enter Tryz.func15, Tryz.ntmps15
  go_wp2_with (first | (go_at_call 8; refine (CC _).mono ?_; rintro e w' ⟨rfl, nd, rfl⟩) | (go_at_call 27; have _t := tok1; refine (D1 _).mono ?_; rintro e w' ⟨rfl, rfl⟩; clear tok1) | (go_at_call 28; have _t := tok2; refine (R1 _).mono ?_; rintro e w' ⟨rfl, rfl⟩; clear tok2) | (go_at_call 28; refine (R2 _).mono ?_; rintro e w' ⟨rfl, rfl⟩))
  go_ret2
  exact ⟨rfl, _, rfl⟩

set_option maxHeartbeats 1000000 in
theorem hu_emp_b (t wh pt : ByteArray) (dot : Bool) (w : World) (hs : t.size ≤ 1048576) (h1 : t.size = 0) (hw : wh.size ≤ 5) (hb1 : wh.size ≤ 1048576) (hb2 : pt.size ≤ 1048576)
    (CC : ∀ w, Calls Tryz.prog 8 #[.string t, .int .u8 46] w fun e w' => e = .returned (.tuple #[.string wh, .string pt, .bool dot]) ∧ ∃ n, w' = w.drewN n)
    (D1 : ∀ w, Calls Tryz.prog 27 #[.string wh] w fun e w' => e = .returned (.bool false) ∧ w' = w) :
    Calls Tryz.prog 15 #[.string t] w fun e w' => e = .returned (.tuple #[.int .i64 0, .bool false]) ∧ ∃ n, w' = w.drewN n := by
  have tok1 : True := trivial
  go_enter Tryz.func15, Tryz.ntmps15
  go_wp2_with (first | (go_at_call 8; refine (CC _).mono ?_; rintro e w' ⟨rfl, nd, rfl⟩) | (go_at_call 27; have _t := tok1; refine (D1 _).mono ?_; rintro e w' ⟨rfl, rfl⟩; clear tok1))
  go_ret2
  exact ⟨rfl, _, rfl⟩
end Go.Proofs.YtdgagjnkbmckoaaGreatDoor

namespace Go.Proofs.YtdgagjnkbmckoaaGreatDoor
open Go.ChangeShapes Go.WideShapes Go.ChangeAt Go.RowKit
set_option linter.unusedVariables false

theorem specGood_any (n : Int) (w : World) : Calls Tryz.prog 29 #[.int .i64 n] w fun e w' => e = .returned (.bool (lenGood n)) ∧ w' = w := by
  by_cases h1 : -1000000 ≤ n
  · by_cases h2 : n ≤ 1000000
    · have HG : Hid (lenGood n = true) := decide_eq_true ⟨h1, h2⟩
      go_enter Tryz.func29, Tryz.ntmps29
      go_wp2
      go_ret
      exact ⟨retB HG.out.symm, rfl⟩
    · have HG : Hid (lenGood n = false) := decide_eq_false (by omega)
      go_enter Tryz.func29, Tryz.ntmps29
      go_wp2
      go_ret
      exact ⟨retB HG.out.symm, rfl⟩
  · have HG : Hid (lenGood n = false) := decide_eq_false (by omega)
    go_enter Tryz.func29, Tryz.ntmps29
    go_wp2
    go_ret
    exact ⟨retB HG.out.symm, rfl⟩

set_option maxHeartbeats 1000000 in
theorem sp_a (s : ByteArray) (w : World) (hs : s.size ≤ 1048576) (h3 : s.size < 3) :
    Calls Tryz.prog 16 #[.string s] w fun e w' => e = .returned (.tuple #[.int .i64 0, .bool false]) ∧ ∃ n, w' = w.drewN n := by
  go_enter Tryz.func16, Tryz.ntmps16
  go_wp2
  go_ret2
  exact ⟨rfl, 0, rfl⟩

set_option maxHeartbeats 1000000 in
theorem sp_b (s : ByteArray) (w : World) (hs : s.size ≤ 1048576) (h3 : 3 ≤ s.size) (hx : ((s.extract (s.size - 2) s.size).toList == [112, 120]) = false)  :
    Calls Tryz.prog 16 #[.string s] w fun e w' => e = .returned (.tuple #[.int .i64 0, .bool false]) ∧ ∃ n, w' = w.drewN n := by
  go_enter Tryz.func16, Tryz.ntmps16
  go_wp2
  go_ret2
  exact ⟨rfl, 0, rfl⟩

set_option maxHeartbeats 1000000 in
theorem sp_c (s : ByteArray) (w : World) (hs : s.size ≤ 1048576) (h3 : 3 ≤ s.size) (hx : ((s.extract (s.size - 2) s.size).toList == [112, 120]) = true) 
    (HU : ∀ w, Calls Tryz.prog 15 #[.string (s.extract 0 (s.size - 2))] w fun e w' => e = .returned (.tuple #[.int .i64 0, .bool false]) ∧ ∃ n, w' = w.drewN n) :
    Calls Tryz.prog 16 #[.string s] w fun e w' => e = .returned (.tuple #[.int .i64 0, .bool false]) ∧ ∃ n, w' = w.drewN n := by
  go_enter Tryz.func16, Tryz.ntmps16
  go_wp2_with (first | (go_at_call 15; refine (HU _).mono ?_; rintro e w' ⟨rfl, nd, rfl⟩) | go_in)
  go_ret2
  exact ⟨rfl, _, rfl⟩

set_option maxHeartbeats 1000000 in
theorem sp_d_good (s : ByteArray) (h : Int) (w : World) (hs : s.size ≤ 1048576) (h3 : 3 ≤ s.size) (hx : ((s.extract (s.size - 2) s.size).toList == [112, 120]) = true) (b0 : 0 ≤ h) (b1 : h ≤ 10000000) (g : h / 100 * 64 + h % 100 * 64 / 100 ≤ 1000000)
    (HU : ∀ w, Calls Tryz.prog 15 #[.string (s.extract 0 (s.size - 2))] w fun e w' => e = .returned (.tuple #[.int .i64 h, .bool true]) ∧ ∃ n, w' = w.drewN n) :
    Calls Tryz.prog 16 #[.string s] w fun e w' => e = .returned (.tuple #[.int .i64 (h / 100 * 64 + h % 100 * 64 / 100), .bool true]) ∧ ∃ n, w' = w.drewN n := by
  have e : lenGood (h / 100 * 64 + h % 100 * 64 / 100) = true := decide_eq_true (by omega)
  have GL := fun w => specGood_any (h / 100 * 64 + h % 100 * 64 / 100) w
  rw [e] at GL
  clear e g
  go_enter Tryz.func16, Tryz.ntmps16
  go_wp2_with (first | (go_at_call 15; refine (HU _).mono ?_; rintro e w' ⟨rfl, nd, rfl⟩) | (go_at_call 29; refine (GL _).mono ?_; rintro e w' ⟨rfl, rfl⟩))
  go_ret2
  exact ⟨rfl, _, rfl⟩

set_option maxHeartbeats 1000000 in
theorem sp_d_bad (s : ByteArray) (h : Int) (w : World) (hs : s.size ≤ 1048576) (h3 : 3 ≤ s.size) (hx : ((s.extract (s.size - 2) s.size).toList == [112, 120]) = true) (b0 : 0 ≤ h) (b1 : h ≤ 10000000) (g : ¬ h / 100 * 64 + h % 100 * 64 / 100 ≤ 1000000)
    (HU : ∀ w, Calls Tryz.prog 15 #[.string (s.extract 0 (s.size - 2))] w fun e w' => e = .returned (.tuple #[.int .i64 h, .bool true]) ∧ ∃ n, w' = w.drewN n) :
    Calls Tryz.prog 16 #[.string s] w fun e w' => e = .returned (.tuple #[.int .i64 0, .bool false]) ∧ ∃ n, w' = w.drewN n := by
  have e : lenGood (h / 100 * 64 + h % 100 * 64 / 100) = false := decide_eq_false (by omega)
  have GL := fun w => specGood_any (h / 100 * 64 + h % 100 * 64 / 100) w
  rw [e] at GL
  clear e g
  go_enter Tryz.func16, Tryz.ntmps16
  go_wp2_with (first | (go_at_call 15; refine (HU _).mono ?_; rintro e w' ⟨rfl, nd, rfl⟩) | (go_at_call 29; refine (GL _).mono ?_; rintro e w' ⟨rfl, rfl⟩))
  go_ret2
  exact ⟨rfl, _, rfl⟩

set_option maxHeartbeats 1000000 in
theorem sp_e_good (s : ByteArray) (k : Int) (w : World) (hs : s.size ≤ 1048576) (h3 : 3 ≤ s.size) (hx : ((s.extract (s.size - 2) s.size).toList == [112, 120]) = true) (b0 : 0 < k) (b1 : k ≤ 10000000) (g : k / 100 * 64 + k % 100 * 64 / 100 ≤ 1000000)
    (HU : ∀ w, Calls Tryz.prog 15 #[.string (s.extract 0 (s.size - 2))] w fun e w' => e = .returned (.tuple #[.int .i64 (-k), .bool true]) ∧ ∃ n, w' = w.drewN n) :
    Calls Tryz.prog 16 #[.string s] w fun e w' => e = .returned (.tuple #[.int .i64 (-(k / 100 * 64 + k % 100 * 64 / 100)), .bool true]) ∧ ∃ n, w' = w.drewN n := by
  have e : lenGood (-(k / 100 * 64 + k % 100 * 64 / 100)) = true := decide_eq_true (by omega)
  have GL := fun w => specGood_any (-(k / 100 * 64 + k % 100 * 64 / 100)) w
  rw [e] at GL
  clear e g
  go_enter Tryz.func16, Tryz.ntmps16
  go_wp2_with (first | (go_at_call 15; refine (HU _).mono ?_; rintro e w' ⟨rfl, nd, rfl⟩) | (go_at_call 29; refine (GL _).mono ?_; rintro e w' ⟨rfl, rfl⟩))
  go_ret2
  exact ⟨rfl, _, rfl⟩

set_option maxHeartbeats 1000000 in
theorem sp_e_bad (s : ByteArray) (k : Int) (w : World) (hs : s.size ≤ 1048576) (h3 : 3 ≤ s.size) (hx : ((s.extract (s.size - 2) s.size).toList == [112, 120]) = true) (b0 : 0 < k) (b1 : k ≤ 10000000) (g : ¬ k / 100 * 64 + k % 100 * 64 / 100 ≤ 1000000)
    (HU : ∀ w, Calls Tryz.prog 15 #[.string (s.extract 0 (s.size - 2))] w fun e w' => e = .returned (.tuple #[.int .i64 (-k), .bool true]) ∧ ∃ n, w' = w.drewN n) :
    Calls Tryz.prog 16 #[.string s] w fun e w' => e = .returned (.tuple #[.int .i64 0, .bool false]) ∧ ∃ n, w' = w.drewN n := by
  have e : lenGood (-(k / 100 * 64 + k % 100 * 64 / 100)) = false := decide_eq_false (by omega)
  have GL := fun w => specGood_any (-(k / 100 * 64 + k % 100 * 64 / 100)) w
  rw [e] at GL
  clear e g
  go_enter Tryz.func16, Tryz.ntmps16
  go_wp2_with (first | (go_at_call 15; refine (HU _).mono ?_; rintro e w' ⟨rfl, nd, rfl⟩) | (go_at_call 29; refine (GL _).mono ?_; rintro e w' ⟨rfl, rfl⟩))
  go_ret2
  exact ⟨rfl, _, rfl⟩
end Go.Proofs.YtdgagjnkbmckoaaGreatDoor

namespace Go.Proofs.YtdgagjnkbmckoaaGreatDoor
open Go.ChangeShapes Go.WideShapes Go.ChangeAt Go.RowKit

set_option maxHeartbeats 1000000 in
theorem impl_a (s t b wh pt : ByteArray) (below dot : Bool) (w : World)
    (CS : ∀ w, Calls Tryz.prog 70 #[.string s, .string ⟨#[112, 120]⟩] w fun e w' => e = .returned (.tuple #[.string t, .bool false]) ∧ w' = w)
    (CP : ∀ w, Calls Tryz.prog 34 #[.string t, .string ⟨#[45]⟩] w fun e w' => e = .returned (.tuple #[.string b, .bool below]) ∧ w' = w)
    (CC : ∀ w, Calls Tryz.prog 35 #[.string b, .string ⟨#[46]⟩] w fun e w' => e = .returned (.tuple #[.string wh, .string pt, .bool dot]) ∧ ∃ n, w' = w.drewN n) :
    Calls Tryz.prog 62 #[.string s] w fun e w' => e = .returned (.tuple #[.int .i64 0, .bool false]) ∧ ∃ n, w' = w.drewN n := by
  go_enter Tryz.func62, Tryz.ntmps62
  go_wp2_with (first | (go_at_call 70; refine (CS _).mono ?_; rintro e w' ⟨rfl, rfl⟩) | (go_at_call 34; refine (CP _).mono ?_; rintro e w' ⟨rfl, rfl⟩) | (go_at_call 35; refine (CC _).mono ?_; rintro e w' ⟨rfl, nd, rfl⟩))
  go_ret2
  exact ⟨rfl, _, rfl⟩

set_option maxHeartbeats 1000000 in
theorem impl_b (s t b wh pt : ByteArray) (below dot : Bool) (w : World)
    (CS : ∀ w, Calls Tryz.prog 70 #[.string s, .string ⟨#[112, 120]⟩] w fun e w' => e = .returned (.tuple #[.string t, .bool true]) ∧ w' = w)
    (CP : ∀ w, Calls Tryz.prog 34 #[.string t, .string ⟨#[45]⟩] w fun e w' => e = .returned (.tuple #[.string b, .bool below]) ∧ w' = w)
    (CC : ∀ w, Calls Tryz.prog 35 #[.string b, .string ⟨#[46]⟩] w fun e w' => e = .returned (.tuple #[.string wh, .string pt, .bool dot]) ∧ ∃ n, w' = w.drewN n)
    (D1 : ∀ w, Calls Tryz.prog 71 #[.string wh, .int .i64 5] w fun e w' => e = .returned (.bool false) ∧ w' = w) :
    Calls Tryz.prog 62 #[.string s] w fun e w' => e = .returned (.tuple #[.int .i64 0, .bool false]) ∧ ∃ n, w' = w.drewN n := by
  go_enter Tryz.func62, Tryz.ntmps62
  go_wp2_with (first | (go_at_call 70; refine (CS _).mono ?_; rintro e w' ⟨rfl, rfl⟩) | (go_at_call 34; refine (CP _).mono ?_; rintro e w' ⟨rfl, rfl⟩) | (go_at_call 35; refine (CC _).mono ?_; rintro e w' ⟨rfl, nd, rfl⟩) | (go_at_call 71; refine (D1 _).mono ?_; rintro e w' ⟨rfl, rfl⟩))
  go_ret2
  exact ⟨rfl, _, rfl⟩

set_option maxHeartbeats 1000000 in
theorem impl_c (s t b wh pt : ByteArray) (below : Bool) (w : World)
    (CS : ∀ w, Calls Tryz.prog 70 #[.string s, .string ⟨#[112, 120]⟩] w fun e w' => e = .returned (.tuple #[.string t, .bool true]) ∧ w' = w)
    (CP : ∀ w, Calls Tryz.prog 34 #[.string t, .string ⟨#[45]⟩] w fun e w' => e = .returned (.tuple #[.string b, .bool below]) ∧ w' = w)
    (CC : ∀ w, Calls Tryz.prog 35 #[.string b, .string ⟨#[46]⟩] w fun e w' => e = .returned (.tuple #[.string wh, .string pt, .bool true]) ∧ ∃ n, w' = w.drewN n)
    (D1 : ∀ w, Calls Tryz.prog 71 #[.string wh, .int .i64 5] w fun e w' => e = .returned (.bool true) ∧ w' = w)
    (D2 : ∀ w, Calls Tryz.prog 71 #[.string pt, .int .i64 2] w fun e w' => e = .returned (.bool false) ∧ w' = w) :
    Calls Tryz.prog 62 #[.string s] w fun e w' => e = .returned (.tuple #[.int .i64 0, .bool false]) ∧ ∃ n, w' = w.drewN n := by
  have tok1 : True := trivial
  go_enter Tryz.func62, Tryz.ntmps62
  go_wp2_with (first | (go_at_call 70; refine (CS _).mono ?_; rintro e w' ⟨rfl, rfl⟩) | (go_at_call 34; refine (CP _).mono ?_; rintro e w' ⟨rfl, rfl⟩) | (go_at_call 35; refine (CC _).mono ?_; rintro e w' ⟨rfl, nd, rfl⟩) | (go_at_call 71; have _t := tok1; refine (D1 _).mono ?_; rintro e w' ⟨rfl, rfl⟩; clear tok1) | (go_at_call 71; refine (D2 _).mono ?_; rintro e w' ⟨rfl, rfl⟩))
  go_ret2
  exact ⟨rfl, _, rfl⟩

set_option maxHeartbeats 1000000 in
theorem impl_d_neg (s t b wh pt : ByteArray) (x y r : Int) (g : Bool) (w : World)
    (CS : ∀ w, Calls Tryz.prog 70 #[.string s, .string ⟨#[112, 120]⟩] w fun e w' => e = .returned (.tuple #[.string t, .bool true]) ∧ w' = w)
    (CP : ∀ w, Calls Tryz.prog 34 #[.string t, .string ⟨#[45]⟩] w fun e w' => e = .returned (.tuple #[.string b, .bool true]) ∧ w' = w)
    (CC : ∀ w, Calls Tryz.prog 35 #[.string b, .string ⟨#[46]⟩] w fun e w' => e = .returned (.tuple #[.string wh, .string pt, .bool true]) ∧ ∃ n, w' = w.drewN n)
    (D1 : ∀ w, Calls Tryz.prog 71 #[.string wh, .int .i64 5] w fun e w' => e = .returned (.bool true) ∧ w' = w)
    (D2 : ∀ w, Calls Tryz.prog 71 #[.string pt, .int .i64 2] w fun e w' => e = .returned (.bool true) ∧ w' = w)
    (V : ∀ w, Calls Tryz.prog 72 #[.string wh] w fun e w' => e = .returned (.int .i64 x) ∧ w' = w)
    (H : ∀ w, Calls Tryz.prog 77 #[.string pt] w fun e w' => e = .returned (.int .i64 y) ∧ w' = w)
    (bx : 0 ≤ x ∧ x ≤ 99999) (by' : 0 ≤ y ∧ y ≤ 99)
    (T : ∀ w, Calls Tryz.prog 78 #[.int .i64 (-(x * 64 + y * 64 / 100))] w fun e w' => e = .returned (.tuple #[.int .i64 r, .bool g]) ∧ w' = w) :
    Calls Tryz.prog 62 #[.string s] w fun e w' => e = .returned (.tuple #[.int .i64 r, .bool g]) ∧ ∃ n, w' = w.drewN n := by
  have tok1 : True := trivial
  go_enter Tryz.func62, Tryz.ntmps62
  go_wp2_with (first | (go_at_call 70; refine (CS _).mono ?_; rintro e w' ⟨rfl, rfl⟩) | (go_at_call 34; refine (CP _).mono ?_; rintro e w' ⟨rfl, rfl⟩) | (go_at_call 35; refine (CC _).mono ?_; rintro e w' ⟨rfl, nd, rfl⟩) | (go_at_call 71; have _t := tok1; refine (D1 _).mono ?_; rintro e w' ⟨rfl, rfl⟩; clear tok1) | (go_at_call 71; refine (D2 _).mono ?_; rintro e w' ⟨rfl, rfl⟩) | (go_at_call 72; refine (V _).mono ?_; rintro e w' ⟨rfl, rfl⟩) | (go_at_call 77; refine (H _).mono ?_; rintro e w' ⟨rfl, rfl⟩) | (go_at_call 78; refine (T _).mono ?_; rintro e w' ⟨rfl, rfl⟩))
  go_ret2
  exact ⟨rfl, _, rfl⟩

set_option maxHeartbeats 1000000 in
theorem impl_d_pos (s t b wh pt : ByteArray) (x y r : Int) (g : Bool) (w : World)
    (CS : ∀ w, Calls Tryz.prog 70 #[.string s, .string ⟨#[112, 120]⟩] w fun e w' => e = .returned (.tuple #[.string t, .bool true]) ∧ w' = w)
    (CP : ∀ w, Calls Tryz.prog 34 #[.string t, .string ⟨#[45]⟩] w fun e w' => e = .returned (.tuple #[.string b, .bool false]) ∧ w' = w)
    (CC : ∀ w, Calls Tryz.prog 35 #[.string b, .string ⟨#[46]⟩] w fun e w' => e = .returned (.tuple #[.string wh, .string pt, .bool true]) ∧ ∃ n, w' = w.drewN n)
    (D1 : ∀ w, Calls Tryz.prog 71 #[.string wh, .int .i64 5] w fun e w' => e = .returned (.bool true) ∧ w' = w)
    (D2 : ∀ w, Calls Tryz.prog 71 #[.string pt, .int .i64 2] w fun e w' => e = .returned (.bool true) ∧ w' = w)
    (V : ∀ w, Calls Tryz.prog 72 #[.string wh] w fun e w' => e = .returned (.int .i64 x) ∧ w' = w)
    (H : ∀ w, Calls Tryz.prog 77 #[.string pt] w fun e w' => e = .returned (.int .i64 y) ∧ w' = w)
    (bx : 0 ≤ x ∧ x ≤ 99999) (by' : 0 ≤ y ∧ y ≤ 99)
    (T : ∀ w, Calls Tryz.prog 78 #[.int .i64 (x * 64 + y * 64 / 100)] w fun e w' => e = .returned (.tuple #[.int .i64 r, .bool g]) ∧ w' = w) :
    Calls Tryz.prog 62 #[.string s] w fun e w' => e = .returned (.tuple #[.int .i64 r, .bool g]) ∧ ∃ n, w' = w.drewN n := by
  have tok1 : True := trivial
  go_enter Tryz.func62, Tryz.ntmps62
  go_wp2_with (first | (go_at_call 70; refine (CS _).mono ?_; rintro e w' ⟨rfl, rfl⟩) | (go_at_call 34; refine (CP _).mono ?_; rintro e w' ⟨rfl, rfl⟩) | (go_at_call 35; refine (CC _).mono ?_; rintro e w' ⟨rfl, nd, rfl⟩) | (go_at_call 71; have _t := tok1; refine (D1 _).mono ?_; rintro e w' ⟨rfl, rfl⟩; clear tok1) | (go_at_call 71; refine (D2 _).mono ?_; rintro e w' ⟨rfl, rfl⟩) | (go_at_call 72; refine (V _).mono ?_; rintro e w' ⟨rfl, rfl⟩) | (go_at_call 77; refine (H _).mono ?_; rintro e w' ⟨rfl, rfl⟩) | (go_at_call 78; refine (T _).mono ?_; rintro e w' ⟨rfl, rfl⟩))
  go_ret2
  exact ⟨rfl, _, rfl⟩

set_option maxHeartbeats 1000000 in
theorem impl_e_neg (s t b wh pt : ByteArray) (x y r : Int) (g : Bool) (w : World)
    (CS : ∀ w, Calls Tryz.prog 70 #[.string s, .string ⟨#[112, 120]⟩] w fun e w' => e = .returned (.tuple #[.string t, .bool true]) ∧ w' = w)
    (CP : ∀ w, Calls Tryz.prog 34 #[.string t, .string ⟨#[45]⟩] w fun e w' => e = .returned (.tuple #[.string b, .bool true]) ∧ w' = w)
    (CC : ∀ w, Calls Tryz.prog 35 #[.string b, .string ⟨#[46]⟩] w fun e w' => e = .returned (.tuple #[.string wh, .string pt, .bool false]) ∧ ∃ n, w' = w.drewN n)
    (D1 : ∀ w, Calls Tryz.prog 71 #[.string wh, .int .i64 5] w fun e w' => e = .returned (.bool true) ∧ w' = w)
    (V : ∀ w, Calls Tryz.prog 72 #[.string wh] w fun e w' => e = .returned (.int .i64 x) ∧ w' = w)
    (H : ∀ w, Calls Tryz.prog 77 #[.string pt] w fun e w' => e = .returned (.int .i64 y) ∧ w' = w)
    (bx : 0 ≤ x ∧ x ≤ 99999) (by' : 0 ≤ y ∧ y ≤ 99)
    (T : ∀ w, Calls Tryz.prog 78 #[.int .i64 (-(x * 64 + y * 64 / 100))] w fun e w' => e = .returned (.tuple #[.int .i64 r, .bool g]) ∧ w' = w) :
    Calls Tryz.prog 62 #[.string s] w fun e w' => e = .returned (.tuple #[.int .i64 r, .bool g]) ∧ ∃ n, w' = w.drewN n := by
  go_enter Tryz.func62, Tryz.ntmps62
  go_wp2_with (first | (go_at_call 70; refine (CS _).mono ?_; rintro e w' ⟨rfl, rfl⟩) | (go_at_call 34; refine (CP _).mono ?_; rintro e w' ⟨rfl, rfl⟩) | (go_at_call 35; refine (CC _).mono ?_; rintro e w' ⟨rfl, nd, rfl⟩) | (go_at_call 71; refine (D1 _).mono ?_; rintro e w' ⟨rfl, rfl⟩) | (go_at_call 72; refine (V _).mono ?_; rintro e w' ⟨rfl, rfl⟩) | (go_at_call 77; refine (H _).mono ?_; rintro e w' ⟨rfl, rfl⟩) | (go_at_call 78; refine (T _).mono ?_; rintro e w' ⟨rfl, rfl⟩))
  go_ret2
  exact ⟨rfl, _, rfl⟩

set_option maxHeartbeats 1000000 in
theorem impl_e_pos (s t b wh pt : ByteArray) (x y r : Int) (g : Bool) (w : World)
    (CS : ∀ w, Calls Tryz.prog 70 #[.string s, .string ⟨#[112, 120]⟩] w fun e w' => e = .returned (.tuple #[.string t, .bool true]) ∧ w' = w)
    (CP : ∀ w, Calls Tryz.prog 34 #[.string t, .string ⟨#[45]⟩] w fun e w' => e = .returned (.tuple #[.string b, .bool false]) ∧ w' = w)
    (CC : ∀ w, Calls Tryz.prog 35 #[.string b, .string ⟨#[46]⟩] w fun e w' => e = .returned (.tuple #[.string wh, .string pt, .bool false]) ∧ ∃ n, w' = w.drewN n)
    (D1 : ∀ w, Calls Tryz.prog 71 #[.string wh, .int .i64 5] w fun e w' => e = .returned (.bool true) ∧ w' = w)
    (V : ∀ w, Calls Tryz.prog 72 #[.string wh] w fun e w' => e = .returned (.int .i64 x) ∧ w' = w)
    (H : ∀ w, Calls Tryz.prog 77 #[.string pt] w fun e w' => e = .returned (.int .i64 y) ∧ w' = w)
    (bx : 0 ≤ x ∧ x ≤ 99999) (by' : 0 ≤ y ∧ y ≤ 99)
    (T : ∀ w, Calls Tryz.prog 78 #[.int .i64 (x * 64 + y * 64 / 100)] w fun e w' => e = .returned (.tuple #[.int .i64 r, .bool g]) ∧ w' = w) :
    Calls Tryz.prog 62 #[.string s] w fun e w' => e = .returned (.tuple #[.int .i64 r, .bool g]) ∧ ∃ n, w' = w.drewN n := by
  go_enter Tryz.func62, Tryz.ntmps62
  go_wp2_with (first | (go_at_call 70; refine (CS _).mono ?_; rintro e w' ⟨rfl, rfl⟩) | (go_at_call 34; refine (CP _).mono ?_; rintro e w' ⟨rfl, rfl⟩) | (go_at_call 35; refine (CC _).mono ?_; rintro e w' ⟨rfl, nd, rfl⟩) | (go_at_call 71; refine (D1 _).mono ?_; rintro e w' ⟨rfl, rfl⟩) | (go_at_call 72; refine (V _).mono ?_; rintro e w' ⟨rfl, rfl⟩) | (go_at_call 77; refine (H _).mono ?_; rintro e w' ⟨rfl, rfl⟩) | (go_at_call 78; refine (T _).mono ?_; rintro e w' ⟨rfl, rfl⟩))
  go_ret2
  exact ⟨rfl, _, rfl⟩
end Go.Proofs.YtdgagjnkbmckoaaGreatDoor

namespace Go.Proofs.YtdgagjnkbmckoaaGreatDoor
open Go.ChangeShapes Go.WideShapes Go.ChangeAt Go.RowKit

theorem read_no {s : ByteArray} (h : readB s = false) : readN s = 0 := by simp [readN, h]
theorem read_is {s : ByteArray} (h1 : pxB s = true) (h2 : fitB (bodyOf (numOf s)) = true) : readB s = lenGood (signed (numOf s)) ∧ readN s = if lenGood (signed (numOf s)) then signed (numOf s) else 0 := by
  have e : readB s = lenGood (signed (numOf s)) := by simp [readB, h1, h2]
  refine ⟨e, ?_⟩
  simp [readN, e]

theorem impl_read (s : ByteArray) (w : World) (hs : s.size ≤ 1048576) :
    Calls Tryz.prog 62 #[.string s] w fun e w' => e = .returned (.tuple #[.int .i64 (readN s), .bool (readB s)]) ∧ ∃ n, w' = w.drewN n := by
  have hn := numOf_size s
  have hb := body_size (numOf s)
  have hw := whole_size (bodyOf (numOf s))
  have hp := part_size (bodyOf (numOf s))
  have CS := fun w => cutSuffix_any s w hs
  have CP := fun w => cutPrefix_any (numOf s) w (by omega)
  have CC := fun w => cut_any (bodyOf (numOf s)) w (by omega)
  have D1 := fun w => isDigits_any (wholeOf (bodyOf (numOf s))) 5 w (by omega)
  have D2 := fun w => isDigits_any (partOf (bodyOf (numOf s))) 2 w (by omega)
  cases h1 : pxB s with
  | false =>
    have e : readB s = false := by simp [readB, h1]
    rw [read_no e, e]
    rw [h1] at CS
    exact impl_a s _ _ _ _ _ _ w CS CP CC
  | true =>
    rw [h1] at CS
    cases h2 : digsB (wholeOf (bodyOf (numOf s))) 5 with
    | false =>
      have e : readB s = false := by simp [readB, fitB, h2]
      rw [read_no e, e]
      rw [h2] at D1
      exact impl_b s _ _ _ _ _ _ w CS CP CC D1
    | true =>
      rw [h2] at D1
      cases h3 : dotB (bodyOf (numOf s)) with
      | true =>
        rw [h3] at CC
        cases h4 : digsB (partOf (bodyOf (numOf s))) 2 with
        | false =>
          have e : readB s = false := by simp [readB, fitB, h3, h4]
          rw [read_no e, e]
          rw [h4] at D2
          exact impl_c s _ _ _ _ _ w CS CP CC D1 D2
        | true =>
          rw [h4] at D2
          have hf : fitB (bodyOf (numOf s)) = true := by simp [fitB, h2, h4]
          obtain ⟨f1, f2, f3, f4⟩ := fit_parts hf
          obtain ⟨e1, e2⟩ := read_is h1 hf
          have V := fun w => digitsValue_any (wholeOf (bodyOf (numOf s))) w f1 f2
          have H := fun w => hundredthsOf_any (partOf (bodyOf (numOf s))) w f4 f3
          have bx := val_bd5 _ f2 f1
          have by' := hund_bd f4 f3
          have T := fun w => told_any (signed (numOf s)) w
          rw [e1, e2]
          cases h5 : negB (numOf s) with
          | true =>
            rw [h5] at CP
            have es : signed (numOf s) = -(amount (bodyOf (numOf s))) := by simp [signed, h5]
            rw [es] at T ⊢
            exact impl_d_neg s _ _ _ _ _ _ _ _ w CS CP CC D1 D2 V H bx by' T
          | false =>
            rw [h5] at CP
            have es : signed (numOf s) = amount (bodyOf (numOf s)) := by simp [signed, h5]
            rw [es] at T ⊢
            exact impl_d_pos s _ _ _ _ _ _ _ _ w CS CP CC D1 D2 V H bx by' T
      | false =>
        rw [h3] at CC
        have hf : fitB (bodyOf (numOf s)) = true := by simp [fitB, h2, h3]
        obtain ⟨f1, f2, f3, f4⟩ := fit_parts hf
        obtain ⟨e1, e2⟩ := read_is h1 hf
        have V := fun w => digitsValue_any (wholeOf (bodyOf (numOf s))) w f1 f2
        have H := fun w => hundredthsOf_any (partOf (bodyOf (numOf s))) w f4 f3
        have bx := val_bd5 _ f2 f1
        have by' := hund_bd f4 f3
        have T := fun w => told_any (signed (numOf s)) w
        rw [e1, e2]
        cases h5 : negB (numOf s) with
        | true =>
          rw [h5] at CP
          have es : signed (numOf s) = -(amount (bodyOf (numOf s))) := by simp [signed, h5]
          rw [es] at T ⊢
          exact impl_e_neg s _ _ _ _ _ _ _ _ w CS CP CC D1 V H bx by' T
        | false =>
          rw [h5] at CP
          have es : signed (numOf s) = amount (bodyOf (numOf s)) := by simp [signed, h5]
          rw [es] at T ⊢
          exact impl_e_pos s _ _ _ _ _ _ _ _ w CS CP CC D1 V H bx by' T
end Go.Proofs.YtdgagjnkbmckoaaGreatDoor

namespace Go.Proofs.YtdgagjnkbmckoaaGreatDoor
open Go.ChangeShapes Go.WideShapes Go.ChangeAt Go.RowKit
set_option linter.unusedVariables false

def sumOf (b : ByteArray) : Int := 100 * val (wholeOf b).data.toList + hund (partOf b)
def signedH (t : ByteArray) : Int := if negB t then -(sumOf (bodyOf t)) else sumOf (bodyOf t)
theorem data_nought (p : ByteArray) : (p ++ ⟨#[48]⟩).data.toList = p.data.toList ++ [48] := by simp
theorem size_nought (p : ByteArray) : (p ++ ⟨#[48]⟩).size = p.size + 1 := by rw [ByteArray.size_append]; rfl
theorem dig_nought {p : ByteArray} (h : digB p = true) : digB (p ++ ⟨#[48]⟩) = true := by
  unfold digB at *
  rw [data_nought, List.all_append, h]
  rfl
theorem val_nought {p : ByteArray} (h : p.size = 1) : val (p ++ ⟨#[48]⟩).data.toList = hund p := by
  rw [data_nought, val_snoc]
  simp [hund, h]

theorem digs_fits {s : ByteArray} {m : Int} (h : digsB s m = true) : (s.size : Int) ≤ m ∧ digB s = true := by
  unfold digsB at h
  simp only [Bool.and_eq_true, decide_eq_true_eq] at h
  exact ⟨h.1.2, h.2⟩

/-- The model's reader of hundredths. -/
theorem hundredths_any (t : ByteArray) (w : World) (hs : t.size ≤ 1048576) :
    Calls Tryz.prog 15 #[.string t] w fun e w' => e = .returned (.tuple #[.int .i64 (if fitB (bodyOf t) then signedH t else 0), .bool (fitB (bodyOf t))]) ∧ ∃ n, w' = w.drewN n := by
  have hb := body_size t
  have hw := whole_size (bodyOf t)
  have hp := part_size (bodyOf t)
  have b1 : (wholeOf (bodyOf t)).size ≤ 1048576 := by omega
  have b2 : (partOf (bodyOf t)).size ≤ 1048576 := by omega
  have CC := fun w => l1Cut_any (bodyOf t) w (by omega)
  by_cases h1 : 1 ≤ t.size
  rotate_left
  · have hn := neg_empty t h1
    have eb : bodyOf t = t := by simp [bodyOf, hn]
    have e0 : (wholeOf (bodyOf t)).size = 0 := by omega
    have hd : digsB (wholeOf (bodyOf t)) 5 = false := digsB_short (by omega)
    have ef : fitB (bodyOf t) = false := by simp [fitB, hd]
    rw [ef]
    simp only [Bool.false_eq_true, if_false]
    have D1 := fun w => l1D_no _ 5 w b1 hd (by omega)
    generalize wholeOf (bodyOf t) = wh at *
    generalize partOf (bodyOf t) = pt at *
    generalize dotB (bodyOf t) = dot at *
    rw [eb] at CC
    exact hu_emp_b t wh pt dot w hs (by omega) (by omega) b1 b2 CC D1
  have hn := neg_first t h1
  cases hneg : negB t with
  | true =>
    have eb : bodyOf t = t.extract 1 t.size := by simp [bodyOf, hneg]
    have es : signedH t = -(sumOf (bodyOf t)) := by simp [signedH, hneg]
    rw [hneg] at hn
    by_cases w5 : (wholeOf (bodyOf t)).size ≤ 5
    rotate_left
    · have hd : digsB (wholeOf (bodyOf t)) 5 = false := digsB_long (by omega)
      have ef : fitB (bodyOf t) = false := by simp [fitB, hd]
      rw [ef]
      simp only [Bool.false_eq_true, if_false]
      generalize wholeOf (bodyOf t) = wh at *
      generalize partOf (bodyOf t) = pt at *
      generalize dotB (bodyOf t) = dot at *
      rw [eb] at CC
      exact hu_neg_a t wh pt dot w hs h1 hn.symm (by omega) b1 b2 CC
    cases hd : digsB (wholeOf (bodyOf t)) 5 with
    | false =>
      have ef : fitB (bodyOf t) = false := by simp [fitB, hd]
      rw [ef]
      simp only [Bool.false_eq_true, if_false]
      have D1 := fun w => l1D_no _ 5 w b1 hd (by omega)
      generalize wholeOf (bodyOf t) = wh at *
      generalize partOf (bodyOf t) = pt at *
      generalize dotB (bodyOf t) = dot at *
      rw [eb] at CC
      exact hu_neg_b t wh pt dot w hs h1 hn.symm w5 b1 b2 CC D1
    | true =>
      have D1 := fun w => l1D_yes _ 5 w b1 hd
      cases hdot : dotB (bodyOf t) with
      | false =>
        have ef : fitB (bodyOf t) = true := by simp [fitB, hd, hdot]
        obtain ⟨f1, f2, f3, f4⟩ := fit_parts ef
        have ep : partOf (bodyOf t) = ⟨#[]⟩ := by simp [partOf, hdot]
        have hp1 : (((partOf (bodyOf t)).size : Int) == 1) = false := by rw [ep]; rfl
        have ey : hund (partOf (bodyOf t)) = val (partOf (bodyOf t)).data.toList := by rw [ep]; rfl
        have R1 := fun w => l1Read_any _ w f1 f2
        have R2 := fun w => l1Read_any _ w (by omega) f4
        have bx := val_bd5 _ f2 f1
        have by' := hund_bd f4 f3
        rw [ef, es, sumOf, ey]
        rw [ey] at by'
        simp only [if_true]
        rw [hdot] at CC
        generalize wholeOf (bodyOf t) = wh at *
        generalize partOf (bodyOf t) = pt at *
        rw [eb] at CC
        exact hu_neg_g t wh pt _ _ w hs h1 hn.symm w5 hp1 b2 CC D1 R1 R2 bx by'
      | true =>
        rw [hdot] at CC
        by_cases p2 : (partOf (bodyOf t)).size ≤ 2
        rotate_left
        · have hd2 : digsB (partOf (bodyOf t)) 2 = false := digsB_long (by omega)
          have ef : fitB (bodyOf t) = false := by simp [fitB, hdot, hd2]
          rw [ef]
          simp only [Bool.false_eq_true, if_false]
          generalize wholeOf (bodyOf t) = wh at *
          generalize partOf (bodyOf t) = pt at *
          rw [eb] at CC
          exact hu_neg_c t wh pt w hs h1 hn.symm w5 (by omega) b1 b2 CC D1
        cases hd2 : digsB (partOf (bodyOf t)) 2 with
        | false =>
          have ef : fitB (bodyOf t) = false := by simp [fitB, hdot, hd2]
          rw [ef]
          simp only [Bool.false_eq_true, if_false]
          have D2 := fun w => l1D_no _ 2 w b2 hd2 (by omega)
          generalize wholeOf (bodyOf t) = wh at *
          generalize partOf (bodyOf t) = pt at *
          rw [eb] at CC
          exact hu_neg_d t wh pt w hs h1 hn.symm w5 p2 b1 b2 CC D1 D2
        | true =>
          have ef : fitB (bodyOf t) = true := by simp [fitB, hd, hd2]
          obtain ⟨f1, f2, f3, f4⟩ := fit_parts ef
          have D2 := fun w => l1D_yes _ 2 w b2 hd2
          have R1 := fun w => l1Read_any _ w f1 f2
          have bx := val_bd5 _ f2 f1
          have by' := hund_bd f4 f3
          rw [ef, es, sumOf]
          simp only [if_true]
          by_cases p1 : (partOf (bodyOf t)).size = 1
          · have R2 := fun w => l1Read_any _ w (show (partOf (bodyOf t) ++ ⟨#[48]⟩).size ≤ 5 by rw [size_nought]; omega) (dig_nought f4)
            rw [val_nought p1] at R2
            generalize hund (partOf (bodyOf t)) = y at *
            generalize val (wholeOf (bodyOf t)).data.toList = x at *
            generalize wholeOf (bodyOf t) = wh at *
            generalize partOf (bodyOf t) = pt at *
            rw [eb] at CC
            exact hu_neg_e t wh pt x y w hs h1 hn.symm w5 p1 CC D1 D2 R1 R2 bx by'
          · have ey : hund (partOf (bodyOf t)) = val (partOf (bodyOf t)).data.toList := by simp [hund, p1]
            have R2 := fun w => l1Read_any _ w (show (partOf (bodyOf t)).size ≤ 5 by omega) f4
            rw [ey] at by' ⊢
            have hp1 : (((partOf (bodyOf t)).size : Int) == 1) = false := by simp; omega
            generalize wholeOf (bodyOf t) = wh at *
            generalize partOf (bodyOf t) = pt at *
            rw [eb] at CC
            exact hu_neg_f t wh pt _ _ w hs h1 hn.symm w5 p2 hp1 CC D1 D2 R1 R2 bx by'
  | false =>
    have eb : bodyOf t = t := by simp [bodyOf, hneg]
    have es : signedH t = sumOf (bodyOf t) := by simp [signedH, hneg]
    rw [hneg] at hn
    by_cases w5 : (wholeOf (bodyOf t)).size ≤ 5
    rotate_left
    · have hd : digsB (wholeOf (bodyOf t)) 5 = false := digsB_long (by omega)
      have ef : fitB (bodyOf t) = false := by simp [fitB, hd]
      rw [ef]
      simp only [Bool.false_eq_true, if_false]
      generalize wholeOf (bodyOf t) = wh at *
      generalize partOf (bodyOf t) = pt at *
      generalize dotB (bodyOf t) = dot at *
      rw [eb] at CC
      exact hu_pos_a t wh pt dot w hs h1 hn.symm (by omega) b1 b2 CC
    cases hd : digsB (wholeOf (bodyOf t)) 5 with
    | false =>
      have ef : fitB (bodyOf t) = false := by simp [fitB, hd]
      rw [ef]
      simp only [Bool.false_eq_true, if_false]
      have D1 := fun w => l1D_no _ 5 w b1 hd (by omega)
      generalize wholeOf (bodyOf t) = wh at *
      generalize partOf (bodyOf t) = pt at *
      generalize dotB (bodyOf t) = dot at *
      rw [eb] at CC
      exact hu_pos_b t wh pt dot w hs h1 hn.symm w5 b1 b2 CC D1
    | true =>
      have D1 := fun w => l1D_yes _ 5 w b1 hd
      cases hdot : dotB (bodyOf t) with
      | false =>
        have ef : fitB (bodyOf t) = true := by simp [fitB, hd, hdot]
        obtain ⟨f1, f2, f3, f4⟩ := fit_parts ef
        have ep : partOf (bodyOf t) = ⟨#[]⟩ := by simp [partOf, hdot]
        have hp1 : (((partOf (bodyOf t)).size : Int) == 1) = false := by rw [ep]; rfl
        have ey : hund (partOf (bodyOf t)) = val (partOf (bodyOf t)).data.toList := by rw [ep]; rfl
        have R1 := fun w => l1Read_any _ w f1 f2
        have R2 := fun w => l1Read_any _ w (by omega) f4
        have bx := val_bd5 _ f2 f1
        have by' := hund_bd f4 f3
        rw [ef, es, sumOf, ey]
        rw [ey] at by'
        simp only [if_true]
        rw [hdot] at CC
        generalize wholeOf (bodyOf t) = wh at *
        generalize partOf (bodyOf t) = pt at *
        rw [eb] at CC
        exact hu_pos_g t wh pt _ _ w hs h1 hn.symm w5 hp1 b2 CC D1 R1 R2 bx by'
      | true =>
        rw [hdot] at CC
        by_cases p2 : (partOf (bodyOf t)).size ≤ 2
        rotate_left
        · have hd2 : digsB (partOf (bodyOf t)) 2 = false := digsB_long (by omega)
          have ef : fitB (bodyOf t) = false := by simp [fitB, hdot, hd2]
          rw [ef]
          simp only [Bool.false_eq_true, if_false]
          generalize wholeOf (bodyOf t) = wh at *
          generalize partOf (bodyOf t) = pt at *
          rw [eb] at CC
          exact hu_pos_c t wh pt w hs h1 hn.symm w5 (by omega) b1 b2 CC D1
        cases hd2 : digsB (partOf (bodyOf t)) 2 with
        | false =>
          have ef : fitB (bodyOf t) = false := by simp [fitB, hdot, hd2]
          rw [ef]
          simp only [Bool.false_eq_true, if_false]
          have D2 := fun w => l1D_no _ 2 w b2 hd2 (by omega)
          generalize wholeOf (bodyOf t) = wh at *
          generalize partOf (bodyOf t) = pt at *
          rw [eb] at CC
          exact hu_pos_d t wh pt w hs h1 hn.symm w5 p2 b1 b2 CC D1 D2
        | true =>
          have ef : fitB (bodyOf t) = true := by simp [fitB, hd, hd2]
          obtain ⟨f1, f2, f3, f4⟩ := fit_parts ef
          have D2 := fun w => l1D_yes _ 2 w b2 hd2
          have R1 := fun w => l1Read_any _ w f1 f2
          have bx := val_bd5 _ f2 f1
          have by' := hund_bd f4 f3
          rw [ef, es, sumOf]
          simp only [if_true]
          by_cases p1 : (partOf (bodyOf t)).size = 1
          · have R2 := fun w => l1Read_any _ w (show (partOf (bodyOf t) ++ ⟨#[48]⟩).size ≤ 5 by rw [size_nought]; omega) (dig_nought f4)
            rw [val_nought p1] at R2
            generalize hund (partOf (bodyOf t)) = y at *
            generalize val (wholeOf (bodyOf t)).data.toList = x at *
            generalize wholeOf (bodyOf t) = wh at *
            generalize partOf (bodyOf t) = pt at *
            rw [eb] at CC
            exact hu_pos_e t wh pt x y w hs h1 hn.symm w5 p1 CC D1 D2 R1 R2 bx by'
          · have ey : hund (partOf (bodyOf t)) = val (partOf (bodyOf t)).data.toList := by simp [hund, p1]
            have R2 := fun w => l1Read_any _ w (show (partOf (bodyOf t)).size ≤ 5 by omega) f4
            rw [ey] at by' ⊢
            have hp1 : (((partOf (bodyOf t)).size : Int) == 1) = false := by simp; omega
            generalize wholeOf (bodyOf t) = wh at *
            generalize partOf (bodyOf t) = pt at *
            rw [eb] at CC
            exact hu_pos_f t wh pt _ _ w hs h1 hn.symm w5 p2 hp1 CC D1 D2 R1 R2 bx by'

theorem sum_bd {b : ByteArray} (h : fitB b = true) : 0 ≤ sumOf b ∧ sumOf b ≤ 10000000 ∧ sumOf b / 100 * 64 + sumOf b % 100 * 64 / 100 = amount b := by
  obtain ⟨f1, f2, f3, f4⟩ := fit_parts h
  have bx := val_bd5 _ f2 f1
  have by' := hund_bd f4 f3
  unfold sumOf amount
  generalize val (wholeOf b).data.toList = x at *
  generalize hund (partOf b) = y at *
  have e1 : (100 * x + y) / 100 = x := by omega
  have e2 : (100 * x + y) % 100 = y := by omega
  rw [e1, e2]
  exact ⟨by omega, by omega, rfl⟩

theorem spec_read (s : ByteArray) (w : World) (hs : s.size ≤ 1048576) :
    Calls Tryz.prog 16 #[.string s] w fun e w' => e = .returned (.tuple #[.int .i64 (readN s), .bool (readB s)]) ∧ ∃ n, w' = w.drewN n := by
  by_cases h3 : s.size < 3
  · have e : readB s = false := by
      cases hpx : pxB s with
      | false => simp [readB, hpx]
      | true =>
        have h2 : 2 ≤ s.size := by
          unfold pxB at hpx
          simp only [Bool.and_eq_true, decide_eq_true_eq] at hpx
          exact hpx.1
        have en : (numOf s).size = 0 := by
          have : numOf s = s.extract 0 (s.size - 2) := by simp [numOf, hpx]
          rw [this, ByteArray.size_extract]
          omega
        have hb := body_size (numOf s)
        have hw := whole_size (bodyOf (numOf s))
        have hd : digsB (wholeOf (bodyOf (numOf s))) 5 = false := digsB_short (by omega)
        simp [readB, fitB, hd]
    rw [read_no e, e]
    exact sp_a s w hs h3
  cases hx : ((s.extract (s.size - 2) s.size).toList == [112, 120]) with
  | false =>
    have e : readB s = false := by simp only [readB, pxB, hx, Bool.and_false, Bool.false_and]
    rw [read_no e, e]
    exact sp_b s w hs (by omega) hx
  | true =>
    have hpx : pxB s = true := by
      have h2 : 2 ≤ s.size := by omega
      simp only [pxB, hx, h2, decide_true, Bool.and_self]
    have en : numOf s = s.extract 0 (s.size - 2) := by simp [numOf, hpx]
    have hns := numOf_size s
    have HU := fun w => hundredths_any (numOf s) w (by omega)
    cases hf : fitB (bodyOf (numOf s)) with
    | false =>
      have e : readB s = false := by simp [readB, hf]
      rw [read_no e, e]
      rw [hf] at HU
      simp only [Bool.false_eq_true, if_false] at HU
      rw [en] at HU
      exact sp_c s w hs (by omega) hx HU
    | true =>
      obtain ⟨e1, e2⟩ := read_is hpx hf
      obtain ⟨s1, s2, s3⟩ := sum_bd hf
      rw [hf] at HU
      simp only [if_true] at HU
      rw [e1, e2]
      cases hneg : negB (numOf s) with
      | false =>
        have es : signed (numOf s) = amount (bodyOf (numOf s)) := by simp [signed, hneg]
        have eh : signedH (numOf s) = sumOf (bodyOf (numOf s)) := by simp [signedH, hneg]
        rw [es]
        rw [eh] at HU
        rw [← s3]
        generalize sumOf (bodyOf (numOf s)) = h at *
        rw [en] at HU
        by_cases g : h / 100 * 64 + h % 100 * 64 / 100 ≤ 1000000
        · have eg : lenGood (h / 100 * 64 + h % 100 * 64 / 100) = true := decide_eq_true (by omega)
          rw [eg]
          simp only [if_true]
          exact sp_d_good s h w hs (by omega) hx s1 s2 g HU
        · have eg : lenGood (h / 100 * 64 + h % 100 * 64 / 100) = false := decide_eq_false (by omega)
          rw [eg]
          simp only [Bool.false_eq_true, if_false]
          exact sp_d_bad s h w hs (by omega) hx s1 s2 g HU
      | true =>
        have es : signed (numOf s) = -(amount (bodyOf (numOf s))) := by simp [signed, hneg]
        have eh : signedH (numOf s) = -(sumOf (bodyOf (numOf s))) := by simp [signedH, hneg]
        rw [es]
        rw [eh] at HU
        rw [← s3]
        generalize sumOf (bodyOf (numOf s)) = k at *
        rw [en] at HU
        by_cases k0 : k = 0
        · subst k0
          have := sp_d_good s 0 w hs (by omega) hx (by omega) (by omega) (by omega) HU
          exact this
        · by_cases g : k / 100 * 64 + k % 100 * 64 / 100 ≤ 1000000
          · have eg : lenGood (-(k / 100 * 64 + k % 100 * 64 / 100)) = true := decide_eq_true (by omega)
            rw [eg]
            simp only [if_true]
            exact sp_e_good s k w hs (by omega) hx (by omega) s2 g HU
          · have eg : lenGood (-(k / 100 * 64 + k % 100 * 64 / 100)) = false := decide_eq_false (by omega)
            rw [eg]
            simp only [Bool.false_eq_true, if_false]
            exact sp_e_bad s k w hs (by omega) hx (by omega) s2 g HU
end Go.Proofs.YtdgagjnkbmckoaaGreatDoor

namespace Go.Proofs.YtdgagjnkbmckoaaGreatDoor
open Go.ChangeShapes Go.WideShapes Go.ChangeAt Go.RowKit
set_option linter.unusedVariables false

def preB (s p : ByteArray) : Bool := decide (p.size ≤ s.size) && ((s.extract 0 p.size).toList == p.toList)
def preR (s p : ByteArray) : ByteArray := if preB s p then s.extract p.size s.size else s
def pcB (s : ByteArray) : Bool := decide (1 ≤ s.size) && ((s.extract (s.size - 1) s.size).toList == [37])
def pcR (s : ByteArray) : ByteArray := if pcB s then s.extract 0 (s.size - 1) else s

set_option maxHeartbeats 1000000 in
theorem cutPre_any (s p : ByteArray) (w : World) (hs : s.size ≤ 1048576) (hp : p.size ≤ 1048576) :
    Calls Tryz.prog 34 #[.string s, .string p] w fun e w' => e = .returned (.tuple #[.string (preR s p), .bool (preB s p)]) ∧ w' = w := by
  by_cases h2 : p.size ≤ s.size
  · have h2' : (p.size : Int) ≤ (s.size : Int) := by omega
    have h20 : (0 : Int) ≤ (p.size : Int) := by omega
    cases h : ((s.extract 0 p.size).toList == p.toList) with
    | true =>
      have e : preB s p = true := by simp only [preB, h, h2, decide_true, Bool.and_self]
      have HE : Hid (preB s p = true) := e
      have HN : Hid (preR s p = s.extract p.size s.size) := by show preR s p = _; simp [preR, e]
      clear e
      go_enter Tryz.func34, Tryz.ntmps34
      go_wp2
      go_ret2
      exact ⟨ret2S HN.out.symm HE.out.symm, rfl⟩
    | false =>
      have e : preB s p = false := by simp only [preB, h, Bool.and_false]
      have HE : Hid (preB s p = false) := e
      have HN : Hid (preR s p = s) := by show preR s p = _; simp [preR, e]
      clear e
      go_enter Tryz.func34, Tryz.ntmps34
      go_wp2
      go_ret2
      exact ⟨ret2S HN.out.symm HE.out.symm, rfl⟩
  · have h2' : ¬ (p.size : Int) ≤ (s.size : Int) := by omega
    have e : preB s p = false := by simp [preB, h2]
    have HE : Hid (preB s p = false) := e
    have HN : Hid (preR s p = s) := by show preR s p = _; simp [preR, e]
    clear e
    go_enter Tryz.func34, Tryz.ntmps34
    go_wp2
    go_ret2
    exact ⟨ret2S HN.out.symm HE.out.symm, rfl⟩
theorem cutPct_any (s : ByteArray) (w : World) (hs : s.size ≤ 1048576) :
    Calls Tryz.prog 70 #[.string s, .string ⟨#[37]⟩] w fun e w' => e = .returned (.tuple #[.string (pcR s), .bool (pcB s)]) ∧ w' = w := by
  by_cases h2 : 1 ≤ s.size
  · cases h : ((s.extract (s.size - 1) s.size).toList == [37]) with
    | true =>
      have e : pcB s = true := by simp only [pcB, h, h2, decide_true, Bool.and_self]
      have HE : Hid (pcB s = true) := e
      have HN : Hid (pcR s = s.extract 0 (s.size - 1)) := by show pcR s = _; simp [pcR, e]
      clear e
      go_enter Tryz.func70, Tryz.ntmps70
      go_wp2
      go_ret2
      exact ⟨ret2S HN.out.symm HE.out.symm, rfl⟩
    | false =>
      have e : pcB s = false := by simp only [pcB, h, Bool.and_false]
      have HE : Hid (pcB s = false) := e
      have HN : Hid (pcR s = s) := by show pcR s = _; simp [pcR, e]
      clear e
      go_enter Tryz.func70, Tryz.ntmps70
      go_wp2
      go_ret2
      exact ⟨ret2S HN.out.symm HE.out.symm, rfl⟩
  · have e : pcB s = false := by simp [pcB, h2]
    have HE : Hid (pcB s = false) := e
    have HN : Hid (pcR s = s) := by show pcR s = _; simp [pcR, e]
    clear e
    go_enter Tryz.func70, Tryz.ntmps70
    go_wp2
    go_ret2
    exact ⟨ret2S HN.out.symm HE.out.symm, rfl⟩

/-- A percent as the program reads it. -/
def pctFitB (v : ByteArray) : Bool := pcB v && digsB (bodyOf (pcR v)) 4
def pctVal (v : ByteArray) : Int := val (bodyOf (pcR v)).data.toList * 100
def pctSgn (v : ByteArray) : Int := if negB (pcR v) then -(pctVal v) else pctVal v
end Go.Proofs.YtdgagjnkbmckoaaGreatDoor
