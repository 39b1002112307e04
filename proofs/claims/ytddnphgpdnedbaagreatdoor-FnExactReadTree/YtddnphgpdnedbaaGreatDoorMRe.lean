/-
  The plain numbers behind ReadPixels: digits, their value, and bounds of it.
  Contracts of the digit readers of ReadPixels and of its model: l1Digits, isDigits, l1Read and digitsValue, for every string of at most 1048576 bytes (the last two: of at most five digits).
  Contracts of the cuts of ReadPixels and of its model: the model's l1Cut and strings.Cut at a point, strings.CutSuffix at px and strings.CutPrefix at a minus sign, for every string of at most 1048576 bytes.
  Cuts at a semicolon: the model's, and strings.Cut.
  Contracts of ReadPixels and of its model: both answer readN and readB of the text, for every string of at most 1048576 bytes.
  Cuts at a semicolon: the model's, and strings.Cut.
  Cuts at a colon: the model's, and strings.Cut.
-/
import Derived.Test.YtddnphgpdnedbaaGreatDoorRows
import Derived.WalkKit
import Derived.ProofKit
import Derived.OpenShut
import Derived.WalkSpells
import Derived.Deep.QuietTactic
import Derived.BigQuiet
import Derived.WalkSmall
import Derived.Lib.Bytealg
import Derived.Lib.IndexLaws
namespace Go.Proofs.YtddnphgpdnedbaaGreatDoor
def digB (t : ByteArray) : Bool := t.data.toList.all (fun c => decide (48 ≤ c.toNat ∧ c.toNat ≤ 57))
def val (l : List UInt8) : Int := l.foldl (fun n c => 10 * n + ((c.toNat : Int) - 48)) 0
theorem val_snoc (l : List UInt8) (c : UInt8) : val (l ++ [c]) = 10 * val l + ((c.toNat : Int) - 48) := by simp [val]
theorem take_byte (s : ByteArray) (k : Nat) (h : k < s.size) : s.data.toList.take (k + 1) = s.data.toList.take k ++ [s[k]] := by
  rw [List.take_succ_eq_append_getElem (by simpa using h)]; rfl
theorem val_next (s : ByteArray) (k : Nat) (h : k < s.size) : val (s.data.toList.take (k + 1)) = 10 * val (s.data.toList.take k) + ((s[k].toNat : Int) - 48) := by
  rw [take_byte s k h, val_snoc]
theorem all_take (s : ByteArray) : s.data.toList.take s.size = s.data.toList := List.take_of_length_le (by simp)
theorem digB_at {s : ByteArray} (h : digB s = true) (k : Nat) (hk : k < s.size) : 48 ≤ s[k].toNat ∧ s[k].toNat ≤ 57 := by
  unfold digB at h
  rw [List.all_eq_true] at h
  have := h s[k] (by show s.data[k] ∈ s.data.toList; simp)
  simpa using this
theorem digB_bad {s : ByteArray} (k : Nat) (hk : k < s.size) (h : ¬ (48 ≤ s[k].toNat ∧ s[k].toNat ≤ 57)) : digB s = false := by
  cases e : digB s with
  | false => rfl
  | true => exact absurd (digB_at e k hk) h
/-- The first k bytes are digits. -/
def DigTo (s : ByteArray) (k : Nat) : Prop := ∀ j (h : j < s.size), j < k → 48 ≤ s[j].toNat ∧ s[j].toNat ≤ 57
theorem digTo_zero (s : ByteArray) : DigTo s 0 := fun j _ h => absurd h (by omega)
theorem digTo_next {s : ByteArray} {k : Nat} (h : DigTo s k) (hk : k < s.size) (d : 48 ≤ s[k].toNat ∧ s[k].toNat ≤ 57) : DigTo s (k + 1) := fun j hj hjk => by
  by_cases e : j = k
  · subst e; exact d
  · exact h j hj (by omega)
theorem digB_all {s : ByteArray} (h : DigTo s s.size) : digB s = true := by
  unfold digB
  rw [List.all_eq_true]
  intro c hc
  obtain ⟨j, hj, rfl⟩ := List.getElem_of_mem hc
  have hj' : j < s.size := by simpa using hj
  have hd := h j hj' hj'
  exact decide_eq_true hd
theorem val_pow (s : ByteArray) (h : digB s = true) : ∀ k, k ≤ s.size → 0 ≤ val (s.data.toList.take k) ∧ val (s.data.toList.take k) + 1 ≤ (10 : Int) ^ k := by
  intro k
  induction k with
  | zero => intro _; simp [val]
  | succ k ih =>
    intro hk
    have h1 := ih (by omega)
    have h2 := digB_at h k (by omega)
    rw [val_next s k (by omega), Int.pow_succ]
    omega
theorem val_bd (s : ByteArray) (h : digB s = true) (k : Nat) (hk : k ≤ s.size) (h5 : k ≤ 5) : 0 ≤ val (s.data.toList.take k) ∧ val (s.data.toList.take k) ≤ 99999 := by
  have h1 := val_pow s h k hk
  have : k = 0 ∨ k = 1 ∨ k = 2 ∨ k = 3 ∨ k = 4 ∨ k = 5 := by omega
  rcases this with rfl | rfl | rfl | rfl | rfl | rfl <;> simp at h1 ⊢ <;> omega
theorem val_bd2 (s : ByteArray) (h : digB s = true) (h2 : s.size ≤ 2) : 0 ≤ val s.data.toList ∧ val s.data.toList ≤ 99 := by
  have h1 := val_pow s h s.size (Nat.le_refl _)
  rw [all_take] at h1
  have : s.size = 0 ∨ s.size = 1 ∨ s.size = 2 := by omega
  rcases this with e | e | e <;> rw [e] at h1 <;> simp at h1 <;> omega
theorem val_bd1 (s : ByteArray) (h : digB s = true) (h2 : s.size = 1) : 0 ≤ val s.data.toList ∧ val s.data.toList ≤ 9 := by
  have h1 := val_pow s h s.size (Nat.le_refl _)
  rw [all_take, h2] at h1
  simp at h1
  omega
theorem val_bd5 (s : ByteArray) (h : digB s = true) (h5 : s.size ≤ 5) : 0 ≤ val s.data.toList ∧ val s.data.toList ≤ 99999 := by
  have := val_bd s h s.size (Nat.le_refl _) h5
  rwa [all_take] at this
end Go.Proofs.YtddnphgpdnedbaaGreatDoor

namespace Go.Proofs.YtddnphgpdnedbaaGreatDoor
open Go.ChangeShapes Go.WideShapes Go.ChangeAt Go.RowKit
theorem retI {k : IntKind} {a b : Int} (h : a = b) : Ending.returned (.int k a) = .returned (.int k b) := by rw [h]
theorem retB {a b : Bool} (h : a = b) : Ending.returned (.bool a) = .returned (.bool b) := by rw [h]

set_option maxHeartbeats 1000000 in
theorem l1Digits_any (s : ByteArray) (w : World) (hs : s.size ≤ 1048576) :
    Calls Tryz.prog 65 #[.string s] w fun e w' => e = .returned (.bool (digB s && decide (0 < s.size))) ∧ w' = w := by
  go_enter Tryz.func65, Tryz.ntmps65
  go_wp2
  go_loop [3] (fun i => ∃ k : Nat, k ≤ s.size ∧ i = .int .i64 k ∧ DigTo s k) (fun i => s.size - (intOf i).toNat)
  case atStart => exact ⟨0, Nat.zero_le _, rfl, digTo_zero _⟩
  case round =>
    obtain ⟨k, hk, rfl, hd⟩ := hrel
    by_cases hlt : k < s.size
    · have N := fun d => digTo_next hd hlt d
      have B := digB_bad (s := s) k hlt
      clear hd
      by_cases h1 : 48 ≤ s[k].toNat
      · by_cases h2 : s[k].toNat ≤ 57
        · have HN : Hid (DigTo s (k + 1)) := N ⟨h1, h2⟩
          clear N B
          go_wp2
          go_round
          case rel => exact ⟨k + 1, by omega, by go_num, HN.out⟩
          case measure => simp [intOf]; omega
        · have HB : Hid (digB s = false) := B (by omega)
          clear N B
          go_wp2
          go_ret
          exact ⟨retB (by rw [HB.out]; rfl), rfl⟩
      · have HB : Hid (digB s = false) := B (by omega)
        clear N B
        go_wp2
        go_ret
        exact ⟨retB (by rw [HB.out]; rfl), rfl⟩
    · have e : k = s.size := by omega
      subst e
      have HB : Hid (digB s = true) := digB_all hd
      clear hd
      go_wp2
      go_ret
      exact ⟨retB (by rw [HB.out]; simp), rfl⟩

def digsB (s : ByteArray) (m : Int) : Bool := decide (1 ≤ s.size) && decide ((s.size : Int) ≤ m) && digB s
theorem digsB_short {s : ByteArray} {m : Int} (h : ¬ 1 ≤ s.size) : digsB s m = false := by simp [digsB, h]
theorem digsB_long {s : ByteArray} {m : Int} (h : ¬ (s.size : Int) ≤ m) : digsB s m = false := by simp [digsB, h]
theorem digsB_bad {s : ByteArray} {m : Int} (h : digB s = false) : digsB s m = false := by simp [digsB, h]
theorem digsB_good {s : ByteArray} {m : Int} (h1 : 1 ≤ s.size) (h2 : (s.size : Int) ≤ m) (h : digB s = true) : digsB s m = true := by simp [digsB, h, h1, h2]

set_option maxHeartbeats 1000000 in
theorem isDigits_any (s : ByteArray) (m : Int) (w : World) (hs : s.size ≤ 1048576) :
    Calls Tryz.prog 130 #[.string s, .int .i64 m] w fun e w' => e = .returned (.bool (digsB s m)) ∧ w' = w := by
  by_cases h1 : 1 ≤ s.size
  rotate_left
  · have HB : Hid (digsB s m = false) := digsB_short h1
    go_enter Tryz.func130, Tryz.ntmps130
    go_wp2
    go_ret
    exact ⟨retB HB.out.symm, rfl⟩
  by_cases h2 : (s.size : Int) ≤ m
  rotate_left
  · have HB : Hid (digsB s m = false) := digsB_long h2
    go_enter Tryz.func130, Tryz.ntmps130
    go_wp2
    go_ret
    exact ⟨retB HB.out.symm, rfl⟩
  go_enter Tryz.func130, Tryz.ntmps130
  go_wp2
  go_loop [17] (fun i => ∃ k : Nat, k ≤ s.size ∧ i = .int .i64 k ∧ DigTo s k) (fun i => s.size - (intOf i).toNat)
  case atStart => exact ⟨0, Nat.zero_le _, rfl, digTo_zero _⟩
  case round =>
    obtain ⟨k, hk, rfl, hd⟩ := hrel
    by_cases hlt : k < s.size
    · have N := fun d => digTo_next hd hlt d
      have B := fun h => digsB_bad (m := m) (digB_bad (s := s) k hlt h)
      clear hd
      by_cases g1 : 48 ≤ s[k].toNat
      · by_cases g2 : s[k].toNat ≤ 57
        · have HN : Hid (DigTo s (k + 1)) := N ⟨g1, g2⟩
          clear N B
          go_wp2
          go_round
          case rel => exact ⟨k + 1, by omega, by go_num, HN.out⟩
          case measure => simp [intOf]; omega
        · have HB : Hid (digsB s m = false) := B (by omega)
          clear N B
          go_wp2
          go_ret
          exact ⟨retB HB.out.symm, rfl⟩
      · have HB : Hid (digsB s m = false) := B (by omega)
        clear N B
        go_wp2
        go_ret
        exact ⟨retB HB.out.symm, rfl⟩
    · have e : k = s.size := by omega
      subst e
      have HB : Hid (digsB s m = true) := digsB_good h1 h2 (digB_all hd)
      clear hd
      go_wp2
      go_ret
      exact ⟨retB HB.out.symm, rfl⟩

set_option maxHeartbeats 1000000 in
theorem l1Read_any (s : ByteArray) (w : World) (hs : s.size ≤ 5) (hd : digB s = true) :
    Calls Tryz.prog 66 #[.string s] w fun e w' => e = .returned (.int .i64 (val s.data.toList)) ∧ w' = w := by
  go_enter Tryz.func66, Tryz.ntmps66
  go_wp2
  go_loop [3, 4] (fun n i => ∃ k : Nat, k ≤ s.size ∧ i = .int .i64 k ∧ n = .int .i64 (val (s.data.toList.take k))) (fun _ i => s.size - (intOf i).toNat)
  case atStart => exact ⟨0, Nat.zero_le _, rfl, rfl⟩
  case round =>
    obtain ⟨k, hk, rfl, rfl⟩ := hrel
    by_cases hlt : k < s.size
    · have hb := val_bd s hd k hk (by omega)
      have hv := val_next s k hlt
      have hc := digB_at hd k hlt
      obtain ⟨v, hv'⟩ : ∃ v, v = val (s.data.toList.take k) := ⟨_, rfl⟩
      rw [← hv'] at hb hv
      rw [← hv']
      have HV : Hid (val (s.data.toList.take (k + 1)) = 10 * v + ((s[k].toNat : Int) - 48)) := hv
      clear hv hv' hd
      go_wp2
      go_round
      case rel => exact ⟨k + 1, by omega, by go_num, by rw [HV.out]⟩
      case measure => simp [intOf]; omega
    · have e : k = s.size := by omega
      subst e
      go_wp2
      go_ret
      exact ⟨retI (by rw [all_take]), rfl⟩

set_option maxHeartbeats 1000000 in
theorem digitsValue_any (s : ByteArray) (w : World) (hs : s.size ≤ 5) (hd : digB s = true) :
    Calls Tryz.prog 131 #[.string s] w fun e w' => e = .returned (.int .i64 (val s.data.toList)) ∧ w' = w := by
  go_enter Tryz.func131, Tryz.ntmps131
  go_wp2
  go_loop [3, 7] (fun n i => ∃ k : Nat, k ≤ s.size ∧ i = .int .i64 k ∧ n = .int .i64 (val (s.data.toList.take k))) (fun _ i => s.size - (intOf i).toNat)
  case atStart => exact ⟨0, Nat.zero_le _, rfl, rfl⟩
  case round =>
    obtain ⟨k, hk, rfl, rfl⟩ := hrel
    by_cases hlt : k < s.size
    · have hb := val_bd s hd k hk (by omega)
      have hv := val_next s k hlt
      have hc := digB_at hd k hlt
      obtain ⟨v, hv'⟩ : ∃ v, v = val (s.data.toList.take k) := ⟨_, rfl⟩
      rw [← hv'] at hb hv
      rw [← hv']
      have HV : Hid (val (s.data.toList.take (k + 1)) = 10 * v + ((s[k].toNat : Int) - 48)) := hv
      clear hv hv' hd
      go_wp2
      go_round
      case rel => exact ⟨k + 1, by omega, by go_num, by rw [HV.out]; go_num⟩
      case measure => simp [intOf]; omega
    · have e : k = s.size := by omega
      subst e
      go_wp2
      go_ret
      exact ⟨retI (by rw [all_take]), rfl⟩
end Go.Proofs.YtddnphgpdnedbaaGreatDoor

namespace Go.Proofs.YtddnphgpdnedbaaGreatDoor
open Go.ChangeShapes Go.WideShapes Go.ChangeAt Go.RowKit

/-- The first point of a text stands at i. -/
def DotAt (t : ByteArray) (i : Nat) : Prop := ∃ h : i < t.size, t[i].toNat = 46 ∧ ∀ j (hj : j < t.size), j < i → t[j].toNat ≠ 46
def NoDot (t : ByteArray) : Prop := ∀ j (hj : j < t.size), t[j].toNat ≠ 46
theorem at_list (t : ByteArray) (j : Nat) (h : j < t.size) : t.data.toList[j]? = some t[j] := by
  rw [List.getElem?_eq_getElem (by simpa using h)]; rfl
theorem dot_byte (c : UInt8) : c.toNat = 46 ↔ c = 46 := ⟨fun h => UInt8.toNat_inj.1 (by rw [h]; rfl), fun h => by rw [h]; rfl⟩
theorem dot_index (t : ByteArray) : (NoDot t ∧ Lib.indexByte t.data.toList 46 = -1) ∨ ∃ i, DotAt t i ∧ Lib.indexByte t.data.toList 46 = (i : Nat) := by
  have hg := Lib.indexByte_ge t.data.toList 46
  by_cases h : Lib.indexByte t.data.toList 46 = -1
  · refine .inl ⟨fun j hj e => ?_, h⟩
    have := Lib.indexByte_none h j
    rw [at_list t j hj, (dot_byte _).1 e] at this
    exact this rfl
  · obtain ⟨o, ho⟩ : ∃ o : Nat, Lib.indexByte t.data.toList 46 = o := ⟨(Lib.indexByte t.data.toList 46).toNat, by omega⟩
    have hs := Lib.indexByte_some ho
    have hlt : o < t.size := by
      rcases Nat.lt_or_ge o t.size with h' | h'
      · exact h'
      · rw [List.getElem?_eq_none (by simpa using h')] at hs; cases hs.1
    refine .inr ⟨o, ⟨hlt, ?_, fun j hj hjo e => ?_⟩, ho⟩
    · have := hs.1
      rw [at_list t o hlt] at this
      exact (dot_byte _).2 (Option.some.inj this)
    · have := hs.2 j hjo
      rw [at_list t j hj, (dot_byte _).1 e] at this
      exact this rfl

set_option maxHeartbeats 1000000 in
theorem l1Cut_hit (t : ByteArray) (i : Nat) (w : World) (hs : t.size ≤ 1048576) (hd : DotAt t i) :
    Calls Tryz.prog 9 #[.string t, .int .u8 46] w fun e w' => e = .returned (.tuple #[.string (t.extract 0 i), .string (t.extract (i + 1) t.size), .bool true]) ∧ ∃ n, w' = w.drewN n := by
  obtain ⟨hi, h1, h2⟩ := hd
  go_enter Tryz.func9, Tryz.ntmps9
  go_wp2
  go_loop [7] (fun v => ∃ k : Nat, k ≤ i ∧ v = .int .i64 k) (fun v => t.size - (intOf v).toNat)
  case atStart => exact ⟨0, Nat.zero_le _, rfl⟩
  case round =>
    obtain ⟨k, hk, rfl⟩ := hrel
    have hlt : k < t.size := by omega
    by_cases he : k = i
    · subst he
      have hb : (((t[k].toNat : Nat) : Int) == 46) = true := by simp [h1]
      have c1 : (0 : Int) ≤ (k : Int) := by omega
      have c2 : (k : Int) ≤ (t.size : Int) := by omega
      have c3 : (0 : Int) ≤ (k : Int) + 1 := by omega
      have c4 : (k : Int) + 1 ≤ (t.size : Int) := by omega
      clear h1 h2
      go_wp2
      go_quiet (fail)
      go_wp2
      go_ret3
      exact ⟨rfl, _, rfl⟩
    · have hb : (((t[k].toNat : Nat) : Int) == 46) = false := by have := h2 k hlt (by omega); simp; omega
      clear h1 h2
      go_wp2
      go_round
      case rel => exact ⟨k + 1, by omega, by go_num⟩
      case measure => simp [intOf]; omega

set_option maxHeartbeats 1000000 in
theorem l1Cut_miss (t : ByteArray) (w : World) (hs : t.size ≤ 1048576) (hd : NoDot t) :
    Calls Tryz.prog 9 #[.string t, .int .u8 46] w fun e w' => e = .returned (.tuple #[.string t, .string ⟨#[]⟩, .bool false]) ∧ w' = w := by
  go_enter Tryz.func9, Tryz.ntmps9
  go_wp2
  go_loop [7] (fun v => ∃ k : Nat, k ≤ t.size ∧ v = .int .i64 k) (fun v => t.size - (intOf v).toNat)
  case atStart => exact ⟨0, Nat.zero_le _, rfl⟩
  case round =>
    obtain ⟨k, hk, rfl⟩ := hrel
    by_cases hlt : k < t.size
    · have hb : (((t[k].toNat : Nat) : Int) == 46) = false := by have := hd k hlt; simp; omega
      clear hd
      go_wp2
      go_round
      case rel => exact ⟨k + 1, by omega, by go_num⟩
      case measure => simp [intOf]; omega
    · clear hd
      go_wp2
      go_ret3
      exact ⟨rfl, rfl⟩

set_option maxRecDepth 100000 in
set_option maxHeartbeats 1000000 in
theorem indexByte_any (t : ByteArray) (c : Int) (w : World) :
    Calls Tryz.prog 71 #[.string t, .int .u8 c] w fun e w' => e = .returned (.int .i64 (Lib.indexByte t.data.toList c.toNat.toUInt8)) ∧ w' = w := by
  go_enter Tryz.func71, Tryz.ntmps71
  go_wp2
  rw [run_callFunc_extern Tryz.func89 (by kernel_rfl) (by kernel_rfl) (by kernel_rfl) (e := Extern.BytealgIndexByte.indexByte) (by kernel_rfl), Lib.run_indexByteString]
  simp only [Result.andThen]
  rw [Oper.upon_value]
  go_wp2
  go_ret
  exact ⟨rfl, rfl⟩

set_option maxHeartbeats 1000000 in
theorem index_dot (t : ByteArray) (w : World) :
    Calls Tryz.prog 98 #[.string t, .string ⟨#[46]⟩] w fun e w' => e = .returned (.int .i64 (Lib.indexByte t.data.toList 46)) ∧ w' = w := by
  go_enter Tryz.func98, Tryz.ntmps98
  go_wp2_with (go_at_call 71; refine (indexByte_any _ _ _).mono ?_; rintro e w' ⟨rfl, rfl⟩)
  · have h : ([46] == t.toList) = true := by assumption
    go_ret
    refine ⟨?_, rfl⟩
    have e : t.data.toList = [46] := by rw [← Lib.toList_data]; exact (beq_iff_eq.1 h).symm
    rw [e]
    simp [Lib.indexByte]
  · go_ret
    exact ⟨rfl, rfl⟩

set_option maxHeartbeats 1000000 in
theorem cut_hit (t : ByteArray) (i : Nat) (w : World) (hs : t.size ≤ 1048576) (hd : DotAt t i) (hx : Lib.indexByte t.data.toList 46 = (i : Nat)) :
    Calls Tryz.prog 105 #[.string t, .string ⟨#[46]⟩] w fun e w' => e = .returned (.tuple #[.string (t.extract 0 i), .string (t.extract (i + 1) t.size), .bool true]) ∧ ∃ n, w' = w.drewN n := by
  obtain ⟨hi, _, _⟩ := hd
  have X := fun w' => index_dot t w'
  rw [hx] at X
  clear hx
  have c1 : (0 : Int) ≤ (i : Int) := by omega
  have c2 : (i : Int) ≤ (t.size : Int) := by omega
  have c3 : (0 : Int) ≤ (i : Int) + 1 := by omega
  have c4 : (i : Int) + 1 ≤ (t.size : Int) := by omega
  have K : ∀ w : World, Calls Tryz.prog 115 #[.string t, .string ⟨#[46]⟩] w fun e w' => e = .returned (.tuple #[.string (t.extract 0 i), .string (t.extract (i + 1) t.size), .bool true]) ∧ ∃ n, w' = w.drewN n := by
    intro w
    go_enter Tryz.func115, Tryz.ntmps115
    go_wp2_with (go_at_call 98; refine (X _).mono ?_; rintro e w' ⟨rfl, rfl⟩)
    go_quiet (fail)
    go_wp2
    go_ret3
    exact ⟨rfl, _, rfl⟩
  go_enter Tryz.func105, Tryz.ntmps105
  go_wp2_with (go_at_call 115; refine (K _).mono ?_; rintro e w' ⟨rfl, n, rfl⟩)
  go_ret3
  exact ⟨rfl, _, rfl⟩

set_option maxHeartbeats 1000000 in
theorem cut_miss (t : ByteArray) (w : World) (hx : Lib.indexByte t.data.toList 46 = -1) :
    Calls Tryz.prog 105 #[.string t, .string ⟨#[46]⟩] w fun e w' => e = .returned (.tuple #[.string t, .string ⟨#[]⟩, .bool false]) ∧ w' = w := by
  have X := fun w' => index_dot t w'
  rw [hx] at X
  clear hx
  have K : ∀ w : World, Calls Tryz.prog 115 #[.string t, .string ⟨#[46]⟩] w fun e w' => e = .returned (.tuple #[.string t, .string ⟨#[]⟩, .bool false]) ∧ w' = w := by
    intro w
    go_enter Tryz.func115, Tryz.ntmps115
    go_wp2_with (go_at_call 98; refine (X _).mono ?_; rintro e w' ⟨rfl, rfl⟩)
    go_ret3
    exact ⟨rfl, rfl⟩
  go_enter Tryz.func105, Tryz.ntmps105
  go_wp2_with (go_at_call 115; refine (K _).mono ?_; rintro e w' ⟨rfl, rfl⟩)
  go_ret3
  exact ⟨rfl, rfl⟩


/-- A text ends with px. -/
def pxB (s : ByteArray) : Bool := decide (2 ≤ s.size) && ((s.extract (s.size - 2) s.size).toList == [112, 120])
/-- A text begins with a minus sign. -/
def negB (t : ByteArray) : Bool := decide (1 ≤ t.size) && ((t.extract 0 1).toList == [45])
def bodyOf (t : ByteArray) : ByteArray := if negB t then t.extract 1 t.size else t
def numOf (s : ByteArray) : ByteArray := if pxB s then s.extract 0 (s.size - 2) else s
def dotB (t : ByteArray) : Bool := decide (0 ≤ Lib.indexByte t.data.toList 46)
def wholeOf (t : ByteArray) : ByteArray := if dotB t then t.extract 0 (Lib.indexByte t.data.toList 46).toNat else t
def partOf (t : ByteArray) : ByteArray := if dotB t then t.extract ((Lib.indexByte t.data.toList 46).toNat + 1) t.size else ⟨#[]⟩
theorem ret2S {a b : ByteArray} {x y : Bool} (h : a = b) (k : x = y) : Ending.returned (.tuple #[.string a, .bool x]) = .returned (.tuple #[.string b, .bool y]) := by rw [h, k]

theorem cutSuffix_any (s : ByteArray) (w : World) (hs : s.size ≤ 1048576) :
    Calls Tryz.prog 129 #[.string s, .string ⟨#[112, 120]⟩] w fun e w' => e = .returned (.tuple #[.string (numOf s), .bool (pxB s)]) ∧ w' = w := by
  by_cases h2 : 2 ≤ s.size
  · cases h : ((s.extract (s.size - 2) s.size).toList == [112, 120]) with
    | true =>
      have e : pxB s = true := by simp only [pxB, h, h2, decide_true, Bool.and_self]
      have HE : Hid (pxB s = true) := e
      have HN : Hid (numOf s = s.extract 0 (s.size - 2)) := by show numOf s = _; simp [numOf, e]
      clear e
      go_enter Tryz.func129, Tryz.ntmps129
      go_wp2
      go_ret2
      exact ⟨ret2S HN.out.symm HE.out.symm, rfl⟩
    | false =>
      have e : pxB s = false := by simp only [pxB, h, Bool.and_false]
      have HE : Hid (pxB s = false) := e
      have HN : Hid (numOf s = s) := by show numOf s = _; simp [numOf, e]
      clear e
      go_enter Tryz.func129, Tryz.ntmps129
      go_wp2
      go_ret2
      exact ⟨ret2S HN.out.symm HE.out.symm, rfl⟩
  · have e : pxB s = false := by simp [pxB, h2]
    have HE : Hid (pxB s = false) := e
    have HN : Hid (numOf s = s) := by show numOf s = _; simp [numOf, e]
    clear e
    go_enter Tryz.func129, Tryz.ntmps129
    go_wp2
    go_ret2
    exact ⟨ret2S HN.out.symm HE.out.symm, rfl⟩

theorem cutPrefix_any (s : ByteArray) (w : World) (hs : s.size ≤ 1048576) :
    Calls Tryz.prog 53 #[.string s, .string ⟨#[45]⟩] w fun e w' => e = .returned (.tuple #[.string (bodyOf s), .bool (negB s)]) ∧ w' = w := by
  by_cases h2 : 1 ≤ s.size
  · cases h : ((s.extract 0 1).toList == [45]) with
    | true =>
      have e : negB s = true := by simp only [negB, h, h2, decide_true, Bool.and_self]
      have HE : Hid (negB s = true) := e
      have HN : Hid (bodyOf s = s.extract 1 s.size) := by show bodyOf s = _; simp [bodyOf, e]
      clear e
      go_enter Tryz.func53, Tryz.ntmps53
      go_wp2
      go_ret2
      exact ⟨ret2S HN.out.symm HE.out.symm, rfl⟩
    | false =>
      have e : negB s = false := by simp only [negB, h, Bool.and_false]
      have HE : Hid (negB s = false) := e
      have HN : Hid (bodyOf s = s) := by show bodyOf s = _; simp [bodyOf, e]
      clear e
      go_enter Tryz.func53, Tryz.ntmps53
      go_wp2
      go_ret2
      exact ⟨ret2S HN.out.symm HE.out.symm, rfl⟩
  · have e : negB s = false := by simp [negB, h2]
    have HE : Hid (negB s = false) := e
    have HN : Hid (bodyOf s = s) := by show bodyOf s = _; simp [bodyOf, e]
    clear e
    go_enter Tryz.func53, Tryz.ntmps53
    go_wp2
    go_ret2
    exact ⟨ret2S HN.out.symm HE.out.symm, rfl⟩

theorem cutOf_hit {t : ByteArray} {i : Nat} (h : Lib.indexByte t.data.toList 46 = (i : Nat)) : dotB t = true ∧ wholeOf t = t.extract 0 i ∧ partOf t = t.extract (i + 1) t.size := by
  have e : dotB t = true := decide_eq_true (by omega)
  refine ⟨e, ?_, ?_⟩
  · simp [wholeOf, e, h]
  · simp [partOf, e, h]
theorem cutOf_miss {t : ByteArray} (h : Lib.indexByte t.data.toList 46 = -1) : dotB t = false ∧ wholeOf t = t ∧ partOf t = ⟨#[]⟩ := by
  have e : dotB t = false := decide_eq_false (by omega)
  refine ⟨e, ?_, ?_⟩
  · simp [wholeOf, e]
  · simp [partOf, e]

/-- strings.Cut at a point. -/
theorem cut_any (t : ByteArray) (w : World) (hs : t.size ≤ 1048576) :
    Calls Tryz.prog 105 #[.string t, .string ⟨#[46]⟩] w fun e w' => e = .returned (.tuple #[.string (wholeOf t), .string (partOf t), .bool (dotB t)]) ∧ ∃ n, w' = w.drewN n := by
  rcases dot_index t with ⟨_, h⟩ | ⟨i, hd, h⟩
  · obtain ⟨e1, e2, e3⟩ := cutOf_miss h
    rw [e1, e2, e3]
    exact (cut_miss t w h).mono fun e w' k => ⟨k.1, 0, k.2⟩
  · obtain ⟨e1, e2, e3⟩ := cutOf_hit h
    rw [e1, e2, e3]
    exact cut_hit t i w hs hd h
/-- The model's cut at a point. -/
theorem l1Cut_any (t : ByteArray) (w : World) (hs : t.size ≤ 1048576) :
    Calls Tryz.prog 9 #[.string t, .int .u8 46] w fun e w' => e = .returned (.tuple #[.string (wholeOf t), .string (partOf t), .bool (dotB t)]) ∧ ∃ n, w' = w.drewN n := by
  rcases dot_index t with ⟨hn, h⟩ | ⟨i, hd, h⟩
  · obtain ⟨e1, e2, e3⟩ := cutOf_miss h
    rw [e1, e2, e3]
    exact (l1Cut_miss t w hs hn).mono fun e w' k => ⟨k.1, 0, k.2⟩
  · obtain ⟨e1, e2, e3⟩ := cutOf_hit h
    rw [e1, e2, e3]
    exact l1Cut_hit t i w hs hd
theorem part_size (t : ByteArray) : (partOf t).size ≤ t.size := by
  unfold partOf
  split
  · simp
  · exact Nat.zero_le _
theorem whole_size (t : ByteArray) : (wholeOf t).size ≤ t.size := by
  unfold wholeOf
  split
  · simp; omega
  · exact Nat.le_refl _
theorem body_size (t : ByteArray) : (bodyOf t).size ≤ t.size := by
  unfold bodyOf
  split
  · simp
  · exact Nat.le_refl _
theorem numOf_size (t : ByteArray) : (numOf t).size ≤ t.size := by
  unfold numOf
  split
  · simp
  · exact Nat.le_refl _
end Go.Proofs.YtddnphgpdnedbaaGreatDoor

namespace Go.Proofs.YtddnphgpdnedbaaGreatDoor
open Go.ChangeShapes Go.WideShapes Go.ChangeAt Go.RowKit
set_option linter.unusedVariables false

/-- The first point of a text stands at i. -/
def s_DotAt (t : ByteArray) (i : Nat) : Prop := ∃ h : i < t.size, t[i].toNat = 59 ∧ ∀ j (hj : j < t.size), j < i → t[j].toNat ≠ 59

def s_NoDot (t : ByteArray) : Prop := ∀ j (hj : j < t.size), t[j].toNat ≠ 59

theorem s_dot_byte (c : UInt8) : c.toNat = 59 ↔ c = 59 := ⟨fun h => UInt8.toNat_inj.1 (by rw [h]; rfl), fun h => by rw [h]; rfl⟩

theorem s_dot_index (t : ByteArray) : (s_NoDot t ∧ Lib.indexByte t.data.toList 59 = -1) ∨ ∃ i, s_DotAt t i ∧ Lib.indexByte t.data.toList 59 = (i : Nat) := by
  have hg := Lib.indexByte_ge t.data.toList 59
  by_cases h : Lib.indexByte t.data.toList 59 = -1
  · refine .inl ⟨fun j hj e => ?_, h⟩
    have := Lib.indexByte_none h j
    rw [at_list t j hj, (s_dot_byte _).1 e] at this
    exact this rfl
  · obtain ⟨o, ho⟩ : ∃ o : Nat, Lib.indexByte t.data.toList 59 = o := ⟨(Lib.indexByte t.data.toList 59).toNat, by omega⟩
    have hs := Lib.indexByte_some ho
    have hlt : o < t.size := by
      rcases Nat.lt_or_ge o t.size with h' | h'
      · exact h'
      · rw [List.getElem?_eq_none (by simpa using h')] at hs; cases hs.1
    refine .inr ⟨o, ⟨hlt, ?_, fun j hj hjo e => ?_⟩, ho⟩
    · have := hs.1
      rw [at_list t o hlt] at this
      exact (s_dot_byte _).2 (Option.some.inj this)
    · have := hs.2 j hjo
      rw [at_list t j hj, (s_dot_byte _).1 e] at this
      exact this rfl

set_option maxHeartbeats 1000000 in
theorem s_l1Cut_hit (t : ByteArray) (i : Nat) (w : World) (hs : t.size ≤ 1048576) (hd : s_DotAt t i) :
    Calls Tryz.prog 9 #[.string t, .int .u8 59] w fun e w' => e = .returned (.tuple #[.string (t.extract 0 i), .string (t.extract (i + 1) t.size), .bool true]) ∧ ∃ n, w' = w.drewN n := by
  obtain ⟨hi, h1, h2⟩ := hd
  go_enter Tryz.func9, Tryz.ntmps9
  go_wp2
  go_loop [7] (fun v => ∃ k : Nat, k ≤ i ∧ v = .int .i64 k) (fun v => t.size - (intOf v).toNat)
  case atStart => exact ⟨0, Nat.zero_le _, rfl⟩
  case round =>
    obtain ⟨k, hk, rfl⟩ := hrel
    have hlt : k < t.size := by omega
    by_cases he : k = i
    · subst he
      have hb : (((t[k].toNat : Nat) : Int) == 59) = true := by simp [h1]
      have c1 : (0 : Int) ≤ (k : Int) := by omega
      have c2 : (k : Int) ≤ (t.size : Int) := by omega
      have c3 : (0 : Int) ≤ (k : Int) + 1 := by omega
      have c4 : (k : Int) + 1 ≤ (t.size : Int) := by omega
      clear h1 h2
      go_wp2
      go_quiet (fail)
      go_wp2
      go_ret3
      exact ⟨rfl, _, rfl⟩
    · have hb : (((t[k].toNat : Nat) : Int) == 59) = false := by have := h2 k hlt (by omega); simp; omega
      clear h1 h2
      go_wp2
      go_round
      case rel => exact ⟨k + 1, by omega, by go_num⟩
      case measure => simp [intOf]; omega

set_option maxHeartbeats 1000000 in
theorem s_l1Cut_miss (t : ByteArray) (w : World) (hs : t.size ≤ 1048576) (hd : s_NoDot t) :
    Calls Tryz.prog 9 #[.string t, .int .u8 59] w fun e w' => e = .returned (.tuple #[.string t, .string ⟨#[]⟩, .bool false]) ∧ w' = w := by
  go_enter Tryz.func9, Tryz.ntmps9
  go_wp2
  go_loop [7] (fun v => ∃ k : Nat, k ≤ t.size ∧ v = .int .i64 k) (fun v => t.size - (intOf v).toNat)
  case atStart => exact ⟨0, Nat.zero_le _, rfl⟩
  case round =>
    obtain ⟨k, hk, rfl⟩ := hrel
    by_cases hlt : k < t.size
    · have hb : (((t[k].toNat : Nat) : Int) == 59) = false := by have := hd k hlt; simp; omega
      clear hd
      go_wp2
      go_round
      case rel => exact ⟨k + 1, by omega, by go_num⟩
      case measure => simp [intOf]; omega
    · clear hd
      go_wp2
      go_ret3
      exact ⟨rfl, rfl⟩

set_option maxHeartbeats 1000000 in
theorem s_index_dot (t : ByteArray) (w : World) :
    Calls Tryz.prog 98 #[.string t, .string ⟨#[59]⟩] w fun e w' => e = .returned (.int .i64 (Lib.indexByte t.data.toList 59)) ∧ w' = w := by
  go_enter Tryz.func98, Tryz.ntmps98
  go_wp2_with (go_at_call 71; refine (indexByte_any _ _ _).mono ?_; rintro e w' ⟨rfl, rfl⟩)
  · have h : ([59] == t.toList) = true := by assumption
    go_ret
    refine ⟨?_, rfl⟩
    have e : t.data.toList = [59] := by rw [← Lib.toList_data]; exact (beq_iff_eq.1 h).symm
    rw [e]
    simp [Lib.indexByte]
  · go_ret
    exact ⟨rfl, rfl⟩

set_option maxHeartbeats 1000000 in
theorem s_cut_hit (t : ByteArray) (i : Nat) (w : World) (hs : t.size ≤ 1048576) (hd : s_DotAt t i) (hx : Lib.indexByte t.data.toList 59 = (i : Nat)) :
    Calls Tryz.prog 105 #[.string t, .string ⟨#[59]⟩] w fun e w' => e = .returned (.tuple #[.string (t.extract 0 i), .string (t.extract (i + 1) t.size), .bool true]) ∧ ∃ n, w' = w.drewN n := by
  obtain ⟨hi, _, _⟩ := hd
  have X := fun w' => s_index_dot t w'
  rw [hx] at X
  clear hx
  have c1 : (0 : Int) ≤ (i : Int) := by omega
  have c2 : (i : Int) ≤ (t.size : Int) := by omega
  have c3 : (0 : Int) ≤ (i : Int) + 1 := by omega
  have c4 : (i : Int) + 1 ≤ (t.size : Int) := by omega
  have K : ∀ w : World, Calls Tryz.prog 115 #[.string t, .string ⟨#[59]⟩] w fun e w' => e = .returned (.tuple #[.string (t.extract 0 i), .string (t.extract (i + 1) t.size), .bool true]) ∧ ∃ n, w' = w.drewN n := by
    intro w
    go_enter Tryz.func115, Tryz.ntmps115
    go_wp2_with (go_at_call 98; refine (X _).mono ?_; rintro e w' ⟨rfl, rfl⟩)
    go_quiet (fail)
    go_wp2
    go_ret3
    exact ⟨rfl, _, rfl⟩
  go_enter Tryz.func105, Tryz.ntmps105
  go_wp2_with (go_at_call 115; refine (K _).mono ?_; rintro e w' ⟨rfl, n, rfl⟩)
  go_ret3
  exact ⟨rfl, _, rfl⟩

set_option maxHeartbeats 1000000 in
theorem s_cut_miss (t : ByteArray) (w : World) (hx : Lib.indexByte t.data.toList 59 = -1) :
    Calls Tryz.prog 105 #[.string t, .string ⟨#[59]⟩] w fun e w' => e = .returned (.tuple #[.string t, .string ⟨#[]⟩, .bool false]) ∧ w' = w := by
  have X := fun w' => s_index_dot t w'
  rw [hx] at X
  clear hx
  have K : ∀ w : World, Calls Tryz.prog 115 #[.string t, .string ⟨#[59]⟩] w fun e w' => e = .returned (.tuple #[.string t, .string ⟨#[]⟩, .bool false]) ∧ w' = w := by
    intro w
    go_enter Tryz.func115, Tryz.ntmps115
    go_wp2_with (go_at_call 98; refine (X _).mono ?_; rintro e w' ⟨rfl, rfl⟩)
    go_ret3
    exact ⟨rfl, rfl⟩
  go_enter Tryz.func105, Tryz.ntmps105
  go_wp2_with (go_at_call 115; refine (K _).mono ?_; rintro e w' ⟨rfl, rfl⟩)
  go_ret3
  exact ⟨rfl, rfl⟩

def s_dotB (t : ByteArray) : Bool := decide (0 ≤ Lib.indexByte t.data.toList 59)

def s_wholeOf (t : ByteArray) : ByteArray := if s_dotB t then t.extract 0 (Lib.indexByte t.data.toList 59).toNat else t

def s_partOf (t : ByteArray) : ByteArray := if s_dotB t then t.extract ((Lib.indexByte t.data.toList 59).toNat + 1) t.size else ⟨#[]⟩

theorem s_cutOf_hit {t : ByteArray} {i : Nat} (h : Lib.indexByte t.data.toList 59 = (i : Nat)) : s_dotB t = true ∧ s_wholeOf t = t.extract 0 i ∧ s_partOf t = t.extract (i + 1) t.size := by
  have e : s_dotB t = true := decide_eq_true (by omega)
  refine ⟨e, ?_, ?_⟩
  · simp [s_wholeOf, e, h]
  · simp [s_partOf, e, h]

theorem s_cutOf_miss {t : ByteArray} (h : Lib.indexByte t.data.toList 59 = -1) : s_dotB t = false ∧ s_wholeOf t = t ∧ s_partOf t = ⟨#[]⟩ := by
  have e : s_dotB t = false := decide_eq_false (by omega)
  refine ⟨e, ?_, ?_⟩
  · simp [s_wholeOf, e]
  · simp [s_partOf, e]

/-- strings.Cut at a point. -/
theorem s_cut_any (t : ByteArray) (w : World) (hs : t.size ≤ 1048576) :
    Calls Tryz.prog 105 #[.string t, .string ⟨#[59]⟩] w fun e w' => e = .returned (.tuple #[.string (s_wholeOf t), .string (s_partOf t), .bool (s_dotB t)]) ∧ ∃ n, w' = w.drewN n := by
  rcases s_dot_index t with ⟨_, h⟩ | ⟨i, hd, h⟩
  · obtain ⟨e1, e2, e3⟩ := s_cutOf_miss h
    rw [e1, e2, e3]
    exact (s_cut_miss t w h).mono fun e w' k => ⟨k.1, 0, k.2⟩
  · obtain ⟨e1, e2, e3⟩ := s_cutOf_hit h
    rw [e1, e2, e3]
    exact s_cut_hit t i w hs hd h

/-- The model's cut at a point. -/
theorem s_l1Cut_any (t : ByteArray) (w : World) (hs : t.size ≤ 1048576) :
    Calls Tryz.prog 9 #[.string t, .int .u8 59] w fun e w' => e = .returned (.tuple #[.string (s_wholeOf t), .string (s_partOf t), .bool (s_dotB t)]) ∧ ∃ n, w' = w.drewN n := by
  rcases s_dot_index t with ⟨hn, h⟩ | ⟨i, hd, h⟩
  · obtain ⟨e1, e2, e3⟩ := s_cutOf_miss h
    rw [e1, e2, e3]
    exact (s_l1Cut_miss t w hs hn).mono fun e w' k => ⟨k.1, 0, k.2⟩
  · obtain ⟨e1, e2, e3⟩ := s_cutOf_hit h
    rw [e1, e2, e3]
    exact s_l1Cut_hit t i w hs hd

theorem s_part_size (t : ByteArray) : (s_partOf t).size ≤ t.size := by
  unfold s_partOf
  split
  · simp
  · exact Nat.zero_le _

theorem s_whole_size (t : ByteArray) : (s_wholeOf t).size ≤ t.size := by
  unfold s_wholeOf
  split
  · simp; omega
  · exact Nat.le_refl _
end Go.Proofs.YtddnphgpdnedbaaGreatDoor

namespace Go.Proofs.YtddnphgpdnedbaaGreatDoor
open Go.ChangeShapes Go.WideShapes Go.ChangeAt Go.RowKit

theorem ret2I {a b : Int} {x y : Bool} (h : a = b) (k : x = y) : Ending.returned (.tuple #[.int .i64 a, .bool x]) = .returned (.tuple #[.int .i64 b, .bool y]) := by rw [h, k]
/-- The hundredths that the part behind a point tells. -/
def hund (p : ByteArray) : Int := if p.size = 1 then 10 * val p.data.toList else val p.data.toList
/-- A number as ReadPixels wants it. -/
def fitB (b : ByteArray) : Bool := digsB (wholeOf b) 5 && (!dotB b || digsB (partOf b) 2)
def lenGood (n : Int) : Bool := decide (-1000000 ≤ n ∧ n ≤ 1000000)
def amount (b : ByteArray) : Int := val (wholeOf b).data.toList * 64 + hund (partOf b) * 64 / 100
def signed (t : ByteArray) : Int := if negB t then -(amount (bodyOf t)) else amount (bodyOf t)
def readB (s : ByteArray) : Bool := pxB s && (fitB (bodyOf (numOf s)) && lenGood (signed (numOf s)))
def readN (s : ByteArray) : Int := if readB s then signed (numOf s) else 0

theorem digB_empty : digB ⟨#[]⟩ = true := rfl
theorem fit_parts {b : ByteArray} (h : fitB b = true) : (wholeOf b).size ≤ 5 ∧ digB (wholeOf b) = true ∧ (partOf b).size ≤ 2 ∧ digB (partOf b) = true := by
  unfold fitB at h
  rw [Bool.and_eq_true] at h
  obtain ⟨h1, h2⟩ := h
  unfold digsB at h1
  simp only [Bool.and_eq_true, decide_eq_true_eq] at h1
  refine ⟨by omega, h1.2, ?_⟩
  cases hd : dotB b with
  | false =>
    have e : partOf b = ⟨#[]⟩ := by simp [partOf, hd]
    rw [e]
    exact ⟨Nat.zero_le _, digB_empty⟩
  | true =>
    rw [hd] at h2
    simp only [Bool.not_true, Bool.false_or] at h2
    unfold digsB at h2
    simp only [Bool.and_eq_true, decide_eq_true_eq] at h2
    exact ⟨by omega, h2.2⟩
theorem hund_bd {p : ByteArray} (h : digB p = true) (h2 : p.size ≤ 2) : 0 ≤ hund p ∧ hund p ≤ 99 := by
  unfold hund
  have b2 := val_bd2 p h h2
  split
  · rename_i e
    have := val_bd1 p h e
    omega
  · exact b2

set_option maxHeartbeats 1000000 in
theorem hundredthsOf_any (p : ByteArray) (w : World) (h : digB p = true) (h2 : p.size ≤ 2) :
    Calls Tryz.prog 136 #[.string p] w fun e w' => e = .returned (.int .i64 (hund p)) ∧ w' = w := by
  have D := fun w' => digitsValue_any p w' (by omega) h
  have b2 := val_bd2 p h h2
  by_cases e : p.size = 1
  · have HH : Hid (hund p = 10 * val p.data.toList) := by show hund p = _; simp [hund, e]
    obtain ⟨v, hv⟩ : ∃ v, v = val p.data.toList := ⟨_, rfl⟩
    have HH' : Hid (hund p = 10 * v) := by rw [hv]; exact HH
    rw [← hv] at D b2
    clear hv HH h
    have e' : ((p.size : Int) == 1) = true := by simp [e]
    clear e
    go_enter Tryz.func136, Tryz.ntmps136
    go_wp2_with (go_at_call 131; refine (D _).mono ?_; rintro e w' ⟨rfl, rfl⟩)
    go_ret
    exact ⟨retI (by rw [HH'.out]; omega), rfl⟩
  · have HH : Hid (hund p = val p.data.toList) := by show hund p = _; simp [hund, e]
    obtain ⟨v, hv⟩ : ∃ v, v = val p.data.toList := ⟨_, rfl⟩
    have HH' : Hid (hund p = v) := by rw [hv]; exact HH
    rw [← hv] at D b2
    clear hv HH h
    have e' : ((p.size : Int) == 1) = false := by simp; omega
    clear e
    go_enter Tryz.func136, Tryz.ntmps136
    go_wp2_with (go_at_call 131; refine (D _).mono ?_; rintro e w' ⟨rfl, rfl⟩)
    go_ret
    exact ⟨retI (by rw [HH'.out]), rfl⟩

theorem told_yes (n : Int) (w : World) (h1 : -1000000 ≤ n) (h2 : n ≤ 1000000) :
    Calls Tryz.prog 137 #[.int .i64 n] w fun e w' => e = .returned (.tuple #[.int .i64 n, .bool true]) ∧ w' = w := by
  go_enter Tryz.func137, Tryz.ntmps137
  go_wp2
  go_ret2
  exact ⟨rfl, rfl⟩
theorem told_no (n : Int) (w : World) (h : ¬ (-1000000 ≤ n ∧ n ≤ 1000000)) :
    Calls Tryz.prog 137 #[.int .i64 n] w fun e w' => e = .returned (.tuple #[.int .i64 0, .bool false]) ∧ w' = w := by
  by_cases h1 : -1000000 ≤ n
  · have h2 : ¬ n ≤ 1000000 := by omega
    clear h
    go_enter Tryz.func137, Tryz.ntmps137
    go_wp2
    go_ret2
    exact ⟨rfl, rfl⟩
  · clear h
    go_enter Tryz.func137, Tryz.ntmps137
    go_wp2
    go_ret2
    exact ⟨rfl, rfl⟩
theorem told_any (n : Int) (w : World) :
    Calls Tryz.prog 137 #[.int .i64 n] w fun e w' => e = .returned (.tuple #[.int .i64 (if lenGood n then n else 0), .bool (lenGood n)]) ∧ w' = w := by
  by_cases h : -1000000 ≤ n ∧ n ≤ 1000000
  · have e : lenGood n = true := decide_eq_true h
    simp only [e, if_true]
    exact told_yes n w h.1 h.2
  · have e : lenGood n = false := decide_eq_false h
    simp only [e, Bool.false_eq_true, if_false]
    exact told_no n w h
end Go.Proofs.YtddnphgpdnedbaaGreatDoor

namespace Go.Proofs.YtddnphgpdnedbaaGreatDoor
open Go.ChangeShapes Go.WideShapes Go.ChangeAt Go.RowKit
set_option linter.unusedVariables false

/-- The first point of a text stands at i. -/
def n_DotAt (t : ByteArray) (i : Nat) : Prop := ∃ h : i < t.size, t[i].toNat = 10 ∧ ∀ j (hj : j < t.size), j < i → t[j].toNat ≠ 10

def n_NoDot (t : ByteArray) : Prop := ∀ j (hj : j < t.size), t[j].toNat ≠ 10

theorem n_dot_byte (c : UInt8) : c.toNat = 10 ↔ c = 10 := ⟨fun h => UInt8.toNat_inj.1 (by rw [h]; rfl), fun h => by rw [h]; rfl⟩

theorem n_dot_index (t : ByteArray) : (n_NoDot t ∧ Lib.indexByte t.data.toList 10 = -1) ∨ ∃ i, n_DotAt t i ∧ Lib.indexByte t.data.toList 10 = (i : Nat) := by
  have hg := Lib.indexByte_ge t.data.toList 10
  by_cases h : Lib.indexByte t.data.toList 10 = -1
  · refine .inl ⟨fun j hj e => ?_, h⟩
    have := Lib.indexByte_none h j
    rw [at_list t j hj, (n_dot_byte _).1 e] at this
    exact this rfl
  · obtain ⟨o, ho⟩ : ∃ o : Nat, Lib.indexByte t.data.toList 10 = o := ⟨(Lib.indexByte t.data.toList 10).toNat, by omega⟩
    have hs := Lib.indexByte_some ho
    have hlt : o < t.size := by
      rcases Nat.lt_or_ge o t.size with h' | h'
      · exact h'
      · rw [List.getElem?_eq_none (by simpa using h')] at hs; cases hs.1
    refine .inr ⟨o, ⟨hlt, ?_, fun j hj hjo e => ?_⟩, ho⟩
    · have := hs.1
      rw [at_list t o hlt] at this
      exact (n_dot_byte _).2 (Option.some.inj this)
    · have := hs.2 j hjo
      rw [at_list t j hj, (n_dot_byte _).1 e] at this
      exact this rfl

set_option maxHeartbeats 1000000 in
theorem n_l1Cut_hit (t : ByteArray) (i : Nat) (w : World) (hs : t.size ≤ 1048576) (hd : n_DotAt t i) :
    Calls Tryz.prog 9 #[.string t, .int .u8 10] w fun e w' => e = .returned (.tuple #[.string (t.extract 0 i), .string (t.extract (i + 1) t.size), .bool true]) ∧ ∃ n, w' = w.drewN n := by
  obtain ⟨hi, h1, h2⟩ := hd
  go_enter Tryz.func9, Tryz.ntmps9
  go_wp2
  go_loop [7] (fun v => ∃ k : Nat, k ≤ i ∧ v = .int .i64 k) (fun v => t.size - (intOf v).toNat)
  case atStart => exact ⟨0, Nat.zero_le _, rfl⟩
  case round =>
    obtain ⟨k, hk, rfl⟩ := hrel
    have hlt : k < t.size := by omega
    by_cases he : k = i
    · subst he
      have hb : (((t[k].toNat : Nat) : Int) == 10) = true := by simp [h1]
      have c1 : (0 : Int) ≤ (k : Int) := by omega
      have c2 : (k : Int) ≤ (t.size : Int) := by omega
      have c3 : (0 : Int) ≤ (k : Int) + 1 := by omega
      have c4 : (k : Int) + 1 ≤ (t.size : Int) := by omega
      clear h1 h2
      go_wp2
      go_quiet (fail)
      go_wp2
      go_ret3
      exact ⟨rfl, _, rfl⟩
    · have hb : (((t[k].toNat : Nat) : Int) == 10) = false := by have := h2 k hlt (by omega); simp; omega
      clear h1 h2
      go_wp2
      go_round
      case rel => exact ⟨k + 1, by omega, by go_num⟩
      case measure => simp [intOf]; omega

set_option maxHeartbeats 1000000 in
theorem n_l1Cut_miss (t : ByteArray) (w : World) (hs : t.size ≤ 1048576) (hd : n_NoDot t) :
    Calls Tryz.prog 9 #[.string t, .int .u8 10] w fun e w' => e = .returned (.tuple #[.string t, .string ⟨#[]⟩, .bool false]) ∧ w' = w := by
  go_enter Tryz.func9, Tryz.ntmps9
  go_wp2
  go_loop [7] (fun v => ∃ k : Nat, k ≤ t.size ∧ v = .int .i64 k) (fun v => t.size - (intOf v).toNat)
  case atStart => exact ⟨0, Nat.zero_le _, rfl⟩
  case round =>
    obtain ⟨k, hk, rfl⟩ := hrel
    by_cases hlt : k < t.size
    · have hb : (((t[k].toNat : Nat) : Int) == 10) = false := by have := hd k hlt; simp; omega
      clear hd
      go_wp2
      go_round
      case rel => exact ⟨k + 1, by omega, by go_num⟩
      case measure => simp [intOf]; omega
    · clear hd
      go_wp2
      go_ret3
      exact ⟨rfl, rfl⟩

set_option maxHeartbeats 1000000 in
theorem n_index_dot (t : ByteArray) (w : World) :
    Calls Tryz.prog 98 #[.string t, .string ⟨#[10]⟩] w fun e w' => e = .returned (.int .i64 (Lib.indexByte t.data.toList 10)) ∧ w' = w := by
  go_enter Tryz.func98, Tryz.ntmps98
  go_wp2_with (go_at_call 71; refine (indexByte_any _ _ _).mono ?_; rintro e w' ⟨rfl, rfl⟩)
  · have h : ([10] == t.toList) = true := by assumption
    go_ret
    refine ⟨?_, rfl⟩
    have e : t.data.toList = [10] := by rw [← Lib.toList_data]; exact (beq_iff_eq.1 h).symm
    rw [e]
    simp [Lib.indexByte]
  · go_ret
    exact ⟨rfl, rfl⟩

set_option maxHeartbeats 1000000 in
theorem n_cut_hit (t : ByteArray) (i : Nat) (w : World) (hs : t.size ≤ 1048576) (hd : n_DotAt t i) (hx : Lib.indexByte t.data.toList 10 = (i : Nat)) :
    Calls Tryz.prog 105 #[.string t, .string ⟨#[10]⟩] w fun e w' => e = .returned (.tuple #[.string (t.extract 0 i), .string (t.extract (i + 1) t.size), .bool true]) ∧ ∃ n, w' = w.drewN n := by
  obtain ⟨hi, _, _⟩ := hd
  have X := fun w' => n_index_dot t w'
  rw [hx] at X
  clear hx
  have c1 : (0 : Int) ≤ (i : Int) := by omega
  have c2 : (i : Int) ≤ (t.size : Int) := by omega
  have c3 : (0 : Int) ≤ (i : Int) + 1 := by omega
  have c4 : (i : Int) + 1 ≤ (t.size : Int) := by omega
  have K : ∀ w : World, Calls Tryz.prog 115 #[.string t, .string ⟨#[10]⟩] w fun e w' => e = .returned (.tuple #[.string (t.extract 0 i), .string (t.extract (i + 1) t.size), .bool true]) ∧ ∃ n, w' = w.drewN n := by
    intro w
    go_enter Tryz.func115, Tryz.ntmps115
    go_wp2_with (go_at_call 98; refine (X _).mono ?_; rintro e w' ⟨rfl, rfl⟩)
    go_quiet (fail)
    go_wp2
    go_ret3
    exact ⟨rfl, _, rfl⟩
  go_enter Tryz.func105, Tryz.ntmps105
  go_wp2_with (go_at_call 115; refine (K _).mono ?_; rintro e w' ⟨rfl, n, rfl⟩)
  go_ret3
  exact ⟨rfl, _, rfl⟩

set_option maxHeartbeats 1000000 in
theorem n_cut_miss (t : ByteArray) (w : World) (hx : Lib.indexByte t.data.toList 10 = -1) :
    Calls Tryz.prog 105 #[.string t, .string ⟨#[10]⟩] w fun e w' => e = .returned (.tuple #[.string t, .string ⟨#[]⟩, .bool false]) ∧ w' = w := by
  have X := fun w' => n_index_dot t w'
  rw [hx] at X
  clear hx
  have K : ∀ w : World, Calls Tryz.prog 115 #[.string t, .string ⟨#[10]⟩] w fun e w' => e = .returned (.tuple #[.string t, .string ⟨#[]⟩, .bool false]) ∧ w' = w := by
    intro w
    go_enter Tryz.func115, Tryz.ntmps115
    go_wp2_with (go_at_call 98; refine (X _).mono ?_; rintro e w' ⟨rfl, rfl⟩)
    go_ret3
    exact ⟨rfl, rfl⟩
  go_enter Tryz.func105, Tryz.ntmps105
  go_wp2_with (go_at_call 115; refine (K _).mono ?_; rintro e w' ⟨rfl, rfl⟩)
  go_ret3
  exact ⟨rfl, rfl⟩

def n_dotB (t : ByteArray) : Bool := decide (0 ≤ Lib.indexByte t.data.toList 10)

def n_wholeOf (t : ByteArray) : ByteArray := if n_dotB t then t.extract 0 (Lib.indexByte t.data.toList 10).toNat else t

def n_partOf (t : ByteArray) : ByteArray := if n_dotB t then t.extract ((Lib.indexByte t.data.toList 10).toNat + 1) t.size else ⟨#[]⟩

theorem n_cutOf_hit {t : ByteArray} {i : Nat} (h : Lib.indexByte t.data.toList 10 = (i : Nat)) : n_dotB t = true ∧ n_wholeOf t = t.extract 0 i ∧ n_partOf t = t.extract (i + 1) t.size := by
  have e : n_dotB t = true := decide_eq_true (by omega)
  refine ⟨e, ?_, ?_⟩
  · simp [n_wholeOf, e, h]
  · simp [n_partOf, e, h]

theorem n_cutOf_miss {t : ByteArray} (h : Lib.indexByte t.data.toList 10 = -1) : n_dotB t = false ∧ n_wholeOf t = t ∧ n_partOf t = ⟨#[]⟩ := by
  have e : n_dotB t = false := decide_eq_false (by omega)
  refine ⟨e, ?_, ?_⟩
  · simp [n_wholeOf, e]
  · simp [n_partOf, e]

/-- strings.Cut at a point. -/
theorem n_cut_any (t : ByteArray) (w : World) (hs : t.size ≤ 1048576) :
    Calls Tryz.prog 105 #[.string t, .string ⟨#[10]⟩] w fun e w' => e = .returned (.tuple #[.string (n_wholeOf t), .string (n_partOf t), .bool (n_dotB t)]) ∧ ∃ n, w' = w.drewN n := by
  rcases n_dot_index t with ⟨_, h⟩ | ⟨i, hd, h⟩
  · obtain ⟨e1, e2, e3⟩ := n_cutOf_miss h
    rw [e1, e2, e3]
    exact (n_cut_miss t w h).mono fun e w' k => ⟨k.1, 0, k.2⟩
  · obtain ⟨e1, e2, e3⟩ := n_cutOf_hit h
    rw [e1, e2, e3]
    exact n_cut_hit t i w hs hd h

/-- The model's cut at a point. -/
theorem n_l1Cut_any (t : ByteArray) (w : World) (hs : t.size ≤ 1048576) :
    Calls Tryz.prog 9 #[.string t, .int .u8 10] w fun e w' => e = .returned (.tuple #[.string (n_wholeOf t), .string (n_partOf t), .bool (n_dotB t)]) ∧ ∃ n, w' = w.drewN n := by
  rcases n_dot_index t with ⟨hn, h⟩ | ⟨i, hd, h⟩
  · obtain ⟨e1, e2, e3⟩ := n_cutOf_miss h
    rw [e1, e2, e3]
    exact (n_l1Cut_miss t w hs hn).mono fun e w' k => ⟨k.1, 0, k.2⟩
  · obtain ⟨e1, e2, e3⟩ := n_cutOf_hit h
    rw [e1, e2, e3]
    exact n_l1Cut_hit t i w hs hd

theorem n_part_size (t : ByteArray) : (n_partOf t).size ≤ t.size := by
  unfold n_partOf
  split
  · simp
  · exact Nat.zero_le _

theorem n_whole_size (t : ByteArray) : (n_wholeOf t).size ≤ t.size := by
  unfold n_wholeOf
  split
  · simp; omega
  · exact Nat.le_refl _
end Go.Proofs.YtddnphgpdnedbaaGreatDoor

namespace Go.Proofs.YtddnphgpdnedbaaGreatDoor
open Go.ChangeShapes Go.WideShapes Go.ChangeAt Go.RowKit
set_option linter.unusedVariables false

/-- The first point of a text stands at i. -/
def c_DotAt (t : ByteArray) (i : Nat) : Prop := ∃ h : i < t.size, t[i].toNat = 58 ∧ ∀ j (hj : j < t.size), j < i → t[j].toNat ≠ 58

def c_NoDot (t : ByteArray) : Prop := ∀ j (hj : j < t.size), t[j].toNat ≠ 58

theorem c_dot_byte (c : UInt8) : c.toNat = 58 ↔ c = 58 := ⟨fun h => UInt8.toNat_inj.1 (by rw [h]; rfl), fun h => by rw [h]; rfl⟩

theorem c_dot_index (t : ByteArray) : (c_NoDot t ∧ Lib.indexByte t.data.toList 58 = -1) ∨ ∃ i, c_DotAt t i ∧ Lib.indexByte t.data.toList 58 = (i : Nat) := by
  have hg := Lib.indexByte_ge t.data.toList 58
  by_cases h : Lib.indexByte t.data.toList 58 = -1
  · refine .inl ⟨fun j hj e => ?_, h⟩
    have := Lib.indexByte_none h j
    rw [at_list t j hj, (c_dot_byte _).1 e] at this
    exact this rfl
  · obtain ⟨o, ho⟩ : ∃ o : Nat, Lib.indexByte t.data.toList 58 = o := ⟨(Lib.indexByte t.data.toList 58).toNat, by omega⟩
    have hs := Lib.indexByte_some ho
    have hlt : o < t.size := by
      rcases Nat.lt_or_ge o t.size with h' | h'
      · exact h'
      · rw [List.getElem?_eq_none (by simpa using h')] at hs; cases hs.1
    refine .inr ⟨o, ⟨hlt, ?_, fun j hj hjo e => ?_⟩, ho⟩
    · have := hs.1
      rw [at_list t o hlt] at this
      exact (c_dot_byte _).2 (Option.some.inj this)
    · have := hs.2 j hjo
      rw [at_list t j hj, (c_dot_byte _).1 e] at this
      exact this rfl

set_option maxHeartbeats 1000000 in
theorem c_l1Cut_hit (t : ByteArray) (i : Nat) (w : World) (hs : t.size ≤ 1048576) (hd : c_DotAt t i) :
    Calls Tryz.prog 9 #[.string t, .int .u8 58] w fun e w' => e = .returned (.tuple #[.string (t.extract 0 i), .string (t.extract (i + 1) t.size), .bool true]) ∧ ∃ n, w' = w.drewN n := by
  obtain ⟨hi, h1, h2⟩ := hd
  go_enter Tryz.func9, Tryz.ntmps9
  go_wp2
  go_loop [7] (fun v => ∃ k : Nat, k ≤ i ∧ v = .int .i64 k) (fun v => t.size - (intOf v).toNat)
  case atStart => exact ⟨0, Nat.zero_le _, rfl⟩
  case round =>
    obtain ⟨k, hk, rfl⟩ := hrel
    have hlt : k < t.size := by omega
    by_cases he : k = i
    · subst he
      have hb : (((t[k].toNat : Nat) : Int) == 58) = true := by simp [h1]
      have c1 : (0 : Int) ≤ (k : Int) := by omega
      have c2 : (k : Int) ≤ (t.size : Int) := by omega
      have c3 : (0 : Int) ≤ (k : Int) + 1 := by omega
      have c4 : (k : Int) + 1 ≤ (t.size : Int) := by omega
      clear h1 h2
      go_wp2
      go_quiet (fail)
      go_wp2
      go_ret3
      exact ⟨rfl, _, rfl⟩
    · have hb : (((t[k].toNat : Nat) : Int) == 58) = false := by have := h2 k hlt (by omega); simp; omega
      clear h1 h2
      go_wp2
      go_round
      case rel => exact ⟨k + 1, by omega, by go_num⟩
      case measure => simp [intOf]; omega

set_option maxHeartbeats 1000000 in
theorem c_l1Cut_miss (t : ByteArray) (w : World) (hs : t.size ≤ 1048576) (hd : c_NoDot t) :
    Calls Tryz.prog 9 #[.string t, .int .u8 58] w fun e w' => e = .returned (.tuple #[.string t, .string ⟨#[]⟩, .bool false]) ∧ w' = w := by
  go_enter Tryz.func9, Tryz.ntmps9
  go_wp2
  go_loop [7] (fun v => ∃ k : Nat, k ≤ t.size ∧ v = .int .i64 k) (fun v => t.size - (intOf v).toNat)
  case atStart => exact ⟨0, Nat.zero_le _, rfl⟩
  case round =>
    obtain ⟨k, hk, rfl⟩ := hrel
    by_cases hlt : k < t.size
    · have hb : (((t[k].toNat : Nat) : Int) == 58) = false := by have := hd k hlt; simp; omega
      clear hd
      go_wp2
      go_round
      case rel => exact ⟨k + 1, by omega, by go_num⟩
      case measure => simp [intOf]; omega
    · clear hd
      go_wp2
      go_ret3
      exact ⟨rfl, rfl⟩

def c_dotB (t : ByteArray) : Bool := decide (0 ≤ Lib.indexByte t.data.toList 58)

def c_wholeOf (t : ByteArray) : ByteArray := if c_dotB t then t.extract 0 (Lib.indexByte t.data.toList 58).toNat else t

def c_partOf (t : ByteArray) : ByteArray := if c_dotB t then t.extract ((Lib.indexByte t.data.toList 58).toNat + 1) t.size else ⟨#[]⟩

theorem c_cutOf_hit {t : ByteArray} {i : Nat} (h : Lib.indexByte t.data.toList 58 = (i : Nat)) : c_dotB t = true ∧ c_wholeOf t = t.extract 0 i ∧ c_partOf t = t.extract (i + 1) t.size := by
  have e : c_dotB t = true := decide_eq_true (by omega)
  refine ⟨e, ?_, ?_⟩
  · simp [c_wholeOf, e, h]
  · simp [c_partOf, e, h]

theorem c_cutOf_miss {t : ByteArray} (h : Lib.indexByte t.data.toList 58 = -1) : c_dotB t = false ∧ c_wholeOf t = t ∧ c_partOf t = ⟨#[]⟩ := by
  have e : c_dotB t = false := decide_eq_false (by omega)
  refine ⟨e, ?_, ?_⟩
  · simp [c_wholeOf, e]
  · simp [c_partOf, e]

/-- The model's cut at a point. -/
theorem c_l1Cut_any (t : ByteArray) (w : World) (hs : t.size ≤ 1048576) :
    Calls Tryz.prog 9 #[.string t, .int .u8 58] w fun e w' => e = .returned (.tuple #[.string (c_wholeOf t), .string (c_partOf t), .bool (c_dotB t)]) ∧ ∃ n, w' = w.drewN n := by
  rcases c_dot_index t with ⟨hn, h⟩ | ⟨i, hd, h⟩
  · obtain ⟨e1, e2, e3⟩ := c_cutOf_miss h
    rw [e1, e2, e3]
    exact (c_l1Cut_miss t w hs hn).mono fun e w' k => ⟨k.1, 0, k.2⟩
  · obtain ⟨e1, e2, e3⟩ := c_cutOf_hit h
    rw [e1, e2, e3]
    exact c_l1Cut_hit t i w hs hd

theorem c_part_size (t : ByteArray) : (c_partOf t).size ≤ t.size := by
  unfold c_partOf
  split
  · simp
  · exact Nat.zero_le _

theorem c_whole_size (t : ByteArray) : (c_wholeOf t).size ≤ t.size := by
  unfold c_wholeOf
  split
  · simp; omega
  · exact Nat.le_refl _
end Go.Proofs.YtddnphgpdnedbaaGreatDoor
