/-
  Contracts of the digit readers of ReadPixels and of its model: l1Digits, isDigits, l1Read and digitsValue, for every string of at most 1048576 bytes (the last two: of at most five digits).
-/
import Derived.Test.YtijondjiehoafaaDoorRows
import Derived.Test.YtijondjiehoafaaDoorReadPlain
import Derived.WalkKit
import Derived.ProofKit
import Derived.OpenShut
import Derived.WalkSpells
import Derived.Deep.QuietTactic
import Derived.BigQuiet
import Derived.WalkSmall
import Derived.Lib.Bytealg
namespace Go.Proofs.YtijondjiehoafaaDoor
open Go.ChangeShapes Go.WideShapes Go.ChangeAt Go.RowKit
theorem retI {k : IntKind} {a b : Int} (h : a = b) : Ending.returned (.int k a) = .returned (.int k b) := by rw [h]
theorem retB {a b : Bool} (h : a = b) : Ending.returned (.bool a) = .returned (.bool b) := by rw [h]

def digsB (s : ByteArray) (m : Int) : Bool := decide (1 ≤ s.size) && decide ((s.size : Int) ≤ m) && digB s
theorem digsB_short {s : ByteArray} {m : Int} (h : ¬ 1 ≤ s.size) : digsB s m = false := by simp [digsB, h]
theorem digsB_long {s : ByteArray} {m : Int} (h : ¬ (s.size : Int) ≤ m) : digsB s m = false := by simp [digsB, h]
theorem digsB_bad {s : ByteArray} {m : Int} (h : digB s = false) : digsB s m = false := by simp [digsB, h]
theorem digsB_good {s : ByteArray} {m : Int} (h1 : 1 ≤ s.size) (h2 : (s.size : Int) ≤ m) (h : digB s = true) : digsB s m = true := by simp [digsB, h, h1, h2]

set_option maxHeartbeats 1000000 in
theorem isDigits_any (s : ByteArray) (m : Int) (w : World) (hs : s.size ≤ 1048576) :
    Calls Tryd.prog 54 #[.string s, .int .i64 m] w fun e w' => e = .returned (.bool (digsB s m)) ∧ w' = w := by
  by_cases h1 : 1 ≤ s.size
  rotate_left
  · have HB : Hid (digsB s m = false) := digsB_short h1
    go_enter Tryd.func54, Tryd.ntmps54
    go_wp2
    go_ret
    exact ⟨retB HB.out.symm, rfl⟩
  by_cases h2 : (s.size : Int) ≤ m
  rotate_left
  · have HB : Hid (digsB s m = false) := digsB_long h2
    go_enter Tryd.func54, Tryd.ntmps54
    go_wp2
    go_ret
    exact ⟨retB HB.out.symm, rfl⟩
  go_enter Tryd.func54, Tryd.ntmps54
  go_wp2
  go_loop [17] (fun i => ∃ k : Nat, k ≤ s.size ∧ i = .int .i64 k ∧ DigTo s k) (fun i => s.size - (intOf i).toNat)
  case atStart => exact ⟨0, Nat.zero_le _, rfl, digTo_zero _⟩
  case round =>
    obtain ⟨k, hk, rfl, hd⟩ := hrel
    by_cases hlt : k < s.size
    · have N := fun d => digTo_next hd hlt d
      have B := fun h => digsB_bad (m := m) (digB_bad (s := s) k hlt h)
      clear hd
      by_cases g1 : 48 ≤ s[k].toNat
      · by_cases g2 : s[k].toNat ≤ 57
        · have HN : Hid (DigTo s (k + 1)) := N ⟨g1, g2⟩
          clear N B
          go_wp2
          go_round
          case rel => exact ⟨k + 1, by omega, by go_num, HN.out⟩
          case measure => simp [intOf]; omega
        · have HB : Hid (digsB s m = false) := B (by omega)
          clear N B
          go_wp2
          go_ret
          exact ⟨retB HB.out.symm, rfl⟩
      · have HB : Hid (digsB s m = false) := B (by omega)
        clear N B
        go_wp2
        go_ret
        exact ⟨retB HB.out.symm, rfl⟩
    · have e : k = s.size := by omega
      subst e
      have HB : Hid (digsB s m = true) := digsB_good h1 h2 (digB_all hd)
      clear hd
      go_wp2
      go_ret
      exact ⟨retB HB.out.symm, rfl⟩

set_option maxHeartbeats 1000000 in
theorem digitsValue_any (s : ByteArray) (w : World) (hs : s.size ≤ 5) (hd : digB s = true) :
    Calls Tryd.prog 55 #[.string s] w fun e w' => e = .returned (.int .i64 (val s.data.toList)) ∧ w' = w := by
  go_enter Tryd.func55, Tryd.ntmps55
  go_wp2
  go_loop [3, 7] (fun n i => ∃ k : Nat, k ≤ s.size ∧ i = .int .i64 k ∧ n = .int .i64 (val (s.data.toList.take k))) (fun _ i => s.size - (intOf i).toNat)
  case atStart => exact ⟨0, Nat.zero_le _, rfl, rfl⟩
  case round =>
    obtain ⟨k, hk, rfl, rfl⟩ := hrel
    by_cases hlt : k < s.size
    · have hb := val_bd s hd k hk (by omega)
      have hv := val_next s k hlt
      have hc := digB_at hd k hlt
      obtain ⟨v, hv'⟩ : ∃ v, v = val (s.data.toList.take k) := ⟨_, rfl⟩
      rw [← hv'] at hb hv
      rw [← hv']
      have HV : Hid (val (s.data.toList.take (k + 1)) = 10 * v + ((s[k].toNat : Int) - 48)) := hv
      clear hv hv' hd
      go_wp2
      go_round
      case rel => exact ⟨k + 1, by omega, by go_num, by rw [HV.out]; go_num⟩
      case measure => simp [intOf]; omega
    · have e : k = s.size := by omega
      subst e
      go_wp2
      go_ret
      exact ⟨retI (by rw [all_take]), rfl⟩
end Go.Proofs.YtijondjiehoafaaDoor
