/-
  The law's own marking of a row of nodes: it writes into that row alone, and counts on.
-/
import Derived.Test.YtbphninknpfcmaaDoorNdG
import Derived.Lib.ItoaNum
import Derived.WalkSpells
import Derived.WalkLawsBesides
namespace Go.Proofs.YtbphninknpfcmaaDoor
open Go.ChangeShapes Go.WideShapes Go.ChangeAt Go.RowKit
set_option linter.unusedVariables false

/-- A slice of one digit's byte, as a string. -/
theorem mark_one (m : Int) (h0 : 0 ≤ m) (h1 : m < 10) (b : Nat) (W : World) (hc : W.cell? ⟨b, 0, none⟩ = some (.int .u8 (48 + m))) :
    (convert 69 9 (.slice (some ⟨b, 0, none⟩) 1 1)).run Tryd.prog W = .ok (.string ⟨#[UInt8.ofNat (48 + m.toNat)]⟩) W := by
  have hl : (UInt8.ofNat (48 + m.toNat)).toNat = 48 + m.toNat := by
    rw [UInt8.toNat_ofNat']
    omega
  exact run_convert_bytes_back W 69 9 5 ⟨b, 0, none⟩ 1 [UInt8.ofNat (48 + m.toNat)] Tryd.underlying69 Tryd.underlying5 Tryd.underlying9 (fun j hj => by
    have : j = 0 := by simpa using hj
    subst this
    simp only [List.getElem_cons_zero, hl]
    have e : ((48 + m.toNat : Nat) : Int) = 48 + m := by omega
    rw [e]
    simpa [Addr.add] using hc)
theorem mark_wrap8 (x : Int) (h0 : 0 ≤ x) (h1 : x ≤ 255) : IntKind.u8.wrap x = x := by
  have : IntKind.u8.wrap x = x % 256 := by simp [IntKind.wrap, IntKind.bits, IntKind.signed]
  rw [this]; omega

set_option maxHeartbeats 2000000 in
theorem markText_any (k : Nat) (w : World) (h0 : 0 < k) (h1 : k ≤ 100000000) :
    Calls Tryd.prog 40 #[.int .i64 k] w fun e w' => (∃ s, e = .returned (.string s)) ∧ Below w.heap.size w w' := by
  have hk0 : ¬ ((k : Int) ≤ 0) := by omega
  go_enter Tryd.func40, Tryd.ntmps40
  go_wp2_with fail
  go_loopw [0, 3] (fun q s wr => ∃ (m : Nat) (t : ByteArray), q = .int .i64 m ∧ s = .string t ∧ t.size + m ≤ 100000000 ∧ Below w.heap.size w wr) (fun q _ _ => (intOf q).toNat)
  case atStart => exact ⟨k, _, rfl, rfl, by show 0 + k ≤ _; omega, Below.refl _ _⟩
  case round =>
    obtain ⟨m, t, rfl, rfl, hm, hbw⟩ := hrel
    by_cases hm0 : 0 < m
    · have g0 : (0 : Int) < (m : Int) := by omega
      obtain ⟨r, hr⟩ : ∃ r : Nat, r = m % 10 := ⟨_, rfl⟩
      obtain ⟨d, hd⟩ : ∃ d : Nat, d = m / 10 := ⟨_, rfl⟩
      have e1 : (m : Int).tmod 10 = (r : Int) := by rw [Int.tmod_eq_emod_of_nonneg (by omega)]; omega
      have e2 : (m : Int).tdiv 10 = (d : Int) := by rw [Int.tdiv_eq_ediv_of_nonneg (by omega)]; omega
      have e1' : (m : Int) % 10 = (r : Int) := by omega
      have e2' : (m : Int) / 10 = (d : Int) := by omega
      have kc := mark_one (r : Int) (by omega) (by omega)
      have w8 := mark_wrap8 (48 + (r : Int)) (by omega) (by omega)
      have HR : Hid (r = m % 10) := hr
      have HD : Hid (d = m / 10) := hd
      have hr9 : (r : Int) ≤ 9 := by omega
      have hdm : d < m := by omega
      clear hr hd
      go_wp2
      go_roundw
      case rel => exact ⟨d, _, rfl, rfl, by rw [ByteArray.size_append]; show 1 + _ + _ ≤ _; omega, hbw.alloc hbw.size _⟩
      case measure => simp [intOf]; omega
    · have : m = 0 := by omega
      subst this
      go_wp2
      go_ret
      exact ⟨⟨_, rfl⟩, hbw⟩
end Go.Proofs.YtbphninknpfcmaaDoor
