/-
  Contract of the model's l1Num: for every number below a power of ten it answers the decimal numeral, and leaves older memory alone.
-/
import Derived.Test.YtddnphgpdnedbaaGreatDoorRows
import Derived.WalkKit
import Derived.ProofKit
import Derived.OpenShut
import Derived.WalkSpells
import Derived.WalkLawsBesides
import Derived.Deep.QuietTactic
import Derived.BigQuiet
import Derived.WalkSmall
import Derived.Lib.ItoaNum
import Derived.Deep.RegionWith
import Derived.Deep.DeepFit
namespace Go.Proofs.YtddnphgpdnedbaaGreatDoor
open Go.ChangeShapes Go.WideShapes Go.ChangeAt Go.RowKit

theorem bcell {W w1 : World} (hb : Below W.heap.size W w1) : (∀ b o, b < W.heap.size → w1.cell? ⟨b, o, none⟩ = W.cell? ⟨b, o, none⟩) ∧ (∀ b o, b < W.heap.size → w1.frozen? ⟨b, o, none⟩ = W.frozen? ⟨b, o, none⟩) :=
  ⟨fun b o h => hb.cell (p := ⟨b, o, none⟩) h, fun b o h => hb.frozen (p := ⟨b, o, none⟩) h⟩

/-- The byte of a digit. -/
def byteI (m : Int) : UInt8 := UInt8.ofNat (48 + m.toNat)
/-- A slice of one digit's byte, as a string. -/
theorem conv_one (m : Int) (h0 : 0 ≤ m) (h1 : m < 10) (b : Nat) (W : World) (hc : W.cell? ⟨b, 0, none⟩ = some (.int .u8 (48 + m))) :
    (convert 58 9 (.slice (some ⟨b, 0, none⟩) 1 1)).run Tryz.prog W = .ok (.string ⟨#[byteI m]⟩) W := by
  have hl : (UInt8.ofNat (48 + m.toNat)).toNat = 48 + m.toNat := by
    rw [UInt8.toNat_ofNat']
    omega
  exact run_convert_bytes_back W 58 9 5 ⟨b, 0, none⟩ 1 [UInt8.ofNat (48 + m.toNat)] Tryz.underlying58 Tryz.underlying5 Tryz.underlying9 (fun j hj => by
    have : j = 0 := by simpa using hj
    subst this
    simp only [List.getElem_cons_zero, hl]
    have e : ((48 + m.toNat : Nat) : Int) = 48 + m := by omega
    rw [e]
    simpa [Addr.add] using hc)
def num (n : Nat) : ByteArray := ⟨(Lib.decDigits n).toArray⟩
theorem num_low {n : Nat} (h : n < 10) : num n = ⟨#[byteI n]⟩ := by unfold num; rw [Lib.decDigits_one h]; rfl
theorem num_next {n : Nat} (h : ¬ n < 10) : num n = num (n / 10) ++ ⟨#[byteI ((n : Int) % 10)]⟩ := by
  have e : byteI ((n : Int) % 10) = UInt8.ofNat (48 + n % 10) := by unfold byteI; rw [show ((n : Int) % 10).toNat = n % 10 by omega]
  rw [e]
  unfold num
  rw [Lib.decDigits, dif_neg h]
  apply ByteArray.ext
  simp
theorem retS {a b : ByteArray} (h : a = b) : Ending.returned (.string a) = .returned (.string b) := by rw [h]

set_option maxHeartbeats 1000000 in
theorem l1Num_low (n : Nat) (w : World) (h1 : n < 10) :
    Calls Tryz.prog 87 #[.int .i64 n] w fun e w' => e = .returned (.string (num n)) ∧ Below w.heap.size w w' := by
  have kc := conv_one (n : Int) (by omega) (by omega)
  have HN : Hid (num n = ⟨#[byteI n]⟩) := num_low h1
  go_enter Tryz.func87, Tryz.ntmps87
  go_wp2
  go_ret
  exact ⟨retS HN.out.symm, (Below.refl _ _).alloc (Nat.le_refl _) _⟩

theorem below_undrew {B : Nat} {w w1 : World} (h : Below B w.drew w1) : Below B w w1 := ⟨h.os, h.tape, h.output, h.size, h.block⟩
theorem wrapI (x : Int) (h0 : -9223372036854775808 ≤ x) (h1 : x ≤ 9223372036854775807) : IntKind.i64.wrap x = x := by
  rw [IntKind.wrap_i64]; omega
theorem wrapU8 (x : Int) (h0 : 0 ≤ x) (h1 : x ≤ 255) : IntKind.u8.wrap x = x := by
  have : IntKind.u8.wrap x = x % 256 := by simp [IntKind.wrap, IntKind.bits, IntKind.signed]
  rw [this]; omega

set_option maxHeartbeats 1000000 in
theorem l1Num_core (n q m : Int) (s : ByteArray) (w : World) (h1 : 10 ≤ n) (hsz : s.size ≤ 100) (m0 : 0 ≤ m) (m1 : m < 10)
    (F1 : IntKind.i64.wrap (n.tdiv 10) = q) (F2 : n.tmod 10 = m) (F3 : IntKind.i64.wrap (48 + m) = 48 + m) (F4 : IntKind.u8.wrap (48 + m) = 48 + m)
    (ih : ∀ w : World, Calls Tryz.prog 87 #[.int .i64 q] w fun e w' => e = .returned (.string s) ∧ Below w.heap.size w w') :
    Calls Tryz.prog 87 #[.int .i64 n] w fun e w' => e = .returned (.string (s ++ ⟨#[byteI m]⟩)) ∧ Below w.heap.size w w' := by
  have kc := conv_one m m0 m1
  go_enter Tryz.func87, Tryz.ntmps87
  go_wp2
  go_region_with (go_at_call 87; go_fit (ih _); rintro e w1 ⟨rfl, hb⟩; obtain ⟨hc, hf⟩ := bcell hb)
  all_goals
    go_wp2
    go_ret
    refine ⟨rfl, ?_⟩
    first
      | exact (below_undrew hb).alloc hb.size _
      | exact ((Below.refl w.heap.size w).alloc (Nat.le_refl _) _).trans ((below_undrew hb).mono (by simp))

theorem num_size_next {n : Nat} (h : ¬ n < 10) : (num n).size = (num (n / 10)).size + 1 := by
  rw [num_next h, ByteArray.size_append]; rfl
theorem l1Num_pow : ∀ k n : Nat, n < 10 ^ (k + 1) → n < 9223372036854775808 → (num n).size ≤ k + 1 ∧ (k ≤ 40 → ∀ w : World,
    Calls Tryz.prog 87 #[.int .i64 n] w fun e w' => e = .returned (.string (num n)) ∧ Below w.heap.size w w') := by
  intro k
  induction k with
  | zero =>
    intro n hn _
    have h1 : n < 10 := by simpa using hn
    refine ⟨?_, fun _ w => l1Num_low n w h1⟩
    rw [num_low h1]
    exact Nat.le_refl _
  | succ k ih =>
    intro n hn hb
    by_cases h1 : n < 10
    · refine ⟨?_, fun _ w => l1Num_low n w h1⟩
      rw [num_low h1]
      show 1 ≤ _
      omega
    · have hq : n / 10 < 10 ^ (k + 1) := by
        rw [Nat.pow_succ] at hn
        omega
      obtain ⟨i1, i2⟩ := ih (n / 10) hq (by omega)
      refine ⟨by rw [num_size_next h1]; omega, fun hk w => ?_⟩
      have ih' := i2 (by omega)
      rw [num_next h1]
      have e1 : ((n / 10 : Nat) : Int) = (n : Int).tdiv 10 := by rw [Int.tdiv_eq_ediv_of_nonneg (by omega)]; omega
      have e2 : (n : Int).tmod 10 = (n : Int) % 10 := Int.tmod_eq_emod_of_nonneg (by omega)
      rw [e1] at ih'
      exact l1Num_core n ((n : Int).tdiv 10) ((n : Int) % 10) _ w (by omega) (by omega) (by omega) (by omega) (wrapI _ (by omega) (by omega)) e2 (wrapI _ (by omega) (by omega)) (wrapU8 _ (by omega) (by omega)) ih'
/-- The model's numeral of a number. -/
theorem l1Num_any (n : Nat) (h : n < 9223372036854775808) (w : World) :
    Calls Tryz.prog 87 #[.int .i64 n] w fun e w' => e = .returned (.string (num n)) ∧ Below w.heap.size w w' :=
  (l1Num_pow 18 n (by omega) h).2 (by omega) w
theorem num_size (n : Nat) (h : n < 9223372036854775808) : (num n).size ≤ 19 := (l1Num_pow 18 n (by omega) h).1
end Go.Proofs.YtddnphgpdnedbaaGreatDoor
