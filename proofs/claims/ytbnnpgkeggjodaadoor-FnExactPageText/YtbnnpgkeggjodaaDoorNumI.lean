/-
  The model's numeral of every int, and a row of them with a blank ahead of each.
-/
import Derived.Test.YtbnnpgkeggjodaaDoorNum
import Derived.Test.YtbnnpgkeggjodaaDoorRowInts
import Derived.Test.YtbnnpgkeggjodaaDoorWide
namespace Go.Proofs.YtbnnpgkeggjodaaDoor
open Go.ChangeShapes Go.WideShapes Go.ChangeAt Go.RowKit
set_option linter.unusedVariables false

def inI (z : Int) : Prop := -9223372036854775808 ≤ z ∧ z ≤ 9223372036854775807
/-- The text of a whole number. -/
def numT (n : Int) : ByteArray := if n < 0 then ⟨#[45]⟩ ++ num n.natAbs else num n.natAbs
theorem numT_pos {n : Int} (h : ¬ n < 0) : numT n = num n.natAbs := if_neg h
theorem numT_neg {n : Int} (h : n < 0) : numT n = ⟨#[45]⟩ ++ num n.natAbs := if_pos h
theorem one_size (a : UInt8) : (⟨#[a]⟩ : ByteArray).size = 1 := rfl
theorem numT_size {n : Int} (h : inI n) : (numT n).size ≤ 20 := by
  unfold inI at h
  by_cases h0 : n < 0
  · rw [numT_neg h0, ByteArray.size_append, one_size]
    by_cases h1 : n.natAbs < 9223372036854775808
    · have := num_size n.natAbs h1
      omega
    · have e : n.natAbs = 9223372036854775808 := by omega
      rw [e, num_size_next (by omega)]
      have := num_size (9223372036854775808 / 10) (by omega)
      have e2 := num_size_next (n := 9223372036854775808 / 10) (by omega)
      have e3 := (l1Num_pow 17 (9223372036854775808 / 10) (by omega) (by omega)).1
      omega
  · rw [numT_pos h0]
    have := num_size n.natAbs (by omega)
    omega
theorem num_step (n q d : Nat) (hq : n / 10 = q) (hd : n % 10 = d) (h : 10 ≤ n) : num n = num q ++ ⟨#[UInt8.ofNat (48 + d)]⟩ := by
  rw [num_next (by omega), hq]
  unfold byteI
  rw [show ((n : Int) % 10).toNat = d by omega]
theorem num_min : (⟨#[45, 57, 50, 50, 51, 51, 55, 50, 48, 51, 54, 56, 53, 52, 55, 55, 53, 56, 48, 56]⟩ : ByteArray) = numT (-9223372036854775808) := by
  rw [numT_neg (by decide), show (-9223372036854775808 : Int).natAbs = 9223372036854775808 from rfl,
    num_step 9223372036854775808 922337203685477580 8 (by decide) (by decide) (by decide),
    num_step 922337203685477580 92233720368547758 0 (by decide) (by decide) (by decide),
    num_step 92233720368547758 9223372036854775 8 (by decide) (by decide) (by decide),
    num_step 9223372036854775 922337203685477 5 (by decide) (by decide) (by decide),
    num_step 922337203685477 92233720368547 7 (by decide) (by decide) (by decide),
    num_step 92233720368547 9223372036854 7 (by decide) (by decide) (by decide),
    num_step 9223372036854 922337203685 4 (by decide) (by decide) (by decide),
    num_step 922337203685 92233720368 5 (by decide) (by decide) (by decide),
    num_step 92233720368 9223372036 8 (by decide) (by decide) (by decide),
    num_step 9223372036 922337203 6 (by decide) (by decide) (by decide),
    num_step 922337203 92233720 3 (by decide) (by decide) (by decide),
    num_step 92233720 9223372 0 (by decide) (by decide) (by decide),
    num_step 9223372 922337 2 (by decide) (by decide) (by decide),
    num_step 922337 92233 7 (by decide) (by decide) (by decide),
    num_step 92233 9223 3 (by decide) (by decide) (by decide),
    num_step 9223 922 3 (by decide) (by decide) (by decide),
    num_step 922 92 2 (by decide) (by decide) (by decide),
    num_step 92 9 2 (by decide) (by decide) (by decide), num_low (by decide)]
  rfl
set_option maxHeartbeats 1000000 in
theorem l1NumI_any (n : Int) (h : inI n) (w : World) :
    Calls Tryd.prog 41 #[.int .i64 n] w fun e w' => e = .returned (.string (numT n)) ∧ Below w.heap.size w w' := by
  obtain ⟨h1, h2⟩ := h
  by_cases h0 : n < 0
  rotate_left
  · rw [numT_pos h0]
    have e : n = (n.natAbs : Int) := by omega
    have := l1Num_any n.natAbs (by omega) w
    rw [← e] at this
    exact this
  by_cases hm : n = -9223372036854775808
  · subst hm
    have HM : Hid ((⟨#[45, 57, 50, 50, 51, 51, 55, 50, 48, 51, 54, 56, 53, 52, 55, 55, 53, 56, 48, 56]⟩ : ByteArray) = numT (-9223372036854775808)) := num_min
    generalize numT (-9223372036854775808) = r at HM ⊢
    go_enter Tryd.func41, Tryd.ntmps41
    go_wp2
    go_ret
    exact ⟨retS HM.out, Below.refl _ _⟩
  have C := fun w => l1Num_any n.natAbs (by omega) w
  have e : ((n.natAbs : Nat) : Int) = -n := by omega
  rw [e] at C
  have hz : (num n.natAbs).size ≤ 19 := num_size _ (by omega)
  rw [numT_neg h0]
  generalize num n.natAbs = s at C hz ⊢
  clear e
  go_enter Tryd.func41, Tryd.ntmps41
  go_wp2_with fail
  refine (C _).mono ?_
  rintro e w1 ⟨rfl, hb⟩
  go_wp2
  go_ret
  exact ⟨rfl, hb⟩
/-- Numbers, a blank ahead of each. -/
def nsT (zs : List Int) : Nat → ByteArray
  | 0 => ⟨#[]⟩
  | i + 1 => nsT zs i ++ (⟨#[32]⟩ ++ numT (zs.getD i 0))
theorem nsT_size {zs : List Int} (h : ∀ i, i < zs.length → inI (zs.getD i 0)) : ∀ i, i ≤ zs.length → (nsT zs i).size ≤ 21 * i
  | 0, _ => by rw [nsT]; exact Nat.le_refl _
  | i + 1, hi => by
    have h1 := nsT_size h i (by omega)
    have h2 := numT_size (h i (by omega))
    rw [nsT, ByteArray.size_append, ByteArray.size_append, one_size]
    omega
set_option maxHeartbeats 4000000 in
theorem l10Numbers_any (b off n cap : Nat) (zs : List Int) (w : World) (hn : n = zs.length) (hn5 : n ≤ 5) (hr : ∀ i, i < zs.length → w.cell? ⟨b, off + i, none⟩ = some (.int .i64 (zs.getD i 0))) (hin : ∀ i, i < zs.length → inI (zs.getD i 0)) :
    Calls Tryd.prog 29 #[.slice (some ⟨b, off, none⟩) n cap] w fun e w' => e = .returned (.string (nsT zs n)) ∧ Below w.heap.size w w' := by
  have HN : Hid (n = zs.length) := hn
  have HR : Hid (∀ i, i < zs.length → w.cell? ⟨b, off + i, none⟩ = some (.int .i64 (zs.getD i 0))) := hr
  have HI : Hid (∀ i, i < zs.length → inI (zs.getD i 0)) := hin
  clear hn hr hin
  go_enter Tryd.func29, Tryd.ntmps29
  go_wp2_with fail
  go_loopw [3, 8] (fun v i wr => ∃ j : Nat, j ≤ n ∧ i = .int .i64 j ∧ v = .string (nsT zs j) ∧ Below w.heap.size w wr) (fun _ i _ => n - (intOf i).toNat)
  case atStart => exact ⟨0, Nat.zero_le _, rfl, rfl, Below.refl _ _⟩
  case round =>
    obtain ⟨j, hj, rfl, rfl, hbw⟩ := hrel
    by_cases hlt : j < n
    rotate_left
    · have e : j = n := by omega
      subst e
      go_wp2
      go_ret
      exact ⟨rfl, hbw⟩
    have q0 : wr.cell? ⟨b, off + j, none⟩ = some (.int .i64 (zs.getD j 0)) := (hbw.cell (block_lt (HR.out j (by have := HN.out; omega)))).trans (HR.out j (by have := HN.out; omega))
    have C := fun w => l1NumI_any (zs.getD j 0) (HI.out j (by have := HN.out; omega)) w
    have z1 := nsT_size HI.out j (by have := HN.out; omega)
    have z2 := numT_size (HI.out j (by have := HN.out; omega))
    have HT : Hid (nsT zs (j + 1) = nsT zs j ++ (⟨#[32]⟩ ++ numT (zs.getD j 0))) := rfl
    generalize nsT zs j = t at z1 HT
    generalize numT (zs.getD j 0) = s at C z2 HT
    generalize zs.getD j 0 = z at q0 C
    go_wp2_with fail
    refine (C _).mono ?_
    rintro e w1 ⟨rfl, hb⟩
    have hb2 := hbw.trans (hb.mono hbw.size)
    clear hb C q0
    go_wp2
    go_roundw
    case rel => exact ⟨j + 1, by omega, by go_num, by rw [HT.out], hb2⟩
    case measure => simp [intOf]; omega
end Go.Proofs.YtbnnpgkeggjodaaDoor
