/-
  A size in what is around: the model's and the program's, for every size and every base.
-/
import Derived.Test.YtfgnpjlekcbicaaWdP
import Derived.Test.YtfgnpjlekcbicaaStyN
namespace Go.Proofs.Ytfgnpjlekcbicaa
open Go.ChangeShapes Go.WideShapes Go.ChangeAt Go.RowKit
set_option linter.unusedVariables false

theorem prod_bd6 (b n : Int) (h1 : 0 ≤ b) (h2 : b ≤ 1000000) (h3 : -1000000 ≤ n) (h4 : n ≤ 1000000) : -1000000000000 ≤ b * n ∧ b * n ≤ 1000000000000 := by
  have e := Int.natAbs_mul b n
  have l : b.natAbs * n.natAbs ≤ 1000000 * 1000000 := Nat.mul_le_mul (by omega) (by omega)
  omega
theorem quot_bd6 (m : Int) (h1 : -1000000000000 ≤ m) (h2 : m ≤ 1000000000000) : -100000000 ≤ m.tdiv 10000 ∧ m.tdiv 10000 ≤ 100000000 := by
  have e : (m.tdiv 10000).natAbs = m.natAbs / 10000 := Int.natAbs_tdiv m 10000
  omega
theorem wrap6 {x : Int} (h0 : -9223372036854775808 ≤ x) (h1 : x ≤ 9223372036854775807) : IntKind.i64.wrap x = x := by
  rw [IntKind.wrap_i64]; omega
theorem ret_int6 {a b : Int} (h : a = b) : Ending.returned (.int .i64 a) = .returned (.int .i64 b) := by rw [h]

set_option maxHeartbeats 1000000 in
theorem l6Size_any (a p : Bool) (n b : Int) (w : World) (h1 : 0 ≤ b) (h2 : b ≤ 1000000) (h3 : -1000000 ≤ n) (h4 : n ≤ 1000000) :
    Calls Try.prog 27 #[.agg #[.bool a, .bool p, .int .i64 n], .int .i64 b] w fun e w' => e = .returned (.int .i64 (szN p n b)) ∧ Below w.heap.size w w' := by
  cases p
  · go_enter Try.func27, Try.ntmps27
    go_wp2
    go_ret
    exact ⟨rfl, (Below.refl _ _).alloc (Nat.le_refl _) _⟩
  · obtain ⟨m1, m2⟩ := prod_bd6 b n h1 h2 h3 h4
    obtain ⟨q1, q2⟩ := quot_bd6 (b * n) m1 m2
    by_cases ht : (b * n).tmod 10000 < 0
    · have HD : Hid (down (b * n) 10000 = (b * n).tdiv 10000 - 1) := down_lo ht
      go_enter Try.func27, Try.ntmps27
      go_wp2
      go_ret
      exact ⟨ret_int6 (by show _ = down (b * n) 10000; rw [HD.out]), (Below.refl _ _).alloc (Nat.le_refl _) _⟩
    · have HD : Hid (down (b * n) 10000 = (b * n).tdiv 10000) := down_hi ht
      go_enter Try.func27, Try.ntmps27
      go_wp2
      go_ret
      exact ⟨ret_int6 (by show _ = down (b * n) 10000; rw [HD.out]), (Below.refl _ _).alloc (Nat.le_refl _) _⟩

theorem isExtent_any (n : Int) (w : World) : Calls Try.prog 28 #[.int .i64 n] w fun e w' => e = .returned (.bool (inB 0 1000000 n)) ∧ w' = w := by
  by_cases h1 : 0 ≤ n
  · by_cases h2 : n ≤ 1000000
    · go_enter Try.func28, Try.ntmps28
      go_wp2
      go_ret
      exact ⟨ret_bool (inB_is ⟨h1, h2⟩), rfl⟩
    · go_enter Try.func28, Try.ntmps28
      go_wp2
      go_ret
      exact ⟨ret_bool (inB_not (by omega)), rfl⟩
  · go_enter Try.func28, Try.ntmps28
    go_wp2
    go_ret
    exact ⟨ret_bool (inB_not (by omega)), rfl⟩
def told6N (n : Int) : Int := if inB (-1000000) 1000000 n then n else 0
def told6 (n : Int) : Value := .tuple #[.int .i64 (told6N n), .bool (inB (-1000000) 1000000 n)]
theorem told6_yes {n : Int} (h : inB (-1000000) 1000000 n = true) : Value.tuple #[.int .i64 n, .bool true] = told6 n := by simp [told6, told6N, h]
theorem told6_no {n : Int} (h : inB (-1000000) 1000000 n = false) : Value.tuple #[.int .i64 0, .bool false] = told6 n := by simp [told6, told6N, h]
theorem told6_any (n : Int) (w : World) : Calls Try.prog 25 #[.int .i64 n] w fun e w' => e = .returned (told6 n) ∧ w' = w := by
  by_cases h1 : -1000000 ≤ n
  · by_cases h2 : n ≤ 1000000
    · have H : Hid (inB (-1000000) 1000000 n = true) := decide_eq_true ⟨h1, h2⟩
      go_enter Try.func25, Try.ntmps25
      go_wp2
      go_ret2
      exact ⟨congrArg Ending.returned (told6_yes H.out), rfl⟩
    · have H : Hid (inB (-1000000) 1000000 n = false) := decide_eq_false (fun h => h2 h.2)
      go_enter Try.func25, Try.ntmps25
      go_wp2
      go_ret2
      exact ⟨congrArg Ending.returned (told6_no H.out), rfl⟩
  · have H : Hid (inB (-1000000) 1000000 n = false) := decide_eq_false (fun h => h1 h.1)
    go_enter Try.func25, Try.ntmps25
    go_wp2
    go_ret2
    exact ⟨congrArg Ending.returned (told6_no H.out), rfl⟩
theorem sin_len {n b : Int} (h : inB 0 1000000 b = true) : told6 n = sinV false false n b := by
  have e : sinB false false n b = inB (-1000000) 1000000 n := by simp [sinB, szB, szN, h]
  simp [told6, told6N, sinV, sinN, e, szN]
set_option maxHeartbeats 1000000 in
theorem implSize_any (a p : Bool) (n b : Int) (w : World) :
    Calls Try.prog 11 #[.agg #[.bool a, .bool p, .int .i64 n], .int .i64 b] w fun e w' => e = .returned (sinV a p n b) ∧ Below w.heap.size w w' := by
  have EX := fun w => isExtent_any b w
  cases a
  · cases hb : inB 0 1000000 b
    · rw [hb] at EX
      have H : Hid (sinB false p n b = false) := by show _ = _; simp [sinB, hb]
      clear hb
      go_enter Try.func11, Try.ntmps11
      go_wp2_with (go_at_call 28; refine (EX _).mono ?_; rintro e w' ⟨rfl, rfl⟩)
      go_ret2
      exact ⟨congrArg Ending.returned (sin_no H.out), (Below.refl _ _).alloc (Nat.le_refl _) _⟩
    · rw [hb] at EX
      cases p
      · have T := fun w => told6_any n w
        rw [sin_len hb] at T
        have HV : Hid (∃ x y, sinV false false n b = .tuple #[.int .i64 x, .bool y]) := ⟨_, _, rfl⟩
        obtain ⟨x, y, hv⟩ := HV.out
        rw [hv] at T ⊢
        clear hb hv
        go_enter Try.func11, Try.ntmps11
        go_wp2_with (first | (go_at_call 28; refine (EX _).mono ?_; rintro e w' ⟨rfl, rfl⟩) | (go_at_call 25; refine (T _).mono ?_; rintro e w' ⟨rfl, rfl⟩))
        go_ret2
        exact ⟨rfl, (Below.refl _ _).alloc (Nat.le_refl _) _⟩
      · have T := fun w => impl_pct b n w
        rw [sin_pct hb] at T
        have HV : Hid (∃ x y, sinV false true n b = .tuple #[.int .i64 x, .bool y]) := ⟨_, _, rfl⟩
        obtain ⟨x, y, hv⟩ := HV.out
        rw [hv] at T ⊢
        clear hb hv
        go_enter Try.func11, Try.ntmps11
        go_wp2_with (first | (go_at_call 28; refine (EX _).mono ?_; rintro e w' ⟨rfl, rfl⟩) | (go_at_call 8; refine (T _).mono ?_; rintro e w' ⟨rfl, rfl⟩))
        go_ret2
        exact ⟨rfl, (Below.refl _ _).alloc (Nat.le_refl _) _⟩
  · have H : Hid (sinB true p n b = false) := by show _ = _; simp [sinB]
    go_enter Try.func11, Try.ntmps11
    go_wp2
    go_ret2
    exact ⟨congrArg Ending.returned (sin_no H.out), (Below.refl _ _).alloc (Nat.le_refl _) _⟩

set_option maxHeartbeats 1000000 in
theorem specSize_any (a p : Bool) (n b : Int) (w : World) :
    Calls Try.prog 9 #[.agg #[.bool a, .bool p, .int .i64 n], .int .i64 b] w fun e w' => e = .returned (sinV a p n b) ∧ Below w.heap.size w w' := by
  have Z := fun w => l4Size_any a p n w
  cases hz : szB a p n
  · rw [hz] at Z
    have H : Hid (sinB a p n b = false) := by show _ = _; simp [sinB, hz]
    clear hz
    go_enter Try.func9, Try.ntmps9
    go_wp2_with fail
    refine (Z _).mono ?_
    rintro e w1 ⟨rfl, hb1⟩
    go_wp2
    go_ret2
    exact ⟨congrArg Ending.returned (sin_no H.out), ((Below.refl _ _).alloc (Nat.le_refl _) _).trans (hb1.mono (by simp))⟩
  rw [hz] at Z
  cases a
  rotate_left
  · have H : Hid (sinB true p n b = false) := by show _ = _; simp [sinB]
    clear hz
    go_enter Try.func9, Try.ntmps9
    go_wp2_with fail
    refine (Z _).mono ?_
    rintro e w1 ⟨rfl, hb1⟩
    have c0 : w1.cell? ⟨w.heap.size, 0, none⟩ = some (.bool true) := (hb1.cell (p := ⟨w.heap.size, 0, none⟩) (by simp)).trans (by go_simp)
    go_wp2
    go_ret2
    exact ⟨congrArg Ending.returned (sin_no H.out), ((Below.refl _ _).alloc (Nat.le_refl _) _).trans (hb1.mono (by simp))⟩
  have EX := fun w => l1In_any b 0 1000000 w
  cases hb : inB 0 1000000 b
  · rw [hb] at EX
    have H : Hid (sinB false p n b = false) := by show _ = _; simp [sinB, hb]
    clear hz hb
    go_enter Try.func9, Try.ntmps9
    go_wp2_with fail
    refine (Z _).mono ?_
    rintro e w1 ⟨rfl, hb1⟩
    have c0 : w1.cell? ⟨w.heap.size, 0, none⟩ = some (.bool false) := (hb1.cell (p := ⟨w.heap.size, 0, none⟩) (by simp)).trans (by go_simp)
    go_wp2_with (go_at_call 21; refine (EX _).mono ?_; rintro e w' ⟨rfl, rfl⟩)
    go_ret2
    exact ⟨congrArg Ending.returned (sin_no H.out), ((Below.refl _ _).alloc (Nat.le_refl _) _).trans (hb1.mono (by simp))⟩
  rw [hb] at EX
  have hbb := inB_yes hb
  have hnb := szB_bd hz
  have L := fun w => l6Size_any false p n b w hbb.1 hbb.2 hnb.1 hnb.2
  have G := fun w => specLen_any (szN p n b) w
  cases hg : inB (-1000000) 1000000 (szN p n b)
  · rw [hg] at G
    have H : Hid (sinB false p n b = false) := by show _ = _; simp [sinB, hg]
    clear hz hb hg
    generalize szN p n b = m at L G
    go_enter Try.func9, Try.ntmps9
    go_wp2_with fail
    refine (Z _).mono ?_
    rintro e w1 ⟨rfl, hb1⟩
    have c0 : w1.cell? ⟨w.heap.size, 0, none⟩ = some (.bool false) := (hb1.cell (p := ⟨w.heap.size, 0, none⟩) (by simp)).trans (by go_simp)
    have c1 : w1.cell? ⟨w.heap.size, 1, none⟩ = some (.bool p) := (hb1.cell (p := ⟨w.heap.size, 1, none⟩) (by simp)).trans (by go_simp)
    have c2 : w1.cell? ⟨w.heap.size, 2, none⟩ = some (.int .i64 n) := (hb1.cell (p := ⟨w.heap.size, 2, none⟩) (by simp)).trans (by go_simp)
    go_wp2_with (first | (go_at_call 21; refine (EX _).mono ?_; rintro e w' ⟨rfl, rfl⟩) | (go_at_call 27; refine (L _).mono ?_; rintro e w2 ⟨rfl, hb2⟩) | (go_at_call 20; refine (G _).mono ?_; rintro e w3 ⟨rfl, rfl⟩))
    go_ret2
    exact ⟨congrArg Ending.returned (sin_no H.out), (((Below.refl _ _).alloc (Nat.le_refl _) _).trans (hb1.mono (by simp))).trans (hb2.mono (by have := hb1.size; simp at this; omega))⟩
  · rw [hg] at G
    have H : Hid (sinB false p n b = true) := by show _ = _; simp [sinB, hg, hz, hb]
    clear hz hb hg
    have HM : Hid (∃ m, m = szN p n b) := ⟨_, rfl⟩
    obtain ⟨m, hm⟩ := HM.out
    have HM2 : Hid (m = szN p n b) := hm
    rw [← hm] at L G
    clear hm HM
    go_enter Try.func9, Try.ntmps9
    go_wp2_with fail
    refine (Z _).mono ?_
    rintro e w1 ⟨rfl, hb1⟩
    have c0 : w1.cell? ⟨w.heap.size, 0, none⟩ = some (.bool false) := (hb1.cell (p := ⟨w.heap.size, 0, none⟩) (by simp)).trans (by go_simp)
    have c1 : w1.cell? ⟨w.heap.size, 1, none⟩ = some (.bool p) := (hb1.cell (p := ⟨w.heap.size, 1, none⟩) (by simp)).trans (by go_simp)
    have c2 : w1.cell? ⟨w.heap.size, 2, none⟩ = some (.int .i64 n) := (hb1.cell (p := ⟨w.heap.size, 2, none⟩) (by simp)).trans (by go_simp)
    go_wp2_with (first | (go_at_call 21; refine (EX _).mono ?_; rintro e w' ⟨rfl, rfl⟩) | (go_at_call 27; refine (L _).mono ?_; rintro e w2 ⟨rfl, hb2⟩) | (go_at_call 20; refine (G _).mono ?_; rintro e w3 ⟨rfl, rfl⟩))
    go_ret2
    exact ⟨congrArg Ending.returned (sin_yes H.out HM2.out), (((Below.refl _ _).alloc (Nat.le_refl _) _).trans (hb1.mono (by simp))).trans (hb2.mono (by have := hb1.size; simp at this; omega))⟩
end Go.Proofs.Ytfgnpjlekcbicaa
