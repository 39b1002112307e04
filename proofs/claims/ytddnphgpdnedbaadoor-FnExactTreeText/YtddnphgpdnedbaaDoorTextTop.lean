/-
  PixelsText and its model answer pixText and pixB of the length, for every int, where the two tables lie as they are laid.
-/
import Derived.Test.YtddnphgpdnedbaaDoorTextSP
import Derived.Test.YtddnphgpdnedbaaDoorTextSN
import Derived.Test.YtddnphgpdnedbaaDoorTextIP
import Derived.Test.YtddnphgpdnedbaaDoorTextIN
namespace Go.Proofs.YtddnphgpdnedbaaDoor
open Go.ChangeShapes Go.WideShapes Go.ChangeAt Go.RowKit
set_option linter.unusedVariables false
theorem app_assoc (a b c : ByteArray) : a ++ b ++ c = a ++ (b ++ c) := ByteArray.append_assoc
theorem ret2T {a b : ByteArray} {x y : Bool} (h : a = b) (k : x = y) : Ending.returned (.tuple #[.string a, .bool x]) = .returned (.tuple #[.string b, .bool y]) := by rw [h, k]

theorem specText_no (n : Int) (w : World) (h : pixB n = false) :
    Calls Tryd.prog 59 #[.int .i64 n] w fun e w' => e = .returned (.tuple #[.string (pixText n), .bool (pixB n)]) ∧ Below w.heap.size w w' := by
  have HE : Hid (pixB n = false) := h
  have HT : Hid (pixText n = ⟨#[]⟩) := by show pixText n = _; simp [pixText, h]
  have hh : ¬ (-1000000 ≤ n ∧ n ≤ 1000000 ∧ n.tmod 16 = 0) := of_decide_eq_false h
  clear h
  by_cases h1 : -1000000 ≤ n
  · by_cases h2 : n ≤ 1000000
    · have h3 : (n.tmod 16 == 0) = false := by simp; omega
      have h3' : ¬ n.tmod 16 = 0 := by omega
      clear hh
      go_enter Tryd.func59, Tryd.ntmps59
      go_wp2
      go_ret2
      exact ⟨ret2T HT.out.symm HE.out.symm, Below.refl _ _⟩
    · clear hh
      go_enter Tryd.func59, Tryd.ntmps59
      go_wp2
      go_ret2
      exact ⟨ret2T HT.out.symm HE.out.symm, Below.refl _ _⟩
  · clear hh
    go_enter Tryd.func59, Tryd.ntmps59
    go_wp2
    go_ret2
    exact ⟨ret2T HT.out.symm HE.out.symm, Below.refl _ _⟩

theorem implText_no (n : Int) (w : World) (h : pixB n = false) :
    Calls Tryd.prog 81 #[.int .i64 n] w fun e w' => e = .returned (.tuple #[.string (pixText n), .bool (pixB n)]) ∧ Below w.heap.size w w' := by
  have HE : Hid (pixB n = false) := h
  have HT : Hid (pixText n = ⟨#[]⟩) := by show pixText n = _; simp [pixText, h]
  have hh : ¬ (-1000000 ≤ n ∧ n ≤ 1000000 ∧ n.tmod 16 = 0) := of_decide_eq_false h
  clear h
  by_cases h1 : -1000000 ≤ n
  · by_cases h2 : n ≤ 1000000
    · have h3 : (n.tmod 16 == 0) = false := by simp; omega
      have h3' : ¬ n.tmod 16 = 0 := by omega
      clear hh
      go_enter Tryd.func81, Tryd.ntmps81
      go_wp2
      go_ret2
      exact ⟨ret2T HT.out.symm HE.out.symm, Below.refl _ _⟩
    · clear hh
      go_enter Tryd.func81, Tryd.ntmps81
      go_wp2
      go_ret2
      exact ⟨ret2T HT.out.symm HE.out.symm, Below.refl _ _⟩
  · clear hh
    go_enter Tryd.func81, Tryd.ntmps81
    go_wp2
    go_ret2
    exact ⟨ret2T HT.out.symm HE.out.symm, Below.refl _ _⟩

theorem pix_yes {n : Int} (h : pixB n = true) : (-1000000 ≤ n ∧ n ≤ 1000000 ∧ n.tmod 16 = 0) ∧ pixText n = signText n ++ num (n.natAbs / 64) ++ quarter (n.natAbs % 64 / 16) ++ ⟨#[112, 120]⟩ :=
  ⟨of_decide_eq_true h, by simp [pixText, h]⟩
theorem f1 (m : Nat) (h : m ≤ 1000000) : IntKind.i64.wrap ((m : Int).tdiv 64) = ((m / 64 : Nat) : Int) := by
  rw [Int.tdiv_eq_ediv_of_nonneg (by omega), wrapI _ (by omega) (by omega)]; omega
theorem f2 (m : Nat) : (m : Int).tmod 64 = ((m % 64 : Nat) : Int) := by
  rw [Int.tmod_eq_emod_of_nonneg (by omega)]; omega
theorem f3 (m j : Nat) (h : m % 64 / 16 = j) : IntKind.i64.wrap (((m % 64 : Nat) : Int).tdiv 16) = (j : Int) := by
  rw [Int.tdiv_eq_ediv_of_nonneg (by omega), wrapI _ (by omega) (by omega)]; omega

theorem specText_any (n : Int) (w : World) :
    Calls Tryd.prog 59 #[.int .i64 n] w fun e w' => e = .returned (.tuple #[.string (pixText n), .bool (pixB n)]) ∧ Below w.heap.size w w' := by
  cases h : pixB n with
  | false => have := specText_no n w h; rwa [h] at this
  | true =>
    obtain ⟨⟨g1, g2, g3⟩, e⟩ := pix_yes h
    have hs := num_size (n.natAbs / 64) (by omega)
    have L := l1Num_any (n.natAbs / 64) (by omega)
    have hj : n.natAbs % 64 / 16 = 0 ∨ n.natAbs % 64 / 16 = 1 ∨ n.natAbs % 64 / 16 = 2 ∨ n.natAbs % 64 / 16 = 3 := by omega
    rw [e]
    by_cases hn : n < 0
    · have es : signText n = ⟨#[45]⟩ := if_pos hn
      rw [es, app_assoc ⟨#[45]⟩ (num _) (quarter _)]
      have en : n = -(n.natAbs : Int) := by omega
      have a1 := f1 n.natAbs (by omega)
      have a2 := f2 n.natAbs
      rw [en] at g3
      have : ∀ (m : Nat), m = n.natAbs → Calls Tryd.prog 59 #[.int .i64 (-(m : Int))] w fun e w' => e = .returned (.tuple #[.string (⟨#[45]⟩ ++ (num (m / 64) ++ quarter (m % 64 / 16)) ++ ⟨#[112, 120]⟩), .bool true]) ∧ Below w.heap.size w w' := by
        intro m hm
        rw [← hm] at hs L hj g3 a1 a2
        rcases hj with hj | hj | hj | hj
        · rw [hj]; exact specText_neg_0 m _ _ _ w (by omega) (by omega) g3 (by omega) a1 a2 (f3 m 0 hj) L
        · rw [hj]; exact specText_neg_1 m _ _ _ w (by omega) (by omega) g3 (by omega) a1 a2 (f3 m 1 hj) L
        · rw [hj]; exact specText_neg_2 m _ _ _ w (by omega) (by omega) g3 (by omega) a1 a2 (f3 m 2 hj) L
        · rw [hj]; exact specText_neg_3 m _ _ _ w (by omega) (by omega) g3 (by omega) a1 a2 (f3 m 3 hj) L
      have t := this n.natAbs rfl
      rw [← en] at t
      exact t
    · have es : signText n = ⟨#[]⟩ := if_neg hn
      rw [es, app_assoc ⟨#[]⟩ (num _) (quarter _)]
      have en : n = (n.natAbs : Int) := by omega
      have a1 := f1 n.natAbs (by omega)
      have a2 := f2 n.natAbs
      rw [en] at g3
      have : ∀ (m : Nat), m = n.natAbs → Calls Tryd.prog 59 #[.int .i64 (m : Int)] w fun e w' => e = .returned (.tuple #[.string (⟨#[]⟩ ++ (num (m / 64) ++ quarter (m % 64 / 16)) ++ ⟨#[112, 120]⟩), .bool true]) ∧ Below w.heap.size w w' := by
        intro m hm
        have g3' : (m : Int).tmod 16 = 0 := by rw [hm]; exact g3
        rw [← hm] at hs L hj a1 a2
        rcases hj with hj | hj | hj | hj
        · rw [hj]; exact specText_pos_0 m _ _ _ w (by omega) (by omega) g3' (by omega) a1 a2 (f3 m 0 hj) L
        · rw [hj]; exact specText_pos_1 m _ _ _ w (by omega) (by omega) g3' (by omega) a1 a2 (f3 m 1 hj) L
        · rw [hj]; exact specText_pos_2 m _ _ _ w (by omega) (by omega) g3' (by omega) a1 a2 (f3 m 2 hj) L
        · rw [hj]; exact specText_pos_3 m _ _ _ w (by omega) (by omega) g3' (by omega) a1 a2 (f3 m 3 hj) L
      have t := this n.natAbs rfl
      rw [← en] at t
      exact t

/-- The table of quarters lies as it is laid. -/
def Quarters (w : World) : Prop := 3 < w.heap.size ∧ ∀ j, j < 4 → w.cell? ⟨3, j, none⟩ = some (.string (quarter j))
theorem implText_any (n : Int) (w : World) (hQ : Quarters w) (htab : Lib.TabIs Tryd.prog w "internal/strconv.uint64pow10" .u64 Lib.pow10Tab) :
    Calls Tryd.prog 81 #[.int .i64 n] w fun e w' => e = .returned (.tuple #[.string (pixText n), .bool (pixB n)]) ∧ Below w.heap.size w w' := by
  cases h : pixB n with
  | false => have := implText_no n w h; rwa [h] at this
  | true =>
    obtain ⟨⟨g1, g2, g3⟩, e⟩ := pix_yes h
    have hs := num_size (n.natAbs / 64) (by omega)
    have L := itoa_any (n.natAbs / 64) (by omega) w.drew htab
    have hj : n.natAbs % 64 / 16 = 0 ∨ n.natAbs % 64 / 16 = 1 ∨ n.natAbs % 64 / 16 = 2 ∨ n.natAbs % 64 / 16 = 3 := by omega
    rw [e]
    by_cases hn : n < 0
    · have es : signText n = ⟨#[45]⟩ := if_pos hn
      rw [es]
      have en : n = -(n.natAbs : Int) := by omega
      have a1 := f1 n.natAbs (by omega)
      have a2 := f2 n.natAbs
      rw [en] at g3
      have : ∀ (m : Nat), m = n.natAbs → Calls Tryd.prog 81 #[.int .i64 (-(m : Int))] w fun e w' => e = .returned (.tuple #[.string (⟨#[45]⟩ ++ num (m / 64) ++ quarter (m % 64 / 16) ++ ⟨#[112, 120]⟩), .bool true]) ∧ Below w.heap.size w w' := by
        intro m hm
        rw [← hm] at hs L hj g3 a1 a2
        rcases hj with hj | hj | hj | hj
        · rw [hj]; exact implText_neg_0 m _ _ _ w (by omega) (by omega) g3 (by omega) a1 a2 (f3 m 0 hj) hQ.1 (hQ.2 0 (by omega)) L
        · rw [hj]; exact implText_neg_1 m _ _ _ w (by omega) (by omega) g3 (by omega) a1 a2 (f3 m 1 hj) hQ.1 (hQ.2 1 (by omega)) L
        · rw [hj]; exact implText_neg_2 m _ _ _ w (by omega) (by omega) g3 (by omega) a1 a2 (f3 m 2 hj) hQ.1 (hQ.2 2 (by omega)) L
        · rw [hj]; exact implText_neg_3 m _ _ _ w (by omega) (by omega) g3 (by omega) a1 a2 (f3 m 3 hj) hQ.1 (hQ.2 3 (by omega)) L
      have t := this n.natAbs rfl
      rw [← en] at t
      exact t
    · have es : signText n = ⟨#[]⟩ := if_neg hn
      rw [es]
      have en : n = (n.natAbs : Int) := by omega
      have a1 := f1 n.natAbs (by omega)
      have a2 := f2 n.natAbs
      rw [en] at g3
      have : ∀ (m : Nat), m = n.natAbs → Calls Tryd.prog 81 #[.int .i64 (m : Int)] w fun e w' => e = .returned (.tuple #[.string (⟨#[]⟩ ++ num (m / 64) ++ quarter (m % 64 / 16) ++ ⟨#[112, 120]⟩), .bool true]) ∧ Below w.heap.size w w' := by
        intro m hm
        have g3' : (m : Int).tmod 16 = 0 := by rw [hm]; exact g3
        rw [← hm] at hs L hj a1 a2
        rcases hj with hj | hj | hj | hj
        · rw [hj]; exact implText_pos_0 m _ _ _ w (by omega) (by omega) g3' (by omega) a1 a2 (f3 m 0 hj) hQ.1 (hQ.2 0 (by omega)) L
        · rw [hj]; exact implText_pos_1 m _ _ _ w (by omega) (by omega) g3' (by omega) a1 a2 (f3 m 1 hj) hQ.1 (hQ.2 1 (by omega)) L
        · rw [hj]; exact implText_pos_2 m _ _ _ w (by omega) (by omega) g3' (by omega) a1 a2 (f3 m 2 hj) hQ.1 (hQ.2 2 (by omega)) L
        · rw [hj]; exact implText_pos_3 m _ _ _ w (by omega) (by omega) g3' (by omega) a1 a2 (f3 m 3 hj) hQ.1 (hQ.2 3 (by omega)) L
      have t := this n.natAbs rfl
      rw [← en] at t
      exact t
end Go.Proofs.YtddnphgpdnedbaaDoor
