/-
  The program's ReadPixels, way by way, over what its callees answer.
-/
import Derived.Test.YtijondjiehoafaaDoorRead3
namespace Go.Proofs.YtijondjiehoafaaDoor
open Go.ChangeShapes Go.WideShapes Go.ChangeAt Go.RowKit

set_option maxHeartbeats 1000000 in
theorem impl_a (s t b wh pt : ByteArray) (below dot : Bool) (w : World)
    (CS : ∀ w, Calls Tryd.prog 51 #[.string s, .string ⟨#[112, 120]⟩] w fun e w' => e = .returned (.tuple #[.string t, .bool false]) ∧ w' = w)
    (CP : ∀ w, Calls Tryd.prog 52 #[.string t, .string ⟨#[45]⟩] w fun e w' => e = .returned (.tuple #[.string b, .bool below]) ∧ w' = w)
    (CC : ∀ w, Calls Tryd.prog 53 #[.string b, .string ⟨#[46]⟩] w fun e w' => e = .returned (.tuple #[.string wh, .string pt, .bool dot]) ∧ ∃ n, w' = w.drewN n) :
    Calls Tryd.prog 21 #[.string s] w fun e w' => e = .returned (.tuple #[.int .i64 0, .bool false]) ∧ ∃ n, w' = w.drewN n := by
  go_enter Tryd.func21, Tryd.ntmps21
  go_wp2_with (first | (go_at_call 51; refine (CS _).mono ?_; rintro e w' ⟨rfl, rfl⟩) | (go_at_call 52; refine (CP _).mono ?_; rintro e w' ⟨rfl, rfl⟩) | (go_at_call 53; refine (CC _).mono ?_; rintro e w' ⟨rfl, nd, rfl⟩))
  go_ret2
  exact ⟨rfl, _, rfl⟩

set_option maxHeartbeats 1000000 in
theorem impl_b (s t b wh pt : ByteArray) (below dot : Bool) (w : World)
    (CS : ∀ w, Calls Tryd.prog 51 #[.string s, .string ⟨#[112, 120]⟩] w fun e w' => e = .returned (.tuple #[.string t, .bool true]) ∧ w' = w)
    (CP : ∀ w, Calls Tryd.prog 52 #[.string t, .string ⟨#[45]⟩] w fun e w' => e = .returned (.tuple #[.string b, .bool below]) ∧ w' = w)
    (CC : ∀ w, Calls Tryd.prog 53 #[.string b, .string ⟨#[46]⟩] w fun e w' => e = .returned (.tuple #[.string wh, .string pt, .bool dot]) ∧ ∃ n, w' = w.drewN n)
    (D1 : ∀ w, Calls Tryd.prog 54 #[.string wh, .int .i64 5] w fun e w' => e = .returned (.bool false) ∧ w' = w) :
    Calls Tryd.prog 21 #[.string s] w fun e w' => e = .returned (.tuple #[.int .i64 0, .bool false]) ∧ ∃ n, w' = w.drewN n := by
  go_enter Tryd.func21, Tryd.ntmps21
  go_wp2_with (first | (go_at_call 51; refine (CS _).mono ?_; rintro e w' ⟨rfl, rfl⟩) | (go_at_call 52; refine (CP _).mono ?_; rintro e w' ⟨rfl, rfl⟩) | (go_at_call 53; refine (CC _).mono ?_; rintro e w' ⟨rfl, nd, rfl⟩) | (go_at_call 54; refine (D1 _).mono ?_; rintro e w' ⟨rfl, rfl⟩))
  go_ret2
  exact ⟨rfl, _, rfl⟩

set_option maxHeartbeats 1000000 in
theorem impl_c (s t b wh pt : ByteArray) (below : Bool) (w : World)
    (CS : ∀ w, Calls Tryd.prog 51 #[.string s, .string ⟨#[112, 120]⟩] w fun e w' => e = .returned (.tuple #[.string t, .bool true]) ∧ w' = w)
    (CP : ∀ w, Calls Tryd.prog 52 #[.string t, .string ⟨#[45]⟩] w fun e w' => e = .returned (.tuple #[.string b, .bool below]) ∧ w' = w)
    (CC : ∀ w, Calls Tryd.prog 53 #[.string b, .string ⟨#[46]⟩] w fun e w' => e = .returned (.tuple #[.string wh, .string pt, .bool true]) ∧ ∃ n, w' = w.drewN n)
    (D1 : ∀ w, Calls Tryd.prog 54 #[.string wh, .int .i64 5] w fun e w' => e = .returned (.bool true) ∧ w' = w)
    (D2 : ∀ w, Calls Tryd.prog 54 #[.string pt, .int .i64 2] w fun e w' => e = .returned (.bool false) ∧ w' = w) :
    Calls Tryd.prog 21 #[.string s] w fun e w' => e = .returned (.tuple #[.int .i64 0, .bool false]) ∧ ∃ n, w' = w.drewN n := by
  have tok1 : True := trivial
  go_enter Tryd.func21, Tryd.ntmps21
  go_wp2_with (first | (go_at_call 51; refine (CS _).mono ?_; rintro e w' ⟨rfl, rfl⟩) | (go_at_call 52; refine (CP _).mono ?_; rintro e w' ⟨rfl, rfl⟩) | (go_at_call 53; refine (CC _).mono ?_; rintro e w' ⟨rfl, nd, rfl⟩) | (go_at_call 54; have _t := tok1; refine (D1 _).mono ?_; rintro e w' ⟨rfl, rfl⟩; clear tok1) | (go_at_call 54; refine (D2 _).mono ?_; rintro e w' ⟨rfl, rfl⟩))
  go_ret2
  exact ⟨rfl, _, rfl⟩

set_option maxHeartbeats 1000000 in
theorem impl_d_neg (s t b wh pt : ByteArray) (x y r : Int) (g : Bool) (w : World)
    (CS : ∀ w, Calls Tryd.prog 51 #[.string s, .string ⟨#[112, 120]⟩] w fun e w' => e = .returned (.tuple #[.string t, .bool true]) ∧ w' = w)
    (CP : ∀ w, Calls Tryd.prog 52 #[.string t, .string ⟨#[45]⟩] w fun e w' => e = .returned (.tuple #[.string b, .bool true]) ∧ w' = w)
    (CC : ∀ w, Calls Tryd.prog 53 #[.string b, .string ⟨#[46]⟩] w fun e w' => e = .returned (.tuple #[.string wh, .string pt, .bool true]) ∧ ∃ n, w' = w.drewN n)
    (D1 : ∀ w, Calls Tryd.prog 54 #[.string wh, .int .i64 5] w fun e w' => e = .returned (.bool true) ∧ w' = w)
    (D2 : ∀ w, Calls Tryd.prog 54 #[.string pt, .int .i64 2] w fun e w' => e = .returned (.bool true) ∧ w' = w)
    (V : ∀ w, Calls Tryd.prog 55 #[.string wh] w fun e w' => e = .returned (.int .i64 x) ∧ w' = w)
    (H : ∀ w, Calls Tryd.prog 56 #[.string pt] w fun e w' => e = .returned (.int .i64 y) ∧ w' = w)
    (bx : 0 ≤ x ∧ x ≤ 99999) (by' : 0 ≤ y ∧ y ≤ 99)
    (T : ∀ w, Calls Tryd.prog 57 #[.int .i64 (-(x * 64 + y * 64 / 100))] w fun e w' => e = .returned (.tuple #[.int .i64 r, .bool g]) ∧ w' = w) :
    Calls Tryd.prog 21 #[.string s] w fun e w' => e = .returned (.tuple #[.int .i64 r, .bool g]) ∧ ∃ n, w' = w.drewN n := by
  have tok1 : True := trivial
  go_enter Tryd.func21, Tryd.ntmps21
  go_wp2_with (first | (go_at_call 51; refine (CS _).mono ?_; rintro e w' ⟨rfl, rfl⟩) | (go_at_call 52; refine (CP _).mono ?_; rintro e w' ⟨rfl, rfl⟩) | (go_at_call 53; refine (CC _).mono ?_; rintro e w' ⟨rfl, nd, rfl⟩) | (go_at_call 54; have _t := tok1; refine (D1 _).mono ?_; rintro e w' ⟨rfl, rfl⟩; clear tok1) | (go_at_call 54; refine (D2 _).mono ?_; rintro e w' ⟨rfl, rfl⟩) | (go_at_call 55; refine (V _).mono ?_; rintro e w' ⟨rfl, rfl⟩) | (go_at_call 56; refine (H _).mono ?_; rintro e w' ⟨rfl, rfl⟩) | (go_at_call 57; refine (T _).mono ?_; rintro e w' ⟨rfl, rfl⟩))
  go_ret2
  exact ⟨rfl, _, rfl⟩

set_option maxHeartbeats 1000000 in
theorem impl_d_pos (s t b wh pt : ByteArray) (x y r : Int) (g : Bool) (w : World)
    (CS : ∀ w, Calls Tryd.prog 51 #[.string s, .string ⟨#[112, 120]⟩] w fun e w' => e = .returned (.tuple #[.string t, .bool true]) ∧ w' = w)
    (CP : ∀ w, Calls Tryd.prog 52 #[.string t, .string ⟨#[45]⟩] w fun e w' => e = .returned (.tuple #[.string b, .bool false]) ∧ w' = w)
    (CC : ∀ w, Calls Tryd.prog 53 #[.string b, .string ⟨#[46]⟩] w fun e w' => e = .returned (.tuple #[.string wh, .string pt, .bool true]) ∧ ∃ n, w' = w.drewN n)
    (D1 : ∀ w, Calls Tryd.prog 54 #[.string wh, .int .i64 5] w fun e w' => e = .returned (.bool true) ∧ w' = w)
    (D2 : ∀ w, Calls Tryd.prog 54 #[.string pt, .int .i64 2] w fun e w' => e = .returned (.bool true) ∧ w' = w)
    (V : ∀ w, Calls Tryd.prog 55 #[.string wh] w fun e w' => e = .returned (.int .i64 x) ∧ w' = w)
    (H : ∀ w, Calls Tryd.prog 56 #[.string pt] w fun e w' => e = .returned (.int .i64 y) ∧ w' = w)
    (bx : 0 ≤ x ∧ x ≤ 99999) (by' : 0 ≤ y ∧ y ≤ 99)
    (T : ∀ w, Calls Tryd.prog 57 #[.int .i64 (x * 64 + y * 64 / 100)] w fun e w' => e = .returned (.tuple #[.int .i64 r, .bool g]) ∧ w' = w) :
    Calls Tryd.prog 21 #[.string s] w fun e w' => e = .returned (.tuple #[.int .i64 r, .bool g]) ∧ ∃ n, w' = w.drewN n := by
  have tok1 : True := trivial
  go_enter Tryd.func21, Tryd.ntmps21
  go_wp2_with (first | (go_at_call 51; refine (CS _).mono ?_; rintro e w' ⟨rfl, rfl⟩) | (go_at_call 52; refine (CP _).mono ?_; rintro e w' ⟨rfl, rfl⟩) | (go_at_call 53; refine (CC _).mono ?_; rintro e w' ⟨rfl, nd, rfl⟩) | (go_at_call 54; have _t := tok1; refine (D1 _).mono ?_; rintro e w' ⟨rfl, rfl⟩; clear tok1) | (go_at_call 54; refine (D2 _).mono ?_; rintro e w' ⟨rfl, rfl⟩) | (go_at_call 55; refine (V _).mono ?_; rintro e w' ⟨rfl, rfl⟩) | (go_at_call 56; refine (H _).mono ?_; rintro e w' ⟨rfl, rfl⟩) | (go_at_call 57; refine (T _).mono ?_; rintro e w' ⟨rfl, rfl⟩))
  go_ret2
  exact ⟨rfl, _, rfl⟩

set_option maxHeartbeats 1000000 in
theorem impl_e_neg (s t b wh pt : ByteArray) (x y r : Int) (g : Bool) (w : World)
    (CS : ∀ w, Calls Tryd.prog 51 #[.string s, .string ⟨#[112, 120]⟩] w fun e w' => e = .returned (.tuple #[.string t, .bool true]) ∧ w' = w)
    (CP : ∀ w, Calls Tryd.prog 52 #[.string t, .string ⟨#[45]⟩] w fun e w' => e = .returned (.tuple #[.string b, .bool true]) ∧ w' = w)
    (CC : ∀ w, Calls Tryd.prog 53 #[.string b, .string ⟨#[46]⟩] w fun e w' => e = .returned (.tuple #[.string wh, .string pt, .bool false]) ∧ ∃ n, w' = w.drewN n)
    (D1 : ∀ w, Calls Tryd.prog 54 #[.string wh, .int .i64 5] w fun e w' => e = .returned (.bool true) ∧ w' = w)
    (V : ∀ w, Calls Tryd.prog 55 #[.string wh] w fun e w' => e = .returned (.int .i64 x) ∧ w' = w)
    (H : ∀ w, Calls Tryd.prog 56 #[.string pt] w fun e w' => e = .returned (.int .i64 y) ∧ w' = w)
    (bx : 0 ≤ x ∧ x ≤ 99999) (by' : 0 ≤ y ∧ y ≤ 99)
    (T : ∀ w, Calls Tryd.prog 57 #[.int .i64 (-(x * 64 + y * 64 / 100))] w fun e w' => e = .returned (.tuple #[.int .i64 r, .bool g]) ∧ w' = w) :
    Calls Tryd.prog 21 #[.string s] w fun e w' => e = .returned (.tuple #[.int .i64 r, .bool g]) ∧ ∃ n, w' = w.drewN n := by
  go_enter Tryd.func21, Tryd.ntmps21
  go_wp2_with (first | (go_at_call 51; refine (CS _).mono ?_; rintro e w' ⟨rfl, rfl⟩) | (go_at_call 52; refine (CP _).mono ?_; rintro e w' ⟨rfl, rfl⟩) | (go_at_call 53; refine (CC _).mono ?_; rintro e w' ⟨rfl, nd, rfl⟩) | (go_at_call 54; refine (D1 _).mono ?_; rintro e w' ⟨rfl, rfl⟩) | (go_at_call 55; refine (V _).mono ?_; rintro e w' ⟨rfl, rfl⟩) | (go_at_call 56; refine (H _).mono ?_; rintro e w' ⟨rfl, rfl⟩) | (go_at_call 57; refine (T _).mono ?_; rintro e w' ⟨rfl, rfl⟩))
  go_ret2
  exact ⟨rfl, _, rfl⟩

set_option maxHeartbeats 1000000 in
theorem impl_e_pos (s t b wh pt : ByteArray) (x y r : Int) (g : Bool) (w : World)
    (CS : ∀ w, Calls Tryd.prog 51 #[.string s, .string ⟨#[112, 120]⟩] w fun e w' => e = .returned (.tuple #[.string t, .bool true]) ∧ w' = w)
    (CP : ∀ w, Calls Tryd.prog 52 #[.string t, .string ⟨#[45]⟩] w fun e w' => e = .returned (.tuple #[.string b, .bool false]) ∧ w' = w)
    (CC : ∀ w, Calls Tryd.prog 53 #[.string b, .string ⟨#[46]⟩] w fun e w' => e = .returned (.tuple #[.string wh, .string pt, .bool false]) ∧ ∃ n, w' = w.drewN n)
    (D1 : ∀ w, Calls Tryd.prog 54 #[.string wh, .int .i64 5] w fun e w' => e = .returned (.bool true) ∧ w' = w)
    (V : ∀ w, Calls Tryd.prog 55 #[.string wh] w fun e w' => e = .returned (.int .i64 x) ∧ w' = w)
    (H : ∀ w, Calls Tryd.prog 56 #[.string pt] w fun e w' => e = .returned (.int .i64 y) ∧ w' = w)
    (bx : 0 ≤ x ∧ x ≤ 99999) (by' : 0 ≤ y ∧ y ≤ 99)
    (T : ∀ w, Calls Tryd.prog 57 #[.int .i64 (x * 64 + y * 64 / 100)] w fun e w' => e = .returned (.tuple #[.int .i64 r, .bool g]) ∧ w' = w) :
    Calls Tryd.prog 21 #[.string s] w fun e w' => e = .returned (.tuple #[.int .i64 r, .bool g]) ∧ ∃ n, w' = w.drewN n := by
  go_enter Tryd.func21, Tryd.ntmps21
  go_wp2_with (first | (go_at_call 51; refine (CS _).mono ?_; rintro e w' ⟨rfl, rfl⟩) | (go_at_call 52; refine (CP _).mono ?_; rintro e w' ⟨rfl, rfl⟩) | (go_at_call 53; refine (CC _).mono ?_; rintro e w' ⟨rfl, nd, rfl⟩) | (go_at_call 54; refine (D1 _).mono ?_; rintro e w' ⟨rfl, rfl⟩) | (go_at_call 55; refine (V _).mono ?_; rintro e w' ⟨rfl, rfl⟩) | (go_at_call 56; refine (H _).mono ?_; rintro e w' ⟨rfl, rfl⟩) | (go_at_call 57; refine (T _).mono ?_; rintro e w' ⟨rfl, rfl⟩))
  go_ret2
  exact ⟨rfl, _, rfl⟩
end Go.Proofs.YtijondjiehoafaaDoor
