/-
  The program's ReadPixels, way by way, over what its callees answer.
-/
import Derived.Test.YtdgagjnkbmckoaaGreatDoorRead3
namespace Go.Proofs.YtdgagjnkbmckoaaGreatDoor
open Go.ChangeShapes Go.WideShapes Go.ChangeAt Go.RowKit

set_option maxHeartbeats 1000000 in
theorem impl_a (s t b wh pt : ByteArray) (below dot : Bool) (w : World)
    (CS : ∀ w, Calls Tryz.prog 70 #[.string s, .string ⟨#[112, 120]⟩] w fun e w' => e = .returned (.tuple #[.string t, .bool false]) ∧ w' = w)
    (CP : ∀ w, Calls Tryz.prog 34 #[.string t, .string ⟨#[45]⟩] w fun e w' => e = .returned (.tuple #[.string b, .bool below]) ∧ w' = w)
    (CC : ∀ w, Calls Tryz.prog 35 #[.string b, .string ⟨#[46]⟩] w fun e w' => e = .returned (.tuple #[.string wh, .string pt, .bool dot]) ∧ ∃ n, w' = w.drewN n) :
    Calls Tryz.prog 62 #[.string s] w fun e w' => e = .returned (.tuple #[.int .i64 0, .bool false]) ∧ ∃ n, w' = w.drewN n := by
  go_enter Tryz.func62, Tryz.ntmps62
  go_wp2_with (first | (go_at_call 70; refine (CS _).mono ?_; rintro e w' ⟨rfl, rfl⟩) | (go_at_call 34; refine (CP _).mono ?_; rintro e w' ⟨rfl, rfl⟩) | (go_at_call 35; refine (CC _).mono ?_; rintro e w' ⟨rfl, nd, rfl⟩))
  go_ret2
  exact ⟨rfl, _, rfl⟩

set_option maxHeartbeats 1000000 in
theorem impl_b (s t b wh pt : ByteArray) (below dot : Bool) (w : World)
    (CS : ∀ w, Calls Tryz.prog 70 #[.string s, .string ⟨#[112, 120]⟩] w fun e w' => e = .returned (.tuple #[.string t, .bool true]) ∧ w' = w)
    (CP : ∀ w, Calls Tryz.prog 34 #[.string t, .string ⟨#[45]⟩] w fun e w' => e = .returned (.tuple #[.string b, .bool below]) ∧ w' = w)
    (CC : ∀ w, Calls Tryz.prog 35 #[.string b, .string ⟨#[46]⟩] w fun e w' => e = .returned (.tuple #[.string wh, .string pt, .bool dot]) ∧ ∃ n, w' = w.drewN n)
    (D1 : ∀ w, Calls Tryz.prog 71 #[.string wh, .int .i64 5] w fun e w' => e = .returned (.bool false) ∧ w' = w) :
    Calls Tryz.prog 62 #[.string s] w fun e w' => e = .returned (.tuple #[.int .i64 0, .bool false]) ∧ ∃ n, w' = w.drewN n := by
  go_enter Tryz.func62, Tryz.ntmps62
  go_wp2_with (first | (go_at_call 70; refine (CS _).mono ?_; rintro e w' ⟨rfl, rfl⟩) | (go_at_call 34; refine (CP _).mono ?_; rintro e w' ⟨rfl, rfl⟩) | (go_at_call 35; refine (CC _).mono ?_; rintro e w' ⟨rfl, nd, rfl⟩) | (go_at_call 71; refine (D1 _).mono ?_; rintro e w' ⟨rfl, rfl⟩))
  go_ret2
  exact ⟨rfl, _, rfl⟩

set_option maxHeartbeats 1000000 in
theorem impl_c (s t b wh pt : ByteArray) (below : Bool) (w : World)
    (CS : ∀ w, Calls Tryz.prog 70 #[.string s, .string ⟨#[112, 120]⟩] w fun e w' => e = .returned (.tuple #[.string t, .bool true]) ∧ w' = w)
    (CP : ∀ w, Calls Tryz.prog 34 #[.string t, .string ⟨#[45]⟩] w fun e w' => e = .returned (.tuple #[.string b, .bool below]) ∧ w' = w)
    (CC : ∀ w, Calls Tryz.prog 35 #[.string b, .string ⟨#[46]⟩] w fun e w' => e = .returned (.tuple #[.string wh, .string pt, .bool true]) ∧ ∃ n, w' = w.drewN n)
    (D1 : ∀ w, Calls Tryz.prog 71 #[.string wh, .int .i64 5] w fun e w' => e = .returned (.bool true) ∧ w' = w)
    (D2 : ∀ w, Calls Tryz.prog 71 #[.string pt, .int .i64 2] w fun e w' => e = .returned (.bool false) ∧ w' = w) :
    Calls Tryz.prog 62 #[.string s] w fun e w' => e = .returned (.tuple #[.int .i64 0, .bool false]) ∧ ∃ n, w' = w.drewN n := by
  have tok1 : True := trivial
  go_enter Tryz.func62, Tryz.ntmps62
  go_wp2_with (first | (go_at_call 70; refine (CS _).mono ?_; rintro e w' ⟨rfl, rfl⟩) | (go_at_call 34; refine (CP _).mono ?_; rintro e w' ⟨rfl, rfl⟩) | (go_at_call 35; refine (CC _).mono ?_; rintro e w' ⟨rfl, nd, rfl⟩) | (go_at_call 71; have _t := tok1; refine (D1 _).mono ?_; rintro e w' ⟨rfl, rfl⟩; clear tok1) | (go_at_call 71; refine (D2 _).mono ?_; rintro e w' ⟨rfl, rfl⟩))
  go_ret2
  exact ⟨rfl, _, rfl⟩

set_option maxHeartbeats 1000000 in
theorem impl_d_neg (s t b wh pt : ByteArray) (x y r : Int) (g : Bool) (w : World)
    (CS : ∀ w, Calls Tryz.prog 70 #[.string s, .string ⟨#[112, 120]⟩] w fun e w' => e = .returned (.tuple #[.string t, .bool true]) ∧ w' = w)
    (CP : ∀ w, Calls Tryz.prog 34 #[.string t, .string ⟨#[45]⟩] w fun e w' => e = .returned (.tuple #[.string b, .bool true]) ∧ w' = w)
    (CC : ∀ w, Calls Tryz.prog 35 #[.string b, .string ⟨#[46]⟩] w fun e w' => e = .returned (.tuple #[.string wh, .string pt, .bool true]) ∧ ∃ n, w' = w.drewN n)
    (D1 : ∀ w, Calls Tryz.prog 71 #[.string wh, .int .i64 5] w fun e w' => e = .returned (.bool true) ∧ w' = w)
    (D2 : ∀ w, Calls Tryz.prog 71 #[.string pt, .int .i64 2] w fun e w' => e = .returned (.bool true) ∧ w' = w)
    (V : ∀ w, Calls Tryz.prog 72 #[.string wh] w fun e w' => e = .returned (.int .i64 x) ∧ w' = w)
    (H : ∀ w, Calls Tryz.prog 77 #[.string pt] w fun e w' => e = .returned (.int .i64 y) ∧ w' = w)
    (bx : 0 ≤ x ∧ x ≤ 99999) (by' : 0 ≤ y ∧ y ≤ 99)
    (T : ∀ w, Calls Tryz.prog 78 #[.int .i64 (-(x * 64 + y * 64 / 100))] w fun e w' => e = .returned (.tuple #[.int .i64 r, .bool g]) ∧ w' = w) :
    Calls Tryz.prog 62 #[.string s] w fun e w' => e = .returned (.tuple #[.int .i64 r, .bool g]) ∧ ∃ n, w' = w.drewN n := by
  have tok1 : True := trivial
  go_enter Tryz.func62, Tryz.ntmps62
  go_wp2_with (first | (go_at_call 70; refine (CS _).mono ?_; rintro e w' ⟨rfl, rfl⟩) | (go_at_call 34; refine (CP _).mono ?_; rintro e w' ⟨rfl, rfl⟩) | (go_at_call 35; refine (CC _).mono ?_; rintro e w' ⟨rfl, nd, rfl⟩) | (go_at_call 71; have _t := tok1; refine (D1 _).mono ?_; rintro e w' ⟨rfl, rfl⟩; clear tok1) | (go_at_call 71; refine (D2 _).mono ?_; rintro e w' ⟨rfl, rfl⟩) | (go_at_call 72; refine (V _).mono ?_; rintro e w' ⟨rfl, rfl⟩) | (go_at_call 77; refine (H _).mono ?_; rintro e w' ⟨rfl, rfl⟩) | (go_at_call 78; refine (T _).mono ?_; rintro e w' ⟨rfl, rfl⟩))
  go_ret2
  exact ⟨rfl, _, rfl⟩

set_option maxHeartbeats 1000000 in
theorem impl_d_pos (s t b wh pt : ByteArray) (x y r : Int) (g : Bool) (w : World)
    (CS : ∀ w, Calls Tryz.prog 70 #[.string s, .string ⟨#[112, 120]⟩] w fun e w' => e = .returned (.tuple #[.string t, .bool true]) ∧ w' = w)
    (CP : ∀ w, Calls Tryz.prog 34 #[.string t, .string ⟨#[45]⟩] w fun e w' => e = .returned (.tuple #[.string b, .bool false]) ∧ w' = w)
    (CC : ∀ w, Calls Tryz.prog 35 #[.string b, .string ⟨#[46]⟩] w fun e w' => e = .returned (.tuple #[.string wh, .string pt, .bool true]) ∧ ∃ n, w' = w.drewN n)
    (D1 : ∀ w, Calls Tryz.prog 71 #[.string wh, .int .i64 5] w fun e w' => e = .returned (.bool true) ∧ w' = w)
    (D2 : ∀ w, Calls Tryz.prog 71 #[.string pt, .int .i64 2] w fun e w' => e = .returned (.bool true) ∧ w' = w)
    (V : ∀ w, Calls Tryz.prog 72 #[.string wh] w fun e w' => e = .returned (.int .i64 x) ∧ w' = w)
    (H : ∀ w, Calls Tryz.prog 77 #[.string pt] w fun e w' => e = .returned (.int .i64 y) ∧ w' = w)
    (bx : 0 ≤ x ∧ x ≤ 99999) (by' : 0 ≤ y ∧ y ≤ 99)
    (T : ∀ w, Calls Tryz.prog 78 #[.int .i64 (x * 64 + y * 64 / 100)] w fun e w' => e = .returned (.tuple #[.int .i64 r, .bool g]) ∧ w' = w) :
    Calls Tryz.prog 62 #[.string s] w fun e w' => e = .returned (.tuple #[.int .i64 r, .bool g]) ∧ ∃ n, w' = w.drewN n := by
  have tok1 : True := trivial
  go_enter Tryz.func62, Tryz.ntmps62
  go_wp2_with (first | (go_at_call 70; refine (CS _).mono ?_; rintro e w' ⟨rfl, rfl⟩) | (go_at_call 34; refine (CP _).mono ?_; rintro e w' ⟨rfl, rfl⟩) | (go_at_call 35; refine (CC _).mono ?_; rintro e w' ⟨rfl, nd, rfl⟩) | (go_at_call 71; have _t := tok1; refine (D1 _).mono ?_; rintro e w' ⟨rfl, rfl⟩; clear tok1) | (go_at_call 71; refine (D2 _).mono ?_; rintro e w' ⟨rfl, rfl⟩) | (go_at_call 72; refine (V _).mono ?_; rintro e w' ⟨rfl, rfl⟩) | (go_at_call 77; refine (H _).mono ?_; rintro e w' ⟨rfl, rfl⟩) | (go_at_call 78; refine (T _).mono ?_; rintro e w' ⟨rfl, rfl⟩))
  go_ret2
  exact ⟨rfl, _, rfl⟩

set_option maxHeartbeats 1000000 in
theorem impl_e_neg (s t b wh pt : ByteArray) (x y r : Int) (g : Bool) (w : World)
    (CS : ∀ w, Calls Tryz.prog 70 #[.string s, .string ⟨#[112, 120]⟩] w fun e w' => e = .returned (.tuple #[.string t, .bool true]) ∧ w' = w)
    (CP : ∀ w, Calls Tryz.prog 34 #[.string t, .string ⟨#[45]⟩] w fun e w' => e = .returned (.tuple #[.string b, .bool true]) ∧ w' = w)
    (CC : ∀ w, Calls Tryz.prog 35 #[.string b, .string ⟨#[46]⟩] w fun e w' => e = .returned (.tuple #[.string wh, .string pt, .bool false]) ∧ ∃ n, w' = w.drewN n)
    (D1 : ∀ w, Calls Tryz.prog 71 #[.string wh, .int .i64 5] w fun e w' => e = .returned (.bool true) ∧ w' = w)
    (V : ∀ w, Calls Tryz.prog 72 #[.string wh] w fun e w' => e = .returned (.int .i64 x) ∧ w' = w)
    (H : ∀ w, Calls Tryz.prog 77 #[.string pt] w fun e w' => e = .returned (.int .i64 y) ∧ w' = w)
    (bx : 0 ≤ x ∧ x ≤ 99999) (by' : 0 ≤ y ∧ y ≤ 99)
    (T : ∀ w, Calls Tryz.prog 78 #[.int .i64 (-(x * 64 + y * 64 / 100))] w fun e w' => e = .returned (.tuple #[.int .i64 r, .bool g]) ∧ w' = w) :
    Calls Tryz.prog 62 #[.string s] w fun e w' => e = .returned (.tuple #[.int .i64 r, .bool g]) ∧ ∃ n, w' = w.drewN n := by
  go_enter Tryz.func62, Tryz.ntmps62
  go_wp2_with (first | (go_at_call 70; refine (CS _).mono ?_; rintro e w' ⟨rfl, rfl⟩) | (go_at_call 34; refine (CP _).mono ?_; rintro e w' ⟨rfl, rfl⟩) | (go_at_call 35; refine (CC _).mono ?_; rintro e w' ⟨rfl, nd, rfl⟩) | (go_at_call 71; refine (D1 _).mono ?_; rintro e w' ⟨rfl, rfl⟩) | (go_at_call 72; refine (V _).mono ?_; rintro e w' ⟨rfl, rfl⟩) | (go_at_call 77; refine (H _).mono ?_; rintro e w' ⟨rfl, rfl⟩) | (go_at_call 78; refine (T _).mono ?_; rintro e w' ⟨rfl, rfl⟩))
  go_ret2
  exact ⟨rfl, _, rfl⟩

set_option maxHeartbeats 1000000 in
theorem impl_e_pos (s t b wh pt : ByteArray) (x y r : Int) (g : Bool) (w : World)
    (CS : ∀ w, Calls Tryz.prog 70 #[.string s, .string ⟨#[112, 120]⟩] w fun e w' => e = .returned (.tuple #[.string t, .bool true]) ∧ w' = w)
    (CP : ∀ w, Calls Tryz.prog 34 #[.string t, .string ⟨#[45]⟩] w fun e w' => e = .returned (.tuple #[.string b, .bool false]) ∧ w' = w)
    (CC : ∀ w, Calls Tryz.prog 35 #[.string b, .string ⟨#[46]⟩] w fun e w' => e = .returned (.tuple #[.string wh, .string pt, .bool false]) ∧ ∃ n, w' = w.drewN n)
    (D1 : ∀ w, Calls Tryz.prog 71 #[.string wh, .int .i64 5] w fun e w' => e = .returned (.bool true) ∧ w' = w)
    (V : ∀ w, Calls Tryz.prog 72 #[.string wh] w fun e w' => e = .returned (.int .i64 x) ∧ w' = w)
    (H : ∀ w, Calls Tryz.prog 77 #[.string pt] w fun e w' => e = .returned (.int .i64 y) ∧ w' = w)
    (bx : 0 ≤ x ∧ x ≤ 99999) (by' : 0 ≤ y ∧ y ≤ 99)
    (T : ∀ w, Calls Tryz.prog 78 #[.int .i64 (x * 64 + y * 64 / 100)] w fun e w' => e = .returned (.tuple #[.int .i64 r, .bool g]) ∧ w' = w) :
    Calls Tryz.prog 62 #[.string s] w fun e w' => e = .returned (.tuple #[.int .i64 r, .bool g]) ∧ ∃ n, w' = w.drewN n := by
  go_enter Tryz.func62, Tryz.ntmps62
  go_wp2_with (first | (go_at_call 70; refine (CS _).mono ?_; rintro e w' ⟨rfl, rfl⟩) | (go_at_call 34; refine (CP _).mono ?_; rintro e w' ⟨rfl, rfl⟩) | (go_at_call 35; refine (CC _).mono ?_; rintro e w' ⟨rfl, nd, rfl⟩) | (go_at_call 71; refine (D1 _).mono ?_; rintro e w' ⟨rfl, rfl⟩) | (go_at_call 72; refine (V _).mono ?_; rintro e w' ⟨rfl, rfl⟩) | (go_at_call 77; refine (H _).mono ?_; rintro e w' ⟨rfl, rfl⟩) | (go_at_call 78; refine (T _).mono ?_; rintro e w' ⟨rfl, rfl⟩))
  go_ret2
  exact ⟨rfl, _, rfl⟩
end Go.Proofs.YtdgagjnkbmckoaaGreatDoor
