/-
  The model of ReadPixels answers readN and readB of the text, for every string of at most 1048576 bytes.
  The model of ReadPixels, way by way, over what its reader of hundredths answers.
  The program's ReadPixels, way by way, over what its callees answer.
  The program's ReadPixels answers readN and readB of the text, for every string of at most 1048576 bytes.
  The model of ReadPixels answers readN and readB of the text, for every string of at most 1048576 bytes.
-/
import Derived.Test.YtddnphgpdnedbaaGreatDoorMRe
namespace Go.Proofs.YtddnphgpdnedbaaGreatDoor
open Go.ChangeShapes Go.WideShapes Go.ChangeAt Go.RowKit
set_option linter.unusedVariables false
theorem l1D_yes (s : ByteArray) (m : Int) (w : World) (hs : s.size ≤ 1048576) (h : digsB s m = true) :
    Calls Tryz.prog 65 #[.string s] w fun e w' => e = .returned (.bool true) ∧ w' = w := by
  have e : (digB s && decide (0 < s.size)) = true := by
    unfold digsB at h
    simp only [Bool.and_eq_true, decide_eq_true_eq] at h
    simp only [Bool.and_eq_true, decide_eq_true_eq]
    exact ⟨h.2, by omega⟩
  have := l1Digits_any s w hs
  rwa [e] at this
theorem l1D_no (s : ByteArray) (m : Int) (w : World) (hs : s.size ≤ 1048576) (h : digsB s m = false) (hm : (s.size : Int) ≤ m) :
    Calls Tryz.prog 65 #[.string s] w fun e w' => e = .returned (.bool false) ∧ w' = w := by
  have e : (digB s && decide (0 < s.size)) = false := by
    unfold digsB at h
    simp only [hm, decide_true, Bool.and_true] at h
    cases hd : digB s with
    | false => rfl
    | true =>
      rw [hd] at h
      simp only [Bool.and_true] at h
      have : ¬ 1 ≤ s.size := by simpa using h
      have e0 : s.size = 0 := by omega
      simp [e0]
  have := l1Digits_any s w hs
  rwa [e] at this
theorem neg_first (t : ByteArray) (h : 1 ≤ t.size) : negB t = (((t[0].toNat : Nat) : Int) == 45) := by
  have e : (t.extract 0 1).toList = [t[0]] := by
    rw [Lib.toList_data, ByteArray.data_extract, Array.toList_extract]
    have := take_byte t 0 (by omega)
    simpa using this
  unfold negB
  rw [e]
  simp only [h, decide_true, Bool.true_and]
  rw [Bool.eq_iff_iff]
  simp only [beq_iff_eq, List.cons.injEq, and_true]
  constructor
  · intro k; rw [k]; rfl
  · intro k; exact UInt8.toNat_inj.1 (by have : t[0].toNat = 45 := by omega
                                         rw [this]; rfl)
theorem neg_empty (t : ByteArray) (h : ¬ 1 ≤ t.size) : negB t = false := by simp [negB, h]

set_option maxHeartbeats 1000000 in
theorem hu_neg_a (t wh pt : ByteArray) (dot : Bool) (w : World) (hs : t.size ≤ 1048576) (h1 : 1 ≤ t.size) (hn : (((t[0].toNat : Nat) : Int) == 45) = true) (hw : 5 < wh.size) (hb1 : wh.size ≤ 1048576) (hb2 : pt.size ≤ 1048576)
    (CC : ∀ w, Calls Tryz.prog 9 #[.string (t.extract 1 t.size), .int .u8 46] w fun e w' => e = .returned (.tuple #[.string wh, .string pt, .bool dot]) ∧ ∃ n, w' = w.drewN n) :
    Calls Tryz.prog 37 #[.string t] w fun e w' => e = .returned (.tuple #[.int .i64 0, .bool false]) ∧ ∃ n, w' = w.drewN n := by
  go_enter Tryz.func37, Tryz.ntmps37
  go_wp2_with (first | (go_at_call 9; refine (CC _).mono ?_; rintro e w' ⟨rfl, nd, rfl⟩))
  go_ret2
  exact ⟨rfl, _, rfl⟩

set_option maxHeartbeats 1000000 in
theorem hu_neg_b (t wh pt : ByteArray) (dot : Bool) (w : World) (hs : t.size ≤ 1048576) (h1 : 1 ≤ t.size) (hn : (((t[0].toNat : Nat) : Int) == 45) = true) (hw : wh.size ≤ 5) (hb1 : wh.size ≤ 1048576) (hb2 : pt.size ≤ 1048576)
    (CC : ∀ w, Calls Tryz.prog 9 #[.string (t.extract 1 t.size), .int .u8 46] w fun e w' => e = .returned (.tuple #[.string wh, .string pt, .bool dot]) ∧ ∃ n, w' = w.drewN n)
    (D1 : ∀ w, Calls Tryz.prog 65 #[.string wh] w fun e w' => e = .returned (.bool false) ∧ w' = w) :
    Calls Tryz.prog 37 #[.string t] w fun e w' => e = .returned (.tuple #[.int .i64 0, .bool false]) ∧ ∃ n, w' = w.drewN n := by
  have tok1 : True := trivial
  go_enter Tryz.func37, Tryz.ntmps37
  go_wp2_with (first | (go_at_call 9; refine (CC _).mono ?_; rintro e w' ⟨rfl, nd, rfl⟩) | (go_at_call 65; have _t := tok1; refine (D1 _).mono ?_; rintro e w' ⟨rfl, rfl⟩; clear tok1))
  go_ret2
  exact ⟨rfl, _, rfl⟩

set_option maxHeartbeats 1000000 in
theorem hu_neg_c (t wh pt : ByteArray) (w : World) (hs : t.size ≤ 1048576) (h1 : 1 ≤ t.size) (hn : (((t[0].toNat : Nat) : Int) == 45) = true) (hw : wh.size ≤ 5) (hp : 2 < pt.size) (hb1 : wh.size ≤ 1048576) (hb2 : pt.size ≤ 1048576)
    (CC : ∀ w, Calls Tryz.prog 9 #[.string (t.extract 1 t.size), .int .u8 46] w fun e w' => e = .returned (.tuple #[.string wh, .string pt, .bool true]) ∧ ∃ n, w' = w.drewN n)
    (D1 : ∀ w, Calls Tryz.prog 65 #[.string wh] w fun e w' => e = .returned (.bool true) ∧ w' = w) :
    Calls Tryz.prog 37 #[.string t] w fun e w' => e = .returned (.tuple #[.int .i64 0, .bool false]) ∧ ∃ n, w' = w.drewN n := by
  have tok1 : True := trivial
  go_enter Tryz.func37, Tryz.ntmps37
  go_wp2_with (first | (go_at_call 9; refine (CC _).mono ?_; rintro e w' ⟨rfl, nd, rfl⟩) | (go_at_call 65; have _t := tok1; refine (D1 _).mono ?_; rintro e w' ⟨rfl, rfl⟩; clear tok1))
  go_ret2
  exact ⟨rfl, _, rfl⟩

set_option maxHeartbeats 1000000 in
theorem hu_neg_d (t wh pt : ByteArray) (w : World) (hs : t.size ≤ 1048576) (h1 : 1 ≤ t.size) (hn : (((t[0].toNat : Nat) : Int) == 45) = true) (hw : wh.size ≤ 5) (hp : pt.size ≤ 2) (hb1 : wh.size ≤ 1048576) (hb2 : pt.size ≤ 1048576)
    (CC : ∀ w, Calls Tryz.prog 9 #[.string (t.extract 1 t.size), .int .u8 46] w fun e w' => e = .returned (.tuple #[.string wh, .string pt, .bool true]) ∧ ∃ n, w' = w.drewN n)
    (D1 : ∀ w, Calls Tryz.prog 65 #[.string wh] w fun e w' => e = .returned (.bool true) ∧ w' = w)
    (D2 : ∀ w, Calls Tryz.prog 65 #[.string pt] w fun e w' => e = .returned (.bool false) ∧ w' = w) :
    Calls Tryz.prog 37 #[.string t] w fun e w' => e = .returned (.tuple #[.int .i64 0, .bool false]) ∧ ∃ n, w' = w.drewN n := by
  have tok1 : True := trivial
  go_enter Tryz.func37, Tryz.ntmps37
  go_wp2_with (first | (go_at_call 9; refine (CC _).mono ?_; rintro e w' ⟨rfl, nd, rfl⟩) | (go_at_call 65; have _t := tok1; refine (D1 _).mono ?_; rintro e w' ⟨rfl, rfl⟩; clear tok1) | (go_at_call 65; refine (D2 _).mono ?_; rintro e w' ⟨rfl, rfl⟩))
  go_ret2
  exact ⟨rfl, _, rfl⟩

set_option maxHeartbeats 1000000 in
theorem hu_neg_e (t wh pt : ByteArray) (x y : Int) (w : World) (hs : t.size ≤ 1048576) (h1 : 1 ≤ t.size) (hn : (((t[0].toNat : Nat) : Int) == 45) = true) (hw : wh.size ≤ 5) (hp : pt.size = 1)
    (CC : ∀ w, Calls Tryz.prog 9 #[.string (t.extract 1 t.size), .int .u8 46] w fun e w' => e = .returned (.tuple #[.string wh, .string pt, .bool true]) ∧ ∃ n, w' = w.drewN n)
    (D1 : ∀ w, Calls Tryz.prog 65 #[.string wh] w fun e w' => e = .returned (.bool true) ∧ w' = w)
    (D2 : ∀ w, Calls Tryz.prog 65 #[.string pt] w fun e w' => e = .returned (.bool true) ∧ w' = w)
    (R1 : ∀ w, Calls Tryz.prog 66 #[.string wh] w fun e w' => e = .returned (.int .i64 x) ∧ w' = w)
    (R2 : ∀ w, Calls Tryz.prog 66 #[.string (pt ++ ⟨#[48]⟩)] w fun e w' => e = .returned (.int .i64 y) ∧ w' = w)
    (bx : 0 ≤ x ∧ x ≤ 99999) (by' : 0 ≤ y ∧ y ≤ 99) :
    Calls Tryz.prog 37 #[.string t] w fun e w' => e = .returned (.tuple #[.int .i64 (-(100 * x + y)), .bool true]) ∧ ∃ n, w' = w.drewN n := by
  have tok1 : True := trivial
  have tok2 : True := trivial
  go_enter Tryz.func37, Tryz.ntmps37
  go_wp2_with (first | (go_at_call 9; refine (CC _).mono ?_; rintro e w' ⟨rfl, nd, rfl⟩) | (go_at_call 65; have _t := tok1; refine (D1 _).mono ?_; rintro e w' ⟨rfl, rfl⟩; clear tok1) | (go_at_call 65; refine (D2 _).mono ?_; rintro e w' ⟨rfl, rfl⟩) | (go_at_call 66; have _t := tok2; refine (R1 _).mono ?_; rintro e w' ⟨rfl, rfl⟩; clear tok2) | (go_at_call 66; refine (R2 _).mono ?_; rintro e w' ⟨rfl, rfl⟩))
  go_ret2
  exact ⟨rfl, _, rfl⟩

set_option maxHeartbeats 1000000 in
theorem hu_neg_f (t wh pt : ByteArray) (x y : Int) (w : World) (hs : t.size ≤ 1048576) (h1 : 1 ≤ t.size) (hn : (((t[0].toNat : Nat) : Int) == 45) = true) (hw : wh.size ≤ 5) (hp : pt.size ≤ 2) (hp1 : ((pt.size : Int) == 1) = false)
    (CC : ∀ w, Calls Tryz.prog 9 #[.string (t.extract 1 t.size), .int .u8 46] w fun e w' => e = .returned (.tuple #[.string wh, .string pt, .bool true]) ∧ ∃ n, w' = w.drewN n)
    (D1 : ∀ w, Calls Tryz.prog 65 #[.string wh] w fun e w' => e = .returned (.bool true) ∧ w' = w)
    (D2 : ∀ w, Calls Tryz.prog 65 #[.string pt] w fun e w' => e = .returned (.bool true) ∧ w' = w)
    (R1 : ∀ w, Calls Tryz.prog 66 #[.string wh] w fun e w' => e = .returned (.int .i64 x) ∧ w' = w)
    (R2 : ∀ w, Calls Tryz.prog 66 #[.string pt] w fun e w' => e = .returned (.int .i64 y) ∧ w' = w)
    (bx : 0 ≤ x ∧ x ≤ 99999) (by' : 0 ≤ y ∧ y ≤ 99) :
    Calls Tryz.prog 37 #[.string t] w fun e w' => e = .returned (.tuple #[.int .i64 (-(100 * x + y)), .bool true]) ∧ ∃ n, w' = w.drewN n := by
  have tok1 : True := trivial
  have tok2 : True := trivial
  go_enter Tryz.func37, Tryz.ntmps37
  go_wp2_with (first | (go_at_call 9; refine (CC _).mono ?_; rintro e w' ⟨rfl, nd, rfl⟩) | (go_at_call 65; have _t := tok1; refine (D1 _).mono ?_; rintro e w' ⟨rfl, rfl⟩; clear tok1) | (go_at_call 65; refine (D2 _).mono ?_; rintro e w' ⟨rfl, rfl⟩) | (go_at_call 66; have _t := tok2; refine (R1 _).mono ?_; rintro e w' ⟨rfl, rfl⟩; clear tok2) | (go_at_call 66; refine (R2 _).mono ?_; rintro e w' ⟨rfl, rfl⟩))
  go_ret2
  exact ⟨rfl, _, rfl⟩

set_option maxHeartbeats 1000000 in
theorem hu_neg_g (t wh pt : ByteArray) (x y : Int) (w : World) (hs : t.size ≤ 1048576) (h1 : 1 ≤ t.size) (hn : (((t[0].toNat : Nat) : Int) == 45) = true) (hw : wh.size ≤ 5) (hp1 : ((pt.size : Int) == 1) = false) (hb2 : pt.size ≤ 1048576)
    (CC : ∀ w, Calls Tryz.prog 9 #[.string (t.extract 1 t.size), .int .u8 46] w fun e w' => e = .returned (.tuple #[.string wh, .string pt, .bool false]) ∧ ∃ n, w' = w.drewN n)
    (D1 : ∀ w, Calls Tryz.prog 65 #[.string wh] w fun e w' => e = .returned (.bool true) ∧ w' = w)
    (R1 : ∀ w, Calls Tryz.prog 66 #[.string wh] w fun e w' => e = .returned (.int .i64 x) ∧ w' = w)
    (R2 : ∀ w, Calls Tryz.prog 66 #[.string pt] w fun e w' => e = .returned (.int .i64 y) ∧ w' = w)
    (bx : 0 ≤ x ∧ x ≤ 99999) (by' : 0 ≤ y ∧ y ≤ 99) :
    Calls Tryz.prog 37 #[.string t] w fun e w' => e = .returned (.tuple #[.int .i64 (-(100 * x + y)), .bool true]) ∧ ∃ n, w' = w.drewN n := by
  have tok1 : True := trivial
  have tok2 : True := trivial
  go_enter Tryz.func37, Tryz.ntmps37
  go_wp2_with (first | (go_at_call 9; refine (CC _).mono ?_; rintro e w' ⟨rfl, nd, rfl⟩) | (go_at_call 65; have _t := tok1; refine (D1 _).mono ?_; rintro e w' ⟨rfl, rfl⟩; clear tok1) | (go_at_call 66; have _t := tok2; refine (R1 _).mono ?_; rintro e w' ⟨rfl, rfl⟩; clear tok2) | (go_at_call 66; refine (R2 _).mono ?_; rintro e w' ⟨rfl, rfl⟩))
  go_ret2
  exact ⟨rfl, _, rfl⟩

set_option maxHeartbeats 1000000 in
theorem hu_pos_a (t wh pt : ByteArray) (dot : Bool) (w : World) (hs : t.size ≤ 1048576) (h1 : 1 ≤ t.size) (hn : (((t[0].toNat : Nat) : Int) == 45) = false) (hw : 5 < wh.size) (hb1 : wh.size ≤ 1048576) (hb2 : pt.size ≤ 1048576)
    (CC : ∀ w, Calls Tryz.prog 9 #[.string t, .int .u8 46] w fun e w' => e = .returned (.tuple #[.string wh, .string pt, .bool dot]) ∧ ∃ n, w' = w.drewN n) :
    Calls Tryz.prog 37 #[.string t] w fun e w' => e = .returned (.tuple #[.int .i64 0, .bool false]) ∧ ∃ n, w' = w.drewN n := by
  go_enter Tryz.func37, Tryz.ntmps37
  go_wp2_with (first | (go_at_call 9; refine (CC _).mono ?_; rintro e w' ⟨rfl, nd, rfl⟩))
  go_ret2
  exact ⟨rfl, _, rfl⟩

set_option maxHeartbeats 1000000 in
theorem hu_pos_b (t wh pt : ByteArray) (dot : Bool) (w : World) (hs : t.size ≤ 1048576) (h1 : 1 ≤ t.size) (hn : (((t[0].toNat : Nat) : Int) == 45) = false) (hw : wh.size ≤ 5) (hb1 : wh.size ≤ 1048576) (hb2 : pt.size ≤ 1048576)
    (CC : ∀ w, Calls Tryz.prog 9 #[.string t, .int .u8 46] w fun e w' => e = .returned (.tuple #[.string wh, .string pt, .bool dot]) ∧ ∃ n, w' = w.drewN n)
    (D1 : ∀ w, Calls Tryz.prog 65 #[.string wh] w fun e w' => e = .returned (.bool false) ∧ w' = w) :
    Calls Tryz.prog 37 #[.string t] w fun e w' => e = .returned (.tuple #[.int .i64 0, .bool false]) ∧ ∃ n, w' = w.drewN n := by
  have tok1 : True := trivial
  go_enter Tryz.func37, Tryz.ntmps37
  go_wp2_with (first | (go_at_call 9; refine (CC _).mono ?_; rintro e w' ⟨rfl, nd, rfl⟩) | (go_at_call 65; have _t := tok1; refine (D1 _).mono ?_; rintro e w' ⟨rfl, rfl⟩; clear tok1))
  go_ret2
  exact ⟨rfl, _, rfl⟩

set_option maxHeartbeats 1000000 in
theorem hu_pos_c (t wh pt : ByteArray) (w : World) (hs : t.size ≤ 1048576) (h1 : 1 ≤ t.size) (hn : (((t[0].toNat : Nat) : Int) == 45) = false) (hw : wh.size ≤ 5) (hp : 2 < pt.size) (hb1 : wh.size ≤ 1048576) (hb2 : pt.size ≤ 1048576)
    (CC : ∀ w, Calls Tryz.prog 9 #[.string t, .int .u8 46] w fun e w' => e = .returned (.tuple #[.string wh, .string pt, .bool true]) ∧ ∃ n, w' = w.drewN n)
    (D1 : ∀ w, Calls Tryz.prog 65 #[.string wh] w fun e w' => e = .returned (.bool true) ∧ w' = w) :
    Calls Tryz.prog 37 #[.string t] w fun e w' => e = .returned (.tuple #[.int .i64 0, .bool false]) ∧ ∃ n, w' = w.drewN n := by
  have tok1 : True := trivial
  go_enter Tryz.func37, Tryz.ntmps37
  go_wp2_with (first | (go_at_call 9; refine (CC _).mono ?_; rintro e w' ⟨rfl, nd, rfl⟩) | (go_at_call 65; have _t := tok1; refine (D1 _).mono ?_; rintro e w' ⟨rfl, rfl⟩; clear tok1))
  go_ret2
  exact ⟨rfl, _, rfl⟩

set_option maxHeartbeats 1000000 in
theorem hu_pos_d (t wh pt : ByteArray) (w : World) (hs : t.size ≤ 1048576) (h1 : 1 ≤ t.size) (hn : (((t[0].toNat : Nat) : Int) == 45) = false) (hw : wh.size ≤ 5) (hp : pt.size ≤ 2) (hb1 : wh.size ≤ 1048576) (hb2 : pt.size ≤ 1048576)
    (CC : ∀ w, Calls Tryz.prog 9 #[.string t, .int .u8 46] w fun e w' => e = .returned (.tuple #[.string wh, .string pt, .bool true]) ∧ ∃ n, w' = w.drewN n)
    (D1 : ∀ w, Calls Tryz.prog 65 #[.string wh] w fun e w' => e = .returned (.bool true) ∧ w' = w)
    (D2 : ∀ w, Calls Tryz.prog 65 #[.string pt] w fun e w' => e = .returned (.bool false) ∧ w' = w) :
    Calls Tryz.prog 37 #[.string t] w fun e w' => e = .returned (.tuple #[.int .i64 0, .bool false]) ∧ ∃ n, w' = w.drewN n := by
  have tok1 : True := trivial
  go_enter Tryz.func37, Tryz.ntmps37
  go_wp2_with (first | (go_at_call 9; refine (CC _).mono ?_; rintro e w' ⟨rfl, nd, rfl⟩) | (go_at_call 65; have _t := tok1; refine (D1 _).mono ?_; rintro e w' ⟨rfl, rfl⟩; clear tok1) | (go_at_call 65; refine (D2 _).mono ?_; rintro e w' ⟨rfl, rfl⟩))
  go_ret2
  exact ⟨rfl, _, rfl⟩

set_option maxHeartbeats 1000000 in
theorem hu_pos_e (t wh pt : ByteArray) (x y : Int) (w : World) (hs : t.size ≤ 1048576) (h1 : 1 ≤ t.size) (hn : (((t[0].toNat : Nat) : Int) == 45) = false) (hw : wh.size ≤ 5) (hp : pt.size = 1)
    (CC : ∀ w, Calls Tryz.prog 9 #[.string t, .int .u8 46] w fun e w' => e = .returned (.tuple #[.string wh, .string pt, .bool true]) ∧ ∃ n, w' = w.drewN n)
    (D1 : ∀ w, Calls Tryz.prog 65 #[.string wh] w fun e w' => e = .returned (.bool true) ∧ w' = w)
    (D2 : ∀ w, Calls Tryz.prog 65 #[.string pt] w fun e w' => e = .returned (.bool true) ∧ w' = w)
    (R1 : ∀ w, Calls Tryz.prog 66 #[.string wh] w fun e w' => e = .returned (.int .i64 x) ∧ w' = w)
    (R2 : ∀ w, Calls Tryz.prog 66 #[.string (pt ++ ⟨#[48]⟩)] w fun e w' => e = .returned (.int .i64 y) ∧ w' = w)
    (bx : 0 ≤ x ∧ x ≤ 99999) (by' : 0 ≤ y ∧ y ≤ 99) :
    Calls Tryz.prog 37 #[.string t] w fun e w' => e = .returned (.tuple #[.int .i64 (100 * x + y), .bool true]) ∧ ∃ n, w' = w.drewN n := by
  have tok1 : True := trivial
  have tok2 : True := trivial
  go_enter Tryz.func37, Tryz.ntmps37
  go_wp2_with (first | (go_at_call 9; refine (CC _).mono ?_; rintro e w' ⟨rfl, nd, rfl⟩) | (go_at_call 65; have _t := tok1; refine (D1 _).mono ?_; rintro e w' ⟨rfl, rfl⟩; clear tok1) | (go_at_call 65; refine (D2 _).mono ?_; rintro e w' ⟨rfl, rfl⟩) | (go_at_call 66; have _t := tok2; refine (R1 _).mono ?_; rintro e w' ⟨rfl, rfl⟩; clear tok2) | (go_at_call 66; refine (R2 _).mono ?_; rintro e w' ⟨rfl, rfl⟩))
  go_ret2
  exact ⟨rfl, _, rfl⟩

set_option maxHeartbeats 1000000 in
theorem hu_pos_f (t wh pt : ByteArray) (x y : Int) (w : World) (hs : t.size ≤ 1048576) (h1 : 1 ≤ t.size) (hn : (((t[0].toNat : Nat) : Int) == 45) = false) (hw : wh.size ≤ 5) (hp : pt.size ≤ 2) (hp1 : ((pt.size : Int) == 1) = false)
    (CC : ∀ w, Calls Tryz.prog 9 #[.string t, .int .u8 46] w fun e w' => e = .returned (.tuple #[.string wh, .string pt, .bool true]) ∧ ∃ n, w' = w.drewN n)
    (D1 : ∀ w, Calls Tryz.prog 65 #[.string wh] w fun e w' => e = .returned (.bool true) ∧ w' = w)
    (D2 : ∀ w, Calls Tryz.prog 65 #[.string pt] w fun e w' => e = .returned (.bool true) ∧ w' = w)
    (R1 : ∀ w, Calls Tryz.prog 66 #[.string wh] w fun e w' => e = .returned (.int .i64 x) ∧ w' = w)
    (R2 : ∀ w, Calls Tryz.prog 66 #[.string pt] w fun e w' => e = .returned (.int .i64 y) ∧ w' = w)
    (bx : 0 ≤ x ∧ x ≤ 99999) (by' : 0 ≤ y ∧ y ≤ 99) :
    Calls Tryz.prog 37 #[.string t] w fun e w' => e = .returned (.tuple #[.int .i64 (100 * x + y), .bool true]) ∧ ∃ n, w' = w.drewN n := by
  have tok1 : True := trivial
  have tok2 : True := trivial
  go_enter Tryz.func37, Tryz.ntmps37
  go_wp2_with (first | (go_at_call 9; refine (CC _).mono ?_; rintro e w' ⟨rfl, nd, rfl⟩) | (go_at_call 65; have _t := tok1; refine (D1 _).mono ?_; rintro e w' ⟨rfl, rfl⟩; clear tok1) | (go_at_call 65; refine (D2 _).mono ?_; rintro e w' ⟨rfl, rfl⟩) | (go_at_call 66; have _t := tok2; refine (R1 _).mono ?_; rintro e w' ⟨rfl, rfl⟩; clear tok2) | (go_at_call 66; refine (R2 _).mono ?_; rintro e w' ⟨rfl, rfl⟩))
  go_ret2
  exact ⟨rfl, _, rfl⟩

set_option maxHeartbeats 1000000 in
theorem hu_pos_g (t wh pt : ByteArray) (x y : Int) (w : World) (hs : t.size ≤ 1048576) (h1 : 1 ≤ t.size) (hn : (((t[0].toNat : Nat) : Int) == 45) = false) (hw : wh.size ≤ 5) (hp1 : ((pt.size : Int) == 1) = false) (hb2 : pt.size ≤ 1048576)
    (CC : ∀ w, Calls Tryz.prog 9 #[.string t, .int .u8 46] w fun e w' => e = .returned (.tuple #[.string wh, .string pt, .bool false]) ∧ ∃ n, w' = w.drewN n)
    (D1 : ∀ w, Calls Tryz.prog 65 #[.string wh] w fun e w' => e = .returned (.bool true) ∧ w' = w)
    (R1 : ∀ w, Calls Tryz.prog 66 #[.string wh] w fun e w' => e = .returned (.int .i64 x) ∧ w' = w)
    (R2 : ∀ w, Calls Tryz.prog 66 #[.string pt] w fun e w' => e = .returned (.int .i64 y) ∧ w' = w)
    (bx : 0 ≤ x ∧ x ≤ 99999) (by' : 0 ≤ y ∧ y ≤ 99) :
    Calls Tryz.prog 37 #[.string t] w fun e w' => e = .returned (.tuple #[.int .i64 (100 * x + y), .bool true]) ∧ ∃ n, w' = w.drewN n := by
  have tok1 : True := trivial
  have tok2 : True := trivial
  go_enter Tryz.func37, Tryz.ntmps37
  go_wp2_with (first | (go_at_call 9; refine (CC _).mono ?_; rintro e w' ⟨rfl, nd, rfl⟩) | (go_at_call 65; have _t := tok1; refine (D1 _).mono ?_; rintro e w' ⟨rfl, rfl⟩; clear tok1) | (go_at_call 66; have _t := tok2; refine (R1 _).mono ?_; rintro e w' ⟨rfl, rfl⟩; clear tok2) | (go_at_call 66; refine (R2 _).mono ?_; rintro e w' ⟨rfl, rfl⟩))
  go_ret2
  exact ⟨rfl, _, rfl⟩

set_option maxHeartbeats 1000000 in
theorem hu_emp_b (t wh pt : ByteArray) (dot : Bool) (w : World) (hs : t.size ≤ 1048576) (h1 : t.size = 0) (hw : wh.size ≤ 5) (hb1 : wh.size ≤ 1048576) (hb2 : pt.size ≤ 1048576)
    (CC : ∀ w, Calls Tryz.prog 9 #[.string t, .int .u8 46] w fun e w' => e = .returned (.tuple #[.string wh, .string pt, .bool dot]) ∧ ∃ n, w' = w.drewN n)
    (D1 : ∀ w, Calls Tryz.prog 65 #[.string wh] w fun e w' => e = .returned (.bool false) ∧ w' = w) :
    Calls Tryz.prog 37 #[.string t] w fun e w' => e = .returned (.tuple #[.int .i64 0, .bool false]) ∧ ∃ n, w' = w.drewN n := by
  have tok1 : True := trivial
  go_enter Tryz.func37, Tryz.ntmps37
  go_wp2_with (first | (go_at_call 9; refine (CC _).mono ?_; rintro e w' ⟨rfl, nd, rfl⟩) | (go_at_call 65; have _t := tok1; refine (D1 _).mono ?_; rintro e w' ⟨rfl, rfl⟩; clear tok1))
  go_ret2
  exact ⟨rfl, _, rfl⟩
end Go.Proofs.YtddnphgpdnedbaaGreatDoor

namespace Go.Proofs.YtddnphgpdnedbaaGreatDoor
open Go.ChangeShapes Go.WideShapes Go.ChangeAt Go.RowKit
set_option linter.unusedVariables false

theorem specGood_any (n : Int) (w : World) : Calls Tryz.prog 67 #[.int .i64 n] w fun e w' => e = .returned (.bool (lenGood n)) ∧ w' = w := by
  by_cases h1 : -1000000 ≤ n
  · by_cases h2 : n ≤ 1000000
    · have HG : Hid (lenGood n = true) := decide_eq_true ⟨h1, h2⟩
      go_enter Tryz.func67, Tryz.ntmps67
      go_wp2
      go_ret
      exact ⟨retB HG.out.symm, rfl⟩
    · have HG : Hid (lenGood n = false) := decide_eq_false (by omega)
      go_enter Tryz.func67, Tryz.ntmps67
      go_wp2
      go_ret
      exact ⟨retB HG.out.symm, rfl⟩
  · have HG : Hid (lenGood n = false) := decide_eq_false (by omega)
    go_enter Tryz.func67, Tryz.ntmps67
    go_wp2
    go_ret
    exact ⟨retB HG.out.symm, rfl⟩

set_option maxHeartbeats 1000000 in
theorem sp_a (s : ByteArray) (w : World) (hs : s.size ≤ 1048576) (h3 : s.size < 3) :
    Calls Tryz.prog 38 #[.string s] w fun e w' => e = .returned (.tuple #[.int .i64 0, .bool false]) ∧ ∃ n, w' = w.drewN n := by
  go_enter Tryz.func38, Tryz.ntmps38
  go_wp2
  go_ret2
  exact ⟨rfl, 0, rfl⟩

set_option maxHeartbeats 1000000 in
theorem sp_b (s : ByteArray) (w : World) (hs : s.size ≤ 1048576) (h3 : 3 ≤ s.size) (hx : ((s.extract (s.size - 2) s.size).toList == [112, 120]) = false)  :
    Calls Tryz.prog 38 #[.string s] w fun e w' => e = .returned (.tuple #[.int .i64 0, .bool false]) ∧ ∃ n, w' = w.drewN n := by
  go_enter Tryz.func38, Tryz.ntmps38
  go_wp2
  go_ret2
  exact ⟨rfl, 0, rfl⟩

set_option maxHeartbeats 1000000 in
theorem sp_c (s : ByteArray) (w : World) (hs : s.size ≤ 1048576) (h3 : 3 ≤ s.size) (hx : ((s.extract (s.size - 2) s.size).toList == [112, 120]) = true) 
    (HU : ∀ w, Calls Tryz.prog 37 #[.string (s.extract 0 (s.size - 2))] w fun e w' => e = .returned (.tuple #[.int .i64 0, .bool false]) ∧ ∃ n, w' = w.drewN n) :
    Calls Tryz.prog 38 #[.string s] w fun e w' => e = .returned (.tuple #[.int .i64 0, .bool false]) ∧ ∃ n, w' = w.drewN n := by
  go_enter Tryz.func38, Tryz.ntmps38
  go_wp2_with (first | (go_at_call 37; refine (HU _).mono ?_; rintro e w' ⟨rfl, nd, rfl⟩) | go_in)
  go_ret2
  exact ⟨rfl, _, rfl⟩

set_option maxHeartbeats 1000000 in
theorem sp_d_good (s : ByteArray) (h : Int) (w : World) (hs : s.size ≤ 1048576) (h3 : 3 ≤ s.size) (hx : ((s.extract (s.size - 2) s.size).toList == [112, 120]) = true) (b0 : 0 ≤ h) (b1 : h ≤ 10000000) (g : h / 100 * 64 + h % 100 * 64 / 100 ≤ 1000000)
    (HU : ∀ w, Calls Tryz.prog 37 #[.string (s.extract 0 (s.size - 2))] w fun e w' => e = .returned (.tuple #[.int .i64 h, .bool true]) ∧ ∃ n, w' = w.drewN n) :
    Calls Tryz.prog 38 #[.string s] w fun e w' => e = .returned (.tuple #[.int .i64 (h / 100 * 64 + h % 100 * 64 / 100), .bool true]) ∧ ∃ n, w' = w.drewN n := by
  have e : lenGood (h / 100 * 64 + h % 100 * 64 / 100) = true := decide_eq_true (by omega)
  have GL := fun w => specGood_any (h / 100 * 64 + h % 100 * 64 / 100) w
  rw [e] at GL
  clear e g
  go_enter Tryz.func38, Tryz.ntmps38
  go_wp2_with (first | (go_at_call 37; refine (HU _).mono ?_; rintro e w' ⟨rfl, nd, rfl⟩) | (go_at_call 67; refine (GL _).mono ?_; rintro e w' ⟨rfl, rfl⟩))
  go_ret2
  exact ⟨rfl, _, rfl⟩

set_option maxHeartbeats 1000000 in
theorem sp_d_bad (s : ByteArray) (h : Int) (w : World) (hs : s.size ≤ 1048576) (h3 : 3 ≤ s.size) (hx : ((s.extract (s.size - 2) s.size).toList == [112, 120]) = true) (b0 : 0 ≤ h) (b1 : h ≤ 10000000) (g : ¬ h / 100 * 64 + h % 100 * 64 / 100 ≤ 1000000)
    (HU : ∀ w, Calls Tryz.prog 37 #[.string (s.extract 0 (s.size - 2))] w fun e w' => e = .returned (.tuple #[.int .i64 h, .bool true]) ∧ ∃ n, w' = w.drewN n) :
    Calls Tryz.prog 38 #[.string s] w fun e w' => e = .returned (.tuple #[.int .i64 0, .bool false]) ∧ ∃ n, w' = w.drewN n := by
  have e : lenGood (h / 100 * 64 + h % 100 * 64 / 100) = false := decide_eq_false (by omega)
  have GL := fun w => specGood_any (h / 100 * 64 + h % 100 * 64 / 100) w
  rw [e] at GL
  clear e g
  go_enter Tryz.func38, Tryz.ntmps38
  go_wp2_with (first | (go_at_call 37; refine (HU _).mono ?_; rintro e w' ⟨rfl, nd, rfl⟩) | (go_at_call 67; refine (GL _).mono ?_; rintro e w' ⟨rfl, rfl⟩))
  go_ret2
  exact ⟨rfl, _, rfl⟩

set_option maxHeartbeats 1000000 in
theorem sp_e_good (s : ByteArray) (k : Int) (w : World) (hs : s.size ≤ 1048576) (h3 : 3 ≤ s.size) (hx : ((s.extract (s.size - 2) s.size).toList == [112, 120]) = true) (b0 : 0 < k) (b1 : k ≤ 10000000) (g : k / 100 * 64 + k % 100 * 64 / 100 ≤ 1000000)
    (HU : ∀ w, Calls Tryz.prog 37 #[.string (s.extract 0 (s.size - 2))] w fun e w' => e = .returned (.tuple #[.int .i64 (-k), .bool true]) ∧ ∃ n, w' = w.drewN n) :
    Calls Tryz.prog 38 #[.string s] w fun e w' => e = .returned (.tuple #[.int .i64 (-(k / 100 * 64 + k % 100 * 64 / 100)), .bool true]) ∧ ∃ n, w' = w.drewN n := by
  have e : lenGood (-(k / 100 * 64 + k % 100 * 64 / 100)) = true := decide_eq_true (by omega)
  have GL := fun w => specGood_any (-(k / 100 * 64 + k % 100 * 64 / 100)) w
  rw [e] at GL
  clear e g
  go_enter Tryz.func38, Tryz.ntmps38
  go_wp2_with (first | (go_at_call 37; refine (HU _).mono ?_; rintro e w' ⟨rfl, nd, rfl⟩) | (go_at_call 67; refine (GL _).mono ?_; rintro e w' ⟨rfl, rfl⟩))
  go_ret2
  exact ⟨rfl, _, rfl⟩

set_option maxHeartbeats 1000000 in
theorem sp_e_bad (s : ByteArray) (k : Int) (w : World) (hs : s.size ≤ 1048576) (h3 : 3 ≤ s.size) (hx : ((s.extract (s.size - 2) s.size).toList == [112, 120]) = true) (b0 : 0 < k) (b1 : k ≤ 10000000) (g : ¬ k / 100 * 64 + k % 100 * 64 / 100 ≤ 1000000)
    (HU : ∀ w, Calls Tryz.prog 37 #[.string (s.extract 0 (s.size - 2))] w fun e w' => e = .returned (.tuple #[.int .i64 (-k), .bool true]) ∧ ∃ n, w' = w.drewN n) :
    Calls Tryz.prog 38 #[.string s] w fun e w' => e = .returned (.tuple #[.int .i64 0, .bool false]) ∧ ∃ n, w' = w.drewN n := by
  have e : lenGood (-(k / 100 * 64 + k % 100 * 64 / 100)) = false := decide_eq_false (by omega)
  have GL := fun w => specGood_any (-(k / 100 * 64 + k % 100 * 64 / 100)) w
  rw [e] at GL
  clear e g
  go_enter Tryz.func38, Tryz.ntmps38
  go_wp2_with (first | (go_at_call 37; refine (HU _).mono ?_; rintro e w' ⟨rfl, nd, rfl⟩) | (go_at_call 67; refine (GL _).mono ?_; rintro e w' ⟨rfl, rfl⟩))
  go_ret2
  exact ⟨rfl, _, rfl⟩
end Go.Proofs.YtddnphgpdnedbaaGreatDoor

namespace Go.Proofs.YtddnphgpdnedbaaGreatDoor
open Go.ChangeShapes Go.WideShapes Go.ChangeAt Go.RowKit

set_option maxHeartbeats 1000000 in
theorem impl_a (s t b wh pt : ByteArray) (below dot : Bool) (w : World)
    (CS : ∀ w, Calls Tryz.prog 129 #[.string s, .string ⟨#[112, 120]⟩] w fun e w' => e = .returned (.tuple #[.string t, .bool false]) ∧ w' = w)
    (CP : ∀ w, Calls Tryz.prog 53 #[.string t, .string ⟨#[45]⟩] w fun e w' => e = .returned (.tuple #[.string b, .bool below]) ∧ w' = w)
    (CC : ∀ w, Calls Tryz.prog 105 #[.string b, .string ⟨#[46]⟩] w fun e w' => e = .returned (.tuple #[.string wh, .string pt, .bool dot]) ∧ ∃ n, w' = w.drewN n) :
    Calls Tryz.prog 126 #[.string s] w fun e w' => e = .returned (.tuple #[.int .i64 0, .bool false]) ∧ ∃ n, w' = w.drewN n := by
  go_enter Tryz.func126, Tryz.ntmps126
  go_wp2_with (first | (go_at_call 129; refine (CS _).mono ?_; rintro e w' ⟨rfl, rfl⟩) | (go_at_call 53; refine (CP _).mono ?_; rintro e w' ⟨rfl, rfl⟩) | (go_at_call 105; refine (CC _).mono ?_; rintro e w' ⟨rfl, nd, rfl⟩))
  go_ret2
  exact ⟨rfl, _, rfl⟩

set_option maxHeartbeats 1000000 in
theorem impl_b (s t b wh pt : ByteArray) (below dot : Bool) (w : World)
    (CS : ∀ w, Calls Tryz.prog 129 #[.string s, .string ⟨#[112, 120]⟩] w fun e w' => e = .returned (.tuple #[.string t, .bool true]) ∧ w' = w)
    (CP : ∀ w, Calls Tryz.prog 53 #[.string t, .string ⟨#[45]⟩] w fun e w' => e = .returned (.tuple #[.string b, .bool below]) ∧ w' = w)
    (CC : ∀ w, Calls Tryz.prog 105 #[.string b, .string ⟨#[46]⟩] w fun e w' => e = .returned (.tuple #[.string wh, .string pt, .bool dot]) ∧ ∃ n, w' = w.drewN n)
    (D1 : ∀ w, Calls Tryz.prog 130 #[.string wh, .int .i64 5] w fun e w' => e = .returned (.bool false) ∧ w' = w) :
    Calls Tryz.prog 126 #[.string s] w fun e w' => e = .returned (.tuple #[.int .i64 0, .bool false]) ∧ ∃ n, w' = w.drewN n := by
  go_enter Tryz.func126, Tryz.ntmps126
  go_wp2_with (first | (go_at_call 129; refine (CS _).mono ?_; rintro e w' ⟨rfl, rfl⟩) | (go_at_call 53; refine (CP _).mono ?_; rintro e w' ⟨rfl, rfl⟩) | (go_at_call 105; refine (CC _).mono ?_; rintro e w' ⟨rfl, nd, rfl⟩) | (go_at_call 130; refine (D1 _).mono ?_; rintro e w' ⟨rfl, rfl⟩))
  go_ret2
  exact ⟨rfl, _, rfl⟩

set_option maxHeartbeats 1000000 in
theorem impl_c (s t b wh pt : ByteArray) (below : Bool) (w : World)
    (CS : ∀ w, Calls Tryz.prog 129 #[.string s, .string ⟨#[112, 120]⟩] w fun e w' => e = .returned (.tuple #[.string t, .bool true]) ∧ w' = w)
    (CP : ∀ w, Calls Tryz.prog 53 #[.string t, .string ⟨#[45]⟩] w fun e w' => e = .returned (.tuple #[.string b, .bool below]) ∧ w' = w)
    (CC : ∀ w, Calls Tryz.prog 105 #[.string b, .string ⟨#[46]⟩] w fun e w' => e = .returned (.tuple #[.string wh, .string pt, .bool true]) ∧ ∃ n, w' = w.drewN n)
    (D1 : ∀ w, Calls Tryz.prog 130 #[.string wh, .int .i64 5] w fun e w' => e = .returned (.bool true) ∧ w' = w)
    (D2 : ∀ w, Calls Tryz.prog 130 #[.string pt, .int .i64 2] w fun e w' => e = .returned (.bool false) ∧ w' = w) :
    Calls Tryz.prog 126 #[.string s] w fun e w' => e = .returned (.tuple #[.int .i64 0, .bool false]) ∧ ∃ n, w' = w.drewN n := by
  have tok1 : True := trivial
  go_enter Tryz.func126, Tryz.ntmps126
  go_wp2_with (first | (go_at_call 129; refine (CS _).mono ?_; rintro e w' ⟨rfl, rfl⟩) | (go_at_call 53; refine (CP _).mono ?_; rintro e w' ⟨rfl, rfl⟩) | (go_at_call 105; refine (CC _).mono ?_; rintro e w' ⟨rfl, nd, rfl⟩) | (go_at_call 130; have _t := tok1; refine (D1 _).mono ?_; rintro e w' ⟨rfl, rfl⟩; clear tok1) | (go_at_call 130; refine (D2 _).mono ?_; rintro e w' ⟨rfl, rfl⟩))
  go_ret2
  exact ⟨rfl, _, rfl⟩

set_option maxHeartbeats 1000000 in
theorem impl_d_neg (s t b wh pt : ByteArray) (x y r : Int) (g : Bool) (w : World)
    (CS : ∀ w, Calls Tryz.prog 129 #[.string s, .string ⟨#[112, 120]⟩] w fun e w' => e = .returned (.tuple #[.string t, .bool true]) ∧ w' = w)
    (CP : ∀ w, Calls Tryz.prog 53 #[.string t, .string ⟨#[45]⟩] w fun e w' => e = .returned (.tuple #[.string b, .bool true]) ∧ w' = w)
    (CC : ∀ w, Calls Tryz.prog 105 #[.string b, .string ⟨#[46]⟩] w fun e w' => e = .returned (.tuple #[.string wh, .string pt, .bool true]) ∧ ∃ n, w' = w.drewN n)
    (D1 : ∀ w, Calls Tryz.prog 130 #[.string wh, .int .i64 5] w fun e w' => e = .returned (.bool true) ∧ w' = w)
    (D2 : ∀ w, Calls Tryz.prog 130 #[.string pt, .int .i64 2] w fun e w' => e = .returned (.bool true) ∧ w' = w)
    (V : ∀ w, Calls Tryz.prog 131 #[.string wh] w fun e w' => e = .returned (.int .i64 x) ∧ w' = w)
    (H : ∀ w, Calls Tryz.prog 136 #[.string pt] w fun e w' => e = .returned (.int .i64 y) ∧ w' = w)
    (bx : 0 ≤ x ∧ x ≤ 99999) (by' : 0 ≤ y ∧ y ≤ 99)
    (T : ∀ w, Calls Tryz.prog 137 #[.int .i64 (-(x * 64 + y * 64 / 100))] w fun e w' => e = .returned (.tuple #[.int .i64 r, .bool g]) ∧ w' = w) :
    Calls Tryz.prog 126 #[.string s] w fun e w' => e = .returned (.tuple #[.int .i64 r, .bool g]) ∧ ∃ n, w' = w.drewN n := by
  have tok1 : True := trivial
  go_enter Tryz.func126, Tryz.ntmps126
  go_wp2_with (first | (go_at_call 129; refine (CS _).mono ?_; rintro e w' ⟨rfl, rfl⟩) | (go_at_call 53; refine (CP _).mono ?_; rintro e w' ⟨rfl, rfl⟩) | (go_at_call 105; refine (CC _).mono ?_; rintro e w' ⟨rfl, nd, rfl⟩) | (go_at_call 130; have _t := tok1; refine (D1 _).mono ?_; rintro e w' ⟨rfl, rfl⟩; clear tok1) | (go_at_call 130; refine (D2 _).mono ?_; rintro e w' ⟨rfl, rfl⟩) | (go_at_call 131; refine (V _).mono ?_; rintro e w' ⟨rfl, rfl⟩) | (go_at_call 136; refine (H _).mono ?_; rintro e w' ⟨rfl, rfl⟩) | (go_at_call 137; refine (T _).mono ?_; rintro e w' ⟨rfl, rfl⟩))
  go_ret2
  exact ⟨rfl, _, rfl⟩

set_option maxHeartbeats 1000000 in
theorem impl_d_pos (s t b wh pt : ByteArray) (x y r : Int) (g : Bool) (w : World)
    (CS : ∀ w, Calls Tryz.prog 129 #[.string s, .string ⟨#[112, 120]⟩] w fun e w' => e = .returned (.tuple #[.string t, .bool true]) ∧ w' = w)
    (CP : ∀ w, Calls Tryz.prog 53 #[.string t, .string ⟨#[45]⟩] w fun e w' => e = .returned (.tuple #[.string b, .bool false]) ∧ w' = w)
    (CC : ∀ w, Calls Tryz.prog 105 #[.string b, .string ⟨#[46]⟩] w fun e w' => e = .returned (.tuple #[.string wh, .string pt, .bool true]) ∧ ∃ n, w' = w.drewN n)
    (D1 : ∀ w, Calls Tryz.prog 130 #[.string wh, .int .i64 5] w fun e w' => e = .returned (.bool true) ∧ w' = w)
    (D2 : ∀ w, Calls Tryz.prog 130 #[.string pt, .int .i64 2] w fun e w' => e = .returned (.bool true) ∧ w' = w)
    (V : ∀ w, Calls Tryz.prog 131 #[.string wh] w fun e w' => e = .returned (.int .i64 x) ∧ w' = w)
    (H : ∀ w, Calls Tryz.prog 136 #[.string pt] w fun e w' => e = .returned (.int .i64 y) ∧ w' = w)
    (bx : 0 ≤ x ∧ x ≤ 99999) (by' : 0 ≤ y ∧ y ≤ 99)
    (T : ∀ w, Calls Tryz.prog 137 #[.int .i64 (x * 64 + y * 64 / 100)] w fun e w' => e = .returned (.tuple #[.int .i64 r, .bool g]) ∧ w' = w) :
    Calls Tryz.prog 126 #[.string s] w fun e w' => e = .returned (.tuple #[.int .i64 r, .bool g]) ∧ ∃ n, w' = w.drewN n := by
  have tok1 : True := trivial
  go_enter Tryz.func126, Tryz.ntmps126
  go_wp2_with (first | (go_at_call 129; refine (CS _).mono ?_; rintro e w' ⟨rfl, rfl⟩) | (go_at_call 53; refine (CP _).mono ?_; rintro e w' ⟨rfl, rfl⟩) | (go_at_call 105; refine (CC _).mono ?_; rintro e w' ⟨rfl, nd, rfl⟩) | (go_at_call 130; have _t := tok1; refine (D1 _).mono ?_; rintro e w' ⟨rfl, rfl⟩; clear tok1) | (go_at_call 130; refine (D2 _).mono ?_; rintro e w' ⟨rfl, rfl⟩) | (go_at_call 131; refine (V _).mono ?_; rintro e w' ⟨rfl, rfl⟩) | (go_at_call 136; refine (H _).mono ?_; rintro e w' ⟨rfl, rfl⟩) | (go_at_call 137; refine (T _).mono ?_; rintro e w' ⟨rfl, rfl⟩))
  go_ret2
  exact ⟨rfl, _, rfl⟩

set_option maxHeartbeats 1000000 in
theorem impl_e_neg (s t b wh pt : ByteArray) (x y r : Int) (g : Bool) (w : World)
    (CS : ∀ w, Calls Tryz.prog 129 #[.string s, .string ⟨#[112, 120]⟩] w fun e w' => e = .returned (.tuple #[.string t, .bool true]) ∧ w' = w)
    (CP : ∀ w, Calls Tryz.prog 53 #[.string t, .string ⟨#[45]⟩] w fun e w' => e = .returned (.tuple #[.string b, .bool true]) ∧ w' = w)
    (CC : ∀ w, Calls Tryz.prog 105 #[.string b, .string ⟨#[46]⟩] w fun e w' => e = .returned (.tuple #[.string wh, .string pt, .bool false]) ∧ ∃ n, w' = w.drewN n)
    (D1 : ∀ w, Calls Tryz.prog 130 #[.string wh, .int .i64 5] w fun e w' => e = .returned (.bool true) ∧ w' = w)
    (V : ∀ w, Calls Tryz.prog 131 #[.string wh] w fun e w' => e = .returned (.int .i64 x) ∧ w' = w)
    (H : ∀ w, Calls Tryz.prog 136 #[.string pt] w fun e w' => e = .returned (.int .i64 y) ∧ w' = w)
    (bx : 0 ≤ x ∧ x ≤ 99999) (by' : 0 ≤ y ∧ y ≤ 99)
    (T : ∀ w, Calls Tryz.prog 137 #[.int .i64 (-(x * 64 + y * 64 / 100))] w fun e w' => e = .returned (.tuple #[.int .i64 r, .bool g]) ∧ w' = w) :
    Calls Tryz.prog 126 #[.string s] w fun e w' => e = .returned (.tuple #[.int .i64 r, .bool g]) ∧ ∃ n, w' = w.drewN n := by
  go_enter Tryz.func126, Tryz.ntmps126
  go_wp2_with (first | (go_at_call 129; refine (CS _).mono ?_; rintro e w' ⟨rfl, rfl⟩) | (go_at_call 53; refine (CP _).mono ?_; rintro e w' ⟨rfl, rfl⟩) | (go_at_call 105; refine (CC _).mono ?_; rintro e w' ⟨rfl, nd, rfl⟩) | (go_at_call 130; refine (D1 _).mono ?_; rintro e w' ⟨rfl, rfl⟩) | (go_at_call 131; refine (V _).mono ?_; rintro e w' ⟨rfl, rfl⟩) | (go_at_call 136; refine (H _).mono ?_; rintro e w' ⟨rfl, rfl⟩) | (go_at_call 137; refine (T _).mono ?_; rintro e w' ⟨rfl, rfl⟩))
  go_ret2
  exact ⟨rfl, _, rfl⟩

set_option maxHeartbeats 1000000 in
theorem impl_e_pos (s t b wh pt : ByteArray) (x y r : Int) (g : Bool) (w : World)
    (CS : ∀ w, Calls Tryz.prog 129 #[.string s, .string ⟨#[112, 120]⟩] w fun e w' => e = .returned (.tuple #[.string t, .bool true]) ∧ w' = w)
    (CP : ∀ w, Calls Tryz.prog 53 #[.string t, .string ⟨#[45]⟩] w fun e w' => e = .returned (.tuple #[.string b, .bool false]) ∧ w' = w)
    (CC : ∀ w, Calls Tryz.prog 105 #[.string b, .string ⟨#[46]⟩] w fun e w' => e = .returned (.tuple #[.string wh, .string pt, .bool false]) ∧ ∃ n, w' = w.drewN n)
    (D1 : ∀ w, Calls Tryz.prog 130 #[.string wh, .int .i64 5] w fun e w' => e = .returned (.bool true) ∧ w' = w)
    (V : ∀ w, Calls Tryz.prog 131 #[.string wh] w fun e w' => e = .returned (.int .i64 x) ∧ w' = w)
    (H : ∀ w, Calls Tryz.prog 136 #[.string pt] w fun e w' => e = .returned (.int .i64 y) ∧ w' = w)
    (bx : 0 ≤ x ∧ x ≤ 99999) (by' : 0 ≤ y ∧ y ≤ 99)
    (T : ∀ w, Calls Tryz.prog 137 #[.int .i64 (x * 64 + y * 64 / 100)] w fun e w' => e = .returned (.tuple #[.int .i64 r, .bool g]) ∧ w' = w) :
    Calls Tryz.prog 126 #[.string s] w fun e w' => e = .returned (.tuple #[.int .i64 r, .bool g]) ∧ ∃ n, w' = w.drewN n := by
  go_enter Tryz.func126, Tryz.ntmps126
  go_wp2_with (first | (go_at_call 129; refine (CS _).mono ?_; rintro e w' ⟨rfl, rfl⟩) | (go_at_call 53; refine (CP _).mono ?_; rintro e w' ⟨rfl, rfl⟩) | (go_at_call 105; refine (CC _).mono ?_; rintro e w' ⟨rfl, nd, rfl⟩) | (go_at_call 130; refine (D1 _).mono ?_; rintro e w' ⟨rfl, rfl⟩) | (go_at_call 131; refine (V _).mono ?_; rintro e w' ⟨rfl, rfl⟩) | (go_at_call 136; refine (H _).mono ?_; rintro e w' ⟨rfl, rfl⟩) | (go_at_call 137; refine (T _).mono ?_; rintro e w' ⟨rfl, rfl⟩))
  go_ret2
  exact ⟨rfl, _, rfl⟩
end Go.Proofs.YtddnphgpdnedbaaGreatDoor

namespace Go.Proofs.YtddnphgpdnedbaaGreatDoor
open Go.ChangeShapes Go.WideShapes Go.ChangeAt Go.RowKit

theorem read_no {s : ByteArray} (h : readB s = false) : readN s = 0 := by simp [readN, h]
theorem read_is {s : ByteArray} (h1 : pxB s = true) (h2 : fitB (bodyOf (numOf s)) = true) : readB s = lenGood (signed (numOf s)) ∧ readN s = if lenGood (signed (numOf s)) then signed (numOf s) else 0 := by
  have e : readB s = lenGood (signed (numOf s)) := by simp [readB, h1, h2]
  refine ⟨e, ?_⟩
  simp [readN, e]

theorem impl_read (s : ByteArray) (w : World) (hs : s.size ≤ 1048576) :
    Calls Tryz.prog 126 #[.string s] w fun e w' => e = .returned (.tuple #[.int .i64 (readN s), .bool (readB s)]) ∧ ∃ n, w' = w.drewN n := by
  have hn := numOf_size s
  have hb := body_size (numOf s)
  have hw := whole_size (bodyOf (numOf s))
  have hp := part_size (bodyOf (numOf s))
  have CS := fun w => cutSuffix_any s w hs
  have CP := fun w => cutPrefix_any (numOf s) w (by omega)
  have CC := fun w => cut_any (bodyOf (numOf s)) w (by omega)
  have D1 := fun w => isDigits_any (wholeOf (bodyOf (numOf s))) 5 w (by omega)
  have D2 := fun w => isDigits_any (partOf (bodyOf (numOf s))) 2 w (by omega)
  cases h1 : pxB s with
  | false =>
    have e : readB s = false := by simp [readB, h1]
    rw [read_no e, e]
    rw [h1] at CS
    exact impl_a s _ _ _ _ _ _ w CS CP CC
  | true =>
    rw [h1] at CS
    cases h2 : digsB (wholeOf (bodyOf (numOf s))) 5 with
    | false =>
      have e : readB s = false := by simp [readB, fitB, h2]
      rw [read_no e, e]
      rw [h2] at D1
      exact impl_b s _ _ _ _ _ _ w CS CP CC D1
    | true =>
      rw [h2] at D1
      cases h3 : dotB (bodyOf (numOf s)) with
      | true =>
        rw [h3] at CC
        cases h4 : digsB (partOf (bodyOf (numOf s))) 2 with
        | false =>
          have e : readB s = false := by simp [readB, fitB, h3, h4]
          rw [read_no e, e]
          rw [h4] at D2
          exact impl_c s _ _ _ _ _ w CS CP CC D1 D2
        | true =>
          rw [h4] at D2
          have hf : fitB (bodyOf (numOf s)) = true := by simp [fitB, h2, h4]
          obtain ⟨f1, f2, f3, f4⟩ := fit_parts hf
          obtain ⟨e1, e2⟩ := read_is h1 hf
          have V := fun w => digitsValue_any (wholeOf (bodyOf (numOf s))) w f1 f2
          have H := fun w => hundredthsOf_any (partOf (bodyOf (numOf s))) w f4 f3
          have bx := val_bd5 _ f2 f1
          have by' := hund_bd f4 f3
          have T := fun w => told_any (signed (numOf s)) w
          rw [e1, e2]
          cases h5 : negB (numOf s) with
          | true =>
            rw [h5] at CP
            have es : signed (numOf s) = -(amount (bodyOf (numOf s))) := by simp [signed, h5]
            rw [es] at T ⊢
            exact impl_d_neg s _ _ _ _ _ _ _ _ w CS CP CC D1 D2 V H bx by' T
          | false =>
            rw [h5] at CP
            have es : signed (numOf s) = amount (bodyOf (numOf s)) := by simp [signed, h5]
            rw [es] at T ⊢
            exact impl_d_pos s _ _ _ _ _ _ _ _ w CS CP CC D1 D2 V H bx by' T
      | false =>
        rw [h3] at CC
        have hf : fitB (bodyOf (numOf s)) = true := by simp [fitB, h2, h3]
        obtain ⟨f1, f2, f3, f4⟩ := fit_parts hf
        obtain ⟨e1, e2⟩ := read_is h1 hf
        have V := fun w => digitsValue_any (wholeOf (bodyOf (numOf s))) w f1 f2
        have H := fun w => hundredthsOf_any (partOf (bodyOf (numOf s))) w f4 f3
        have bx := val_bd5 _ f2 f1
        have by' := hund_bd f4 f3
        have T := fun w => told_any (signed (numOf s)) w
        rw [e1, e2]
        cases h5 : negB (numOf s) with
        | true =>
          rw [h5] at CP
          have es : signed (numOf s) = -(amount (bodyOf (numOf s))) := by simp [signed, h5]
          rw [es] at T ⊢
          exact impl_e_neg s _ _ _ _ _ _ _ _ w CS CP CC D1 V H bx by' T
        | false =>
          rw [h5] at CP
          have es : signed (numOf s) = amount (bodyOf (numOf s)) := by simp [signed, h5]
          rw [es] at T ⊢
          exact impl_e_pos s _ _ _ _ _ _ _ _ w CS CP CC D1 V H bx by' T
end Go.Proofs.YtddnphgpdnedbaaGreatDoor

namespace Go.Proofs.YtddnphgpdnedbaaGreatDoor
open Go.ChangeShapes Go.WideShapes Go.ChangeAt Go.RowKit
set_option linter.unusedVariables false

def sumOf (b : ByteArray) : Int := 100 * val (wholeOf b).data.toList + hund (partOf b)
def signedH (t : ByteArray) : Int := if negB t then -(sumOf (bodyOf t)) else sumOf (bodyOf t)
theorem data_nought (p : ByteArray) : (p ++ ⟨#[48]⟩).data.toList = p.data.toList ++ [48] := by simp
theorem size_nought (p : ByteArray) : (p ++ ⟨#[48]⟩).size = p.size + 1 := by rw [ByteArray.size_append]; rfl
theorem dig_nought {p : ByteArray} (h : digB p = true) : digB (p ++ ⟨#[48]⟩) = true := by
  unfold digB at *
  rw [data_nought, List.all_append, h]
  rfl
theorem val_nought {p : ByteArray} (h : p.size = 1) : val (p ++ ⟨#[48]⟩).data.toList = hund p := by
  rw [data_nought, val_snoc]
  simp [hund, h]

theorem digs_fits {s : ByteArray} {m : Int} (h : digsB s m = true) : (s.size : Int) ≤ m ∧ digB s = true := by
  unfold digsB at h
  simp only [Bool.and_eq_true, decide_eq_true_eq] at h
  exact ⟨h.1.2, h.2⟩

/-- The model's reader of hundredths. -/
theorem hundredths_any (t : ByteArray) (w : World) (hs : t.size ≤ 1048576) :
    Calls Tryz.prog 37 #[.string t] w fun e w' => e = .returned (.tuple #[.int .i64 (if fitB (bodyOf t) then signedH t else 0), .bool (fitB (bodyOf t))]) ∧ ∃ n, w' = w.drewN n := by
  have hb := body_size t
  have hw := whole_size (bodyOf t)
  have hp := part_size (bodyOf t)
  have b1 : (wholeOf (bodyOf t)).size ≤ 1048576 := by omega
  have b2 : (partOf (bodyOf t)).size ≤ 1048576 := by omega
  have CC := fun w => l1Cut_any (bodyOf t) w (by omega)
  by_cases h1 : 1 ≤ t.size
  rotate_left
  · have hn := neg_empty t h1
    have eb : bodyOf t = t := by simp [bodyOf, hn]
    have e0 : (wholeOf (bodyOf t)).size = 0 := by omega
    have hd : digsB (wholeOf (bodyOf t)) 5 = false := digsB_short (by omega)
    have ef : fitB (bodyOf t) = false := by simp [fitB, hd]
    rw [ef]
    simp only [Bool.false_eq_true, if_false]
    have D1 := fun w => l1D_no _ 5 w b1 hd (by omega)
    generalize wholeOf (bodyOf t) = wh at *
    generalize partOf (bodyOf t) = pt at *
    generalize dotB (bodyOf t) = dot at *
    rw [eb] at CC
    exact hu_emp_b t wh pt dot w hs (by omega) (by omega) b1 b2 CC D1
  have hn := neg_first t h1
  cases hneg : negB t with
  | true =>
    have eb : bodyOf t = t.extract 1 t.size := by simp [bodyOf, hneg]
    have es : signedH t = -(sumOf (bodyOf t)) := by simp [signedH, hneg]
    rw [hneg] at hn
    by_cases w5 : (wholeOf (bodyOf t)).size ≤ 5
    rotate_left
    · have hd : digsB (wholeOf (bodyOf t)) 5 = false := digsB_long (by omega)
      have ef : fitB (bodyOf t) = false := by simp [fitB, hd]
      rw [ef]
      simp only [Bool.false_eq_true, if_false]
      generalize wholeOf (bodyOf t) = wh at *
      generalize partOf (bodyOf t) = pt at *
      generalize dotB (bodyOf t) = dot at *
      rw [eb] at CC
      exact hu_neg_a t wh pt dot w hs h1 hn.symm (by omega) b1 b2 CC
    cases hd : digsB (wholeOf (bodyOf t)) 5 with
    | false =>
      have ef : fitB (bodyOf t) = false := by simp [fitB, hd]
      rw [ef]
      simp only [Bool.false_eq_true, if_false]
      have D1 := fun w => l1D_no _ 5 w b1 hd (by omega)
      generalize wholeOf (bodyOf t) = wh at *
      generalize partOf (bodyOf t) = pt at *
      generalize dotB (bodyOf t) = dot at *
      rw [eb] at CC
      exact hu_neg_b t wh pt dot w hs h1 hn.symm w5 b1 b2 CC D1
    | true =>
      have D1 := fun w => l1D_yes _ 5 w b1 hd
      cases hdot : dotB (bodyOf t) with
      | false =>
        have ef : fitB (bodyOf t) = true := by simp [fitB, hd, hdot]
        obtain ⟨f1, f2, f3, f4⟩ := fit_parts ef
        have ep : partOf (bodyOf t) = ⟨#[]⟩ := by simp [partOf, hdot]
        have hp1 : (((partOf (bodyOf t)).size : Int) == 1) = false := by rw [ep]; rfl
        have ey : hund (partOf (bodyOf t)) = val (partOf (bodyOf t)).data.toList := by rw [ep]; rfl
        have R1 := fun w => l1Read_any _ w f1 f2
        have R2 := fun w => l1Read_any _ w (by omega) f4
        have bx := val_bd5 _ f2 f1
        have by' := hund_bd f4 f3
        rw [ef, es, sumOf, ey]
        rw [ey] at by'
        simp only [if_true]
        rw [hdot] at CC
        generalize wholeOf (bodyOf t) = wh at *
        generalize partOf (bodyOf t) = pt at *
        rw [eb] at CC
        exact hu_neg_g t wh pt _ _ w hs h1 hn.symm w5 hp1 b2 CC D1 R1 R2 bx by'
      | true =>
        rw [hdot] at CC
        by_cases p2 : (partOf (bodyOf t)).size ≤ 2
        rotate_left
        · have hd2 : digsB (partOf (bodyOf t)) 2 = false := digsB_long (by omega)
          have ef : fitB (bodyOf t) = false := by simp [fitB, hdot, hd2]
          rw [ef]
          simp only [Bool.false_eq_true, if_false]
          generalize wholeOf (bodyOf t) = wh at *
          generalize partOf (bodyOf t) = pt at *
          rw [eb] at CC
          exact hu_neg_c t wh pt w hs h1 hn.symm w5 (by omega) b1 b2 CC D1
        cases hd2 : digsB (partOf (bodyOf t)) 2 with
        | false =>
          have ef : fitB (bodyOf t) = false := by simp [fitB, hdot, hd2]
          rw [ef]
          simp only [Bool.false_eq_true, if_false]
          have D2 := fun w => l1D_no _ 2 w b2 hd2 (by omega)
          generalize wholeOf (bodyOf t) = wh at *
          generalize partOf (bodyOf t) = pt at *
          rw [eb] at CC
          exact hu_neg_d t wh pt w hs h1 hn.symm w5 p2 b1 b2 CC D1 D2
        | true =>
          have ef : fitB (bodyOf t) = true := by simp [fitB, hd, hd2]
          obtain ⟨f1, f2, f3, f4⟩ := fit_parts ef
          have D2 := fun w => l1D_yes _ 2 w b2 hd2
          have R1 := fun w => l1Read_any _ w f1 f2
          have bx := val_bd5 _ f2 f1
          have by' := hund_bd f4 f3
          rw [ef, es, sumOf]
          simp only [if_true]
          by_cases p1 : (partOf (bodyOf t)).size = 1
          · have R2 := fun w => l1Read_any _ w (show (partOf (bodyOf t) ++ ⟨#[48]⟩).size ≤ 5 by rw [size_nought]; omega) (dig_nought f4)
            rw [val_nought p1] at R2
            generalize hund (partOf (bodyOf t)) = y at *
            generalize val (wholeOf (bodyOf t)).data.toList = x at *
            generalize wholeOf (bodyOf t) = wh at *
            generalize partOf (bodyOf t) = pt at *
            rw [eb] at CC
            exact hu_neg_e t wh pt x y w hs h1 hn.symm w5 p1 CC D1 D2 R1 R2 bx by'
          · have ey : hund (partOf (bodyOf t)) = val (partOf (bodyOf t)).data.toList := by simp [hund, p1]
            have R2 := fun w => l1Read_any _ w (show (partOf (bodyOf t)).size ≤ 5 by omega) f4
            rw [ey] at by' ⊢
            have hp1 : (((partOf (bodyOf t)).size : Int) == 1) = false := by simp; omega
            generalize wholeOf (bodyOf t) = wh at *
            generalize partOf (bodyOf t) = pt at *
            rw [eb] at CC
            exact hu_neg_f t wh pt _ _ w hs h1 hn.symm w5 p2 hp1 CC D1 D2 R1 R2 bx by'
  | false =>
    have eb : bodyOf t = t := by simp [bodyOf, hneg]
    have es : signedH t = sumOf (bodyOf t) := by simp [signedH, hneg]
    rw [hneg] at hn
    by_cases w5 : (wholeOf (bodyOf t)).size ≤ 5
    rotate_left
    · have hd : digsB (wholeOf (bodyOf t)) 5 = false := digsB_long (by omega)
      have ef : fitB (bodyOf t) = false := by simp [fitB, hd]
      rw [ef]
      simp only [Bool.false_eq_true, if_false]
      generalize wholeOf (bodyOf t) = wh at *
      generalize partOf (bodyOf t) = pt at *
      generalize dotB (bodyOf t) = dot at *
      rw [eb] at CC
      exact hu_pos_a t wh pt dot w hs h1 hn.symm (by omega) b1 b2 CC
    cases hd : digsB (wholeOf (bodyOf t)) 5 with
    | false =>
      have ef : fitB (bodyOf t) = false := by simp [fitB, hd]
      rw [ef]
      simp only [Bool.false_eq_true, if_false]
      have D1 := fun w => l1D_no _ 5 w b1 hd (by omega)
      generalize wholeOf (bodyOf t) = wh at *
      generalize partOf (bodyOf t) = pt at *
      generalize dotB (bodyOf t) = dot at *
      rw [eb] at CC
      exact hu_pos_b t wh pt dot w hs h1 hn.symm w5 b1 b2 CC D1
    | true =>
      have D1 := fun w => l1D_yes _ 5 w b1 hd
      cases hdot : dotB (bodyOf t) with
      | false =>
        have ef : fitB (bodyOf t) = true := by simp [fitB, hd, hdot]
        obtain ⟨f1, f2, f3, f4⟩ := fit_parts ef
        have ep : partOf (bodyOf t) = ⟨#[]⟩ := by simp [partOf, hdot]
        have hp1 : (((partOf (bodyOf t)).size : Int) == 1) = false := by rw [ep]; rfl
        have ey : hund (partOf (bodyOf t)) = val (partOf (bodyOf t)).data.toList := by rw [ep]; rfl
        have R1 := fun w => l1Read_any _ w f1 f2
        have R2 := fun w => l1Read_any _ w (by omega) f4
        have bx := val_bd5 _ f2 f1
        have by' := hund_bd f4 f3
        rw [ef, es, sumOf, ey]
        rw [ey] at by'
        simp only [if_true]
        rw [hdot] at CC
        generalize wholeOf (bodyOf t) = wh at *
        generalize partOf (bodyOf t) = pt at *
        rw [eb] at CC
        exact hu_pos_g t wh pt _ _ w hs h1 hn.symm w5 hp1 b2 CC D1 R1 R2 bx by'
      | true =>
        rw [hdot] at CC
        by_cases p2 : (partOf (bodyOf t)).size ≤ 2
        rotate_left
        · have hd2 : digsB (partOf (bodyOf t)) 2 = false := digsB_long (by omega)
          have ef : fitB (bodyOf t) = false := by simp [fitB, hdot, hd2]
          rw [ef]
          simp only [Bool.false_eq_true, if_false]
          generalize wholeOf (bodyOf t) = wh at *
          generalize partOf (bodyOf t) = pt at *
          rw [eb] at CC
          exact hu_pos_c t wh pt w hs h1 hn.symm w5 (by omega) b1 b2 CC D1
        cases hd2 : digsB (partOf (bodyOf t)) 2 with
        | false =>
          have ef : fitB (bodyOf t) = false := by simp [fitB, hdot, hd2]
          rw [ef]
          simp only [Bool.false_eq_true, if_false]
          have D2 := fun w => l1D_no _ 2 w b2 hd2 (by omega)
          generalize wholeOf (bodyOf t) = wh at *
          generalize partOf (bodyOf t) = pt at *
          rw [eb] at CC
          exact hu_pos_d t wh pt w hs h1 hn.symm w5 p2 b1 b2 CC D1 D2
        | true =>
          have ef : fitB (bodyOf t) = true := by simp [fitB, hd, hd2]
          obtain ⟨f1, f2, f3, f4⟩ := fit_parts ef
          have D2 := fun w => l1D_yes _ 2 w b2 hd2
          have R1 := fun w => l1Read_any _ w f1 f2
          have bx := val_bd5 _ f2 f1
          have by' := hund_bd f4 f3
          rw [ef, es, sumOf]
          simp only [if_true]
          by_cases p1 : (partOf (bodyOf t)).size = 1
          · have R2 := fun w => l1Read_any _ w (show (partOf (bodyOf t) ++ ⟨#[48]⟩).size ≤ 5 by rw [size_nought]; omega) (dig_nought f4)
            rw [val_nought p1] at R2
            generalize hund (partOf (bodyOf t)) = y at *
            generalize val (wholeOf (bodyOf t)).data.toList = x at *
            generalize wholeOf (bodyOf t) = wh at *
            generalize partOf (bodyOf t) = pt at *
            rw [eb] at CC
            exact hu_pos_e t wh pt x y w hs h1 hn.symm w5 p1 CC D1 D2 R1 R2 bx by'
          · have ey : hund (partOf (bodyOf t)) = val (partOf (bodyOf t)).data.toList := by simp [hund, p1]
            have R2 := fun w => l1Read_any _ w (show (partOf (bodyOf t)).size ≤ 5 by omega) f4
            rw [ey] at by' ⊢
            have hp1 : (((partOf (bodyOf t)).size : Int) == 1) = false := by simp; omega
            generalize wholeOf (bodyOf t) = wh at *
            generalize partOf (bodyOf t) = pt at *
            rw [eb] at CC
            exact hu_pos_f t wh pt _ _ w hs h1 hn.symm w5 p2 hp1 CC D1 D2 R1 R2 bx by'

theorem sum_bd {b : ByteArray} (h : fitB b = true) : 0 ≤ sumOf b ∧ sumOf b ≤ 10000000 ∧ sumOf b / 100 * 64 + sumOf b % 100 * 64 / 100 = amount b := by
  obtain ⟨f1, f2, f3, f4⟩ := fit_parts h
  have bx := val_bd5 _ f2 f1
  have by' := hund_bd f4 f3
  unfold sumOf amount
  generalize val (wholeOf b).data.toList = x at *
  generalize hund (partOf b) = y at *
  have e1 : (100 * x + y) / 100 = x := by omega
  have e2 : (100 * x + y) % 100 = y := by omega
  rw [e1, e2]
  exact ⟨by omega, by omega, rfl⟩

theorem spec_read (s : ByteArray) (w : World) (hs : s.size ≤ 1048576) :
    Calls Tryz.prog 38 #[.string s] w fun e w' => e = .returned (.tuple #[.int .i64 (readN s), .bool (readB s)]) ∧ ∃ n, w' = w.drewN n := by
  by_cases h3 : s.size < 3
  · have e : readB s = false := by
      cases hpx : pxB s with
      | false => simp [readB, hpx]
      | true =>
        have h2 : 2 ≤ s.size := by
          unfold pxB at hpx
          simp only [Bool.and_eq_true, decide_eq_true_eq] at hpx
          exact hpx.1
        have en : (numOf s).size = 0 := by
          have : numOf s = s.extract 0 (s.size - 2) := by simp [numOf, hpx]
          rw [this, ByteArray.size_extract]
          omega
        have hb := body_size (numOf s)
        have hw := whole_size (bodyOf (numOf s))
        have hd : digsB (wholeOf (bodyOf (numOf s))) 5 = false := digsB_short (by omega)
        simp [readB, fitB, hd]
    rw [read_no e, e]
    exact sp_a s w hs h3
  cases hx : ((s.extract (s.size - 2) s.size).toList == [112, 120]) with
  | false =>
    have e : readB s = false := by simp only [readB, pxB, hx, Bool.and_false, Bool.false_and]
    rw [read_no e, e]
    exact sp_b s w hs (by omega) hx
  | true =>
    have hpx : pxB s = true := by
      have h2 : 2 ≤ s.size := by omega
      simp only [pxB, hx, h2, decide_true, Bool.and_self]
    have en : numOf s = s.extract 0 (s.size - 2) := by simp [numOf, hpx]
    have hns := numOf_size s
    have HU := fun w => hundredths_any (numOf s) w (by omega)
    cases hf : fitB (bodyOf (numOf s)) with
    | false =>
      have e : readB s = false := by simp [readB, hf]
      rw [read_no e, e]
      rw [hf] at HU
      simp only [Bool.false_eq_true, if_false] at HU
      rw [en] at HU
      exact sp_c s w hs (by omega) hx HU
    | true =>
      obtain ⟨e1, e2⟩ := read_is hpx hf
      obtain ⟨s1, s2, s3⟩ := sum_bd hf
      rw [hf] at HU
      simp only [if_true] at HU
      rw [e1, e2]
      cases hneg : negB (numOf s) with
      | false =>
        have es : signed (numOf s) = amount (bodyOf (numOf s)) := by simp [signed, hneg]
        have eh : signedH (numOf s) = sumOf (bodyOf (numOf s)) := by simp [signedH, hneg]
        rw [es]
        rw [eh] at HU
        rw [← s3]
        generalize sumOf (bodyOf (numOf s)) = h at *
        rw [en] at HU
        by_cases g : h / 100 * 64 + h % 100 * 64 / 100 ≤ 1000000
        · have eg : lenGood (h / 100 * 64 + h % 100 * 64 / 100) = true := decide_eq_true (by omega)
          rw [eg]
          simp only [if_true]
          exact sp_d_good s h w hs (by omega) hx s1 s2 g HU
        · have eg : lenGood (h / 100 * 64 + h % 100 * 64 / 100) = false := decide_eq_false (by omega)
          rw [eg]
          simp only [Bool.false_eq_true, if_false]
          exact sp_d_bad s h w hs (by omega) hx s1 s2 g HU
      | true =>
        have es : signed (numOf s) = -(amount (bodyOf (numOf s))) := by simp [signed, hneg]
        have eh : signedH (numOf s) = -(sumOf (bodyOf (numOf s))) := by simp [signedH, hneg]
        rw [es]
        rw [eh] at HU
        rw [← s3]
        generalize sumOf (bodyOf (numOf s)) = k at *
        rw [en] at HU
        by_cases k0 : k = 0
        · subst k0
          have := sp_d_good s 0 w hs (by omega) hx (by omega) (by omega) (by omega) HU
          exact this
        · by_cases g : k / 100 * 64 + k % 100 * 64 / 100 ≤ 1000000
          · have eg : lenGood (-(k / 100 * 64 + k % 100 * 64 / 100)) = true := decide_eq_true (by omega)
            rw [eg]
            simp only [if_true]
            exact sp_e_good s k w hs (by omega) hx (by omega) s2 g HU
          · have eg : lenGood (-(k / 100 * 64 + k % 100 * 64 / 100)) = false := decide_eq_false (by omega)
            rw [eg]
            simp only [Bool.false_eq_true, if_false]
            exact sp_e_bad s k w hs (by omega) hx (by omega) s2 g HU
end Go.Proofs.YtddnphgpdnedbaaGreatDoor
