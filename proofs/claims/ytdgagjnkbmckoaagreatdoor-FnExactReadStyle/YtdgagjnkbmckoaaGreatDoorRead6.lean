/-
  The model of ReadPixels answers readN and readB of the text, for every string of at most 1048576 bytes.
-/
import Derived.Test.YtdgagjnkbmckoaaGreatDoorRead3
namespace Go.Proofs.YtdgagjnkbmckoaaGreatDoor
open Go.ChangeShapes Go.WideShapes Go.ChangeAt Go.RowKit
set_option linter.unusedVariables false
theorem l1D_yes (s : ByteArray) (m : Int) (w : World) (hs : s.size ≤ 1048576) (h : digsB s m = true) :
    Calls Tryz.prog 27 #[.string s] w fun e w' => e = .returned (.bool true) ∧ w' = w := by
  have e : (digB s && decide (0 < s.size)) = true := by
    unfold digsB at h
    simp only [Bool.and_eq_true, decide_eq_true_eq] at h
    simp only [Bool.and_eq_true, decide_eq_true_eq]
    exact ⟨h.2, by omega⟩
  have := l1Digits_any s w hs
  rwa [e] at this
theorem l1D_no (s : ByteArray) (m : Int) (w : World) (hs : s.size ≤ 1048576) (h : digsB s m = false) (hm : (s.size : Int) ≤ m) :
    Calls Tryz.prog 27 #[.string s] w fun e w' => e = .returned (.bool false) ∧ w' = w := by
  have e : (digB s && decide (0 < s.size)) = false := by
    unfold digsB at h
    simp only [hm, decide_true, Bool.and_true] at h
    cases hd : digB s with
    | false => rfl
    | true =>
      rw [hd] at h
      simp only [Bool.and_true] at h
      have : ¬ 1 ≤ s.size := by simpa using h
      have e0 : s.size = 0 := by omega
      simp [e0]
  have := l1Digits_any s w hs
  rwa [e] at this
theorem neg_first (t : ByteArray) (h : 1 ≤ t.size) : negB t = (((t[0].toNat : Nat) : Int) == 45) := by
  have e : (t.extract 0 1).toList = [t[0]] := by
    rw [Lib.toList_data, ByteArray.data_extract, Array.toList_extract]
    have := take_byte t 0 (by omega)
    simpa using this
  unfold negB
  rw [e]
  simp only [h, decide_true, Bool.true_and]
  rw [Bool.eq_iff_iff]
  simp only [beq_iff_eq, List.cons.injEq, and_true]
  constructor
  · intro k; rw [k]; rfl
  · intro k; exact UInt8.toNat_inj.1 (by have : t[0].toNat = 45 := by omega
                                         rw [this]; rfl)
theorem neg_empty (t : ByteArray) (h : ¬ 1 ≤ t.size) : negB t = false := by simp [negB, h]

set_option maxHeartbeats 1000000 in
theorem hu_neg_a (t wh pt : ByteArray) (dot : Bool) (w : World) (hs : t.size ≤ 1048576) (h1 : 1 ≤ t.size) (hn : (((t[0].toNat : Nat) : Int) == 45) = true) (hw : 5 < wh.size) (hb1 : wh.size ≤ 1048576) (hb2 : pt.size ≤ 1048576)
    (CC : ∀ w, Calls Tryz.prog 8 #[.string (t.extract 1 t.size), .int .u8 46] w fun e w' => e = .returned (.tuple #[.string wh, .string pt, .bool dot]) ∧ ∃ n, w' = w.drewN n) :
    Calls Tryz.prog 15 #[.string t] w fun e w' => e = .returned (.tuple #[.int .i64 0, .bool false]) ∧ ∃ n, w' = w.drewN n := by
  go_enter Tryz.func15, Tryz.ntmps15
  go_wp2_with (first | (go_at_call 8; refine (CC _).mono ?_; rintro e w' ⟨rfl, nd, rfl⟩))
  go_ret2
  exact ⟨rfl, _, rfl⟩

set_option maxHeartbeats 1000000 in
theorem hu_neg_b (t wh pt : ByteArray) (dot : Bool) (w : World) (hs : t.size ≤ 1048576) (h1 : 1 ≤ t.size) (hn : (((t[0].toNat : Nat) : Int) == 45) = true) (hw : wh.size ≤ 5) (hb1 : wh.size ≤ 1048576) (hb2 : pt.size ≤ 1048576)
    (CC : ∀ w, Calls Tryz.prog 8 #[.string (t.extract 1 t.size), .int .u8 46] w fun e w' => e = .returned (.tuple #[.string wh, .string pt, .bool dot]) ∧ ∃ n, w' = w.drewN n)
    (D1 : ∀ w, Calls Tryz.prog 27 #[.string wh] w fun e w' => e = .returned (.bool false) ∧ w' = w) :
    Calls Tryz.prog 15 #[.string t] w fun e w' => e = .returned (.tuple #[.int .i64 0, .bool false]) ∧ ∃ n, w' = w.drewN n := by
  have tok1 : True := trivial
  go_enter Tryz.func15, Tryz.ntmps15
  go_wp2_with (first | (go_at_call 8; refine (CC _).mono ?_; rintro e w' ⟨rfl, nd, rfl⟩) | (go_at_call 27; have _t := tok1; refine (D1 _).mono ?_; rintro e w' ⟨rfl, rfl⟩; clear tok1))
  go_ret2
  exact ⟨rfl, _, rfl⟩

set_option maxHeartbeats 1000000 in
theorem hu_neg_c (t wh pt : ByteArray) (w : World) (hs : t.size ≤ 1048576) (h1 : 1 ≤ t.size) (hn : (((t[0].toNat : Nat) : Int) == 45) = true) (hw : wh.size ≤ 5) (hp : 2 < pt.size) (hb1 : wh.size ≤ 1048576) (hb2 : pt.size ≤ 1048576)
    (CC : ∀ w, Calls Tryz.prog 8 #[.string (t.extract 1 t.size), .int .u8 46] w fun e w' => e = .returned (.tuple #[.string wh, .string pt, .bool true]) ∧ ∃ n, w' = w.drewN n)
    (D1 : ∀ w, Calls Tryz.prog 27 #[.string wh] w fun e w' => e = .returned (.bool true) ∧ w' = w) :
    Calls Tryz.prog 15 #[.string t] w fun e w' => e = .returned (.tuple #[.int .i64 0, .bool false]) ∧ ∃ n, w' = w.drewN n := by
  have tok1 : True := trivial
  go_enter Tryz.func15, Tryz.ntmps15
  go_wp2_with (first | (go_at_call 8; refine (CC _).mono ?_; rintro e w' ⟨rfl, nd, rfl⟩) | (go_at_call 27; have _t := tok1; refine (D1 _).mono ?_; rintro e w' ⟨rfl, rfl⟩; clear tok1))
  go_ret2
  exact ⟨rfl, _, rfl⟩

set_option maxHeartbeats 1000000 in
theorem hu_neg_d (t wh pt : ByteArray) (w : World) (hs : t.size ≤ 1048576) (h1 : 1 ≤ t.size) (hn : (((t[0].toNat : Nat) : Int) == 45) = true) (hw : wh.size ≤ 5) (hp : pt.size ≤ 2) (hb1 : wh.size ≤ 1048576) (hb2 : pt.size ≤ 1048576)
    (CC : ∀ w, Calls Tryz.prog 8 #[.string (t.extract 1 t.size), .int .u8 46] w fun e w' => e = .returned (.tuple #[.string wh, .string pt, .bool true]) ∧ ∃ n, w' = w.drewN n)
    (D1 : ∀ w, Calls Tryz.prog 27 #[.string wh] w fun e w' => e = .returned (.bool true) ∧ w' = w)
    (D2 : ∀ w, Calls Tryz.prog 27 #[.string pt] w fun e w' => e = .returned (.bool false) ∧ w' = w) :
    Calls Tryz.prog 15 #[.string t] w fun e w' => e = .returned (.tuple #[.int .i64 0, .bool false]) ∧ ∃ n, w' = w.drewN n := by
  have tok1 : True := trivial
  go_enter Tryz.func15, Tryz.ntmps15
  go_wp2_with (first | (go_at_call 8; refine (CC _).mono ?_; rintro e w' ⟨rfl, nd, rfl⟩) | (go_at_call 27; have _t := tok1; refine (D1 _).mono ?_; rintro e w' ⟨rfl, rfl⟩; clear tok1) | (go_at_call 27; refine (D2 _).mono ?_; rintro e w' ⟨rfl, rfl⟩))
  go_ret2
  exact ⟨rfl, _, rfl⟩

set_option maxHeartbeats 1000000 in
theorem hu_neg_e (t wh pt : ByteArray) (x y : Int) (w : World) (hs : t.size ≤ 1048576) (h1 : 1 ≤ t.size) (hn : (((t[0].toNat : Nat) : Int) == 45) = true) (hw : wh.size ≤ 5) (hp : pt.size = 1)
    (CC : ∀ w, Calls Tryz.prog 8 #[.string (t.extract 1 t.size), .int .u8 46] w fun e w' => e = .returned (.tuple #[.string wh, .string pt, .bool true]) ∧ ∃ n, w' = w.drewN n)
    (D1 : ∀ w, Calls Tryz.prog 27 #[.string wh] w fun e w' => e = .returned (.bool true) ∧ w' = w)
    (D2 : ∀ w, Calls Tryz.prog 27 #[.string pt] w fun e w' => e = .returned (.bool true) ∧ w' = w)
    (R1 : ∀ w, Calls Tryz.prog 28 #[.string wh] w fun e w' => e = .returned (.int .i64 x) ∧ w' = w)
    (R2 : ∀ w, Calls Tryz.prog 28 #[.string (pt ++ ⟨#[48]⟩)] w fun e w' => e = .returned (.int .i64 y) ∧ w' = w)
    (bx : 0 ≤ x ∧ x ≤ 99999) (by' : 0 ≤ y ∧ y ≤ 99) :
    Calls Tryz.prog 15 #[.string t] w fun e w' => e = .returned (.tuple #[.int .i64 (-(100 * x + y)), .bool true]) ∧ ∃ n, w' = w.drewN n := by
  have tok1 : True := trivial
  have tok2 : True := trivial
  go_enter Tryz.func15, Tryz.ntmps15
  go_wp2_with (first | (go_at_call 8; refine (CC _).mono ?_; rintro e w' ⟨rfl, nd, rfl⟩) | (go_at_call 27; have _t := tok1; refine (D1 _).mono ?_; rintro e w' ⟨rfl, rfl⟩; clear tok1) | (go_at_call 27; refine (D2 _).mono ?_; rintro e w' ⟨rfl, rfl⟩) | (go_at_call 28; have _t := tok2; refine (R1 _).mono ?_; rintro e w' ⟨rfl, rfl⟩; clear tok2) | (go_at_call 28; refine (R2 _).mono ?_; rintro e w' ⟨rfl, rfl⟩))
  go_ret2
  exact ⟨rfl, _, rfl⟩

set_option maxHeartbeats 1000000 in
theorem hu_neg_f (t wh pt : ByteArray) (x y : Int) (w : World) (hs : t.size ≤ 1048576) (h1 : 1 ≤ t.size) (hn : (((t[0].toNat : Nat) : Int) == 45) = true) (hw : wh.size ≤ 5) (hp : pt.size ≤ 2) (hp1 : ((pt.size : Int) == 1) = false)
    (CC : ∀ w, Calls Tryz.prog 8 #[.string (t.extract 1 t.size), .int .u8 46] w fun e w' => e = .returned (.tuple #[.string wh, .string pt, .bool true]) ∧ ∃ n, w' = w.drewN n)
    (D1 : ∀ w, Calls Tryz.prog 27 #[.string wh] w fun e w' => e = .returned (.bool true) ∧ w' = w)
    (D2 : ∀ w, Calls Tryz.prog 27 #[.string pt] w fun e w' => e = .returned (.bool true) ∧ w' = w)
    (R1 : ∀ w, Calls Tryz.prog 28 #[.string wh] w fun e w' => e = .returned (.int .i64 x) ∧ w' = w)
    (R2 : ∀ w, Calls Tryz.prog 28 #[.string pt] w fun e w' => e = .returned (.int .i64 y) ∧ w' = w)
    (bx : 0 ≤ x ∧ x ≤ 99999) (by' : 0 ≤ y ∧ y ≤ 99) :
    Calls Tryz.prog 15 #[.string t] w fun e w' => e = .returned (.tuple #[.int .i64 (-(100 * x + y)), .bool true]) ∧ ∃ n, w' = w.drewN n := by
  have tok1 : True := trivial
  have tok2 : True := trivial
  go_enter Tryz.func15, Tryz.ntmps15
  go_wp2_with (first | (go_at_call 8; refine (CC _).mono ?_; rintro e w' ⟨rfl, nd, rfl⟩) | (go_at_call 27; have _t := tok1; refine (D1 _).mono ?_; rintro e w' ⟨rfl, rfl⟩; clear tok1) | (go_at_call 27; refine (D2 _).mono ?_; rintro e w' ⟨rfl, rfl⟩) | (go_at_call 28; have _t := tok2; refine (R1 _).mono ?_; rintro e w' ⟨rfl, rfl⟩; clear tok2) | (go_at_call 28; refine (R2 _).mono ?_; rintro e w' ⟨rfl, rfl⟩))
  go_ret2
  exact ⟨rfl, _, rfl⟩

set_option maxHeartbeats 1000000 in
theorem hu_neg_g (t wh pt : ByteArray) (x y : Int) (w : World) (hs : t.size ≤ 1048576) (h1 : 1 ≤ t.size) (hn : (((t[0].toNat : Nat) : Int) == 45) = true) (hw : wh.size ≤ 5) (hp1 : ((pt.size : Int) == 1) = false) (hb2 : pt.size ≤ 1048576)
    (CC : ∀ w, Calls Tryz.prog 8 #[.string (t.extract 1 t.size), .int .u8 46] w fun e w' => e = .returned (.tuple #[.string wh, .string pt, .bool false]) ∧ ∃ n, w' = w.drewN n)
    (D1 : ∀ w, Calls Tryz.prog 27 #[.string wh] w fun e w' => e = .returned (.bool true) ∧ w' = w)
    (R1 : ∀ w, Calls Tryz.prog 28 #[.string wh] w fun e w' => e = .returned (.int .i64 x) ∧ w' = w)
    (R2 : ∀ w, Calls Tryz.prog 28 #[.string pt] w fun e w' => e = .returned (.int .i64 y) ∧ w' = w)
    (bx : 0 ≤ x ∧ x ≤ 99999) (by' : 0 ≤ y ∧ y ≤ 99) :
    Calls Tryz.prog 15 #[.string t] w fun e w' => e = .returned (.tuple #[.int .i64 (-(100 * x + y)), .bool true]) ∧ ∃ n, w' = w.drewN n := by
  have tok1 : True := trivial
  have tok2 : True := trivial
  go_enter Tryz.func15, Tryz.ntmps15
  go_wp2_with (first | (go_at_call 8; refine (CC _).mono ?_; rintro e w' ⟨rfl, nd, rfl⟩) | (go_at_call 27; have _t := tok1; refine (D1 _).mono ?_; rintro e w' ⟨rfl, rfl⟩; clear tok1) | (go_at_call 28; have _t := tok2; refine (R1 _).mono ?_; rintro e w' ⟨rfl, rfl⟩; clear tok2) | (go_at_call 28; refine (R2 _).mono ?_; rintro e w' ⟨rfl, rfl⟩))
  go_ret2
  exact ⟨rfl, _, rfl⟩

set_option maxHeartbeats 1000000 in
theorem hu_pos_a (t wh pt : ByteArray) (dot : Bool) (w : World) (hs : t.size ≤ 1048576) (h1 : 1 ≤ t.size) (hn : (((t[0].toNat : Nat) : Int) == 45) = false) (hw : 5 < wh.size) (hb1 : wh.size ≤ 1048576) (hb2 : pt.size ≤ 1048576)
    (CC : ∀ w, Calls Tryz.prog 8 #[.string t, .int .u8 46] w fun e w' => e = .returned (.tuple #[.string wh, .string pt, .bool dot]) ∧ ∃ n, w' = w.drewN n) :
    Calls Tryz.prog 15 #[.string t] w fun e w' => e = .returned (.tuple #[.int .i64 0, .bool false]) ∧ ∃ n, w' = w.drewN n := by
  go_enter Tryz.func15, Tryz.ntmps15
  go_wp2_with (first | (go_at_call 8; refine (CC _).mono ?_; rintro e w' ⟨rfl, nd, rfl⟩))
  go_ret2
  exact ⟨rfl, _, rfl⟩

set_option maxHeartbeats 1000000 in
theorem hu_pos_b (t wh pt : ByteArray) (dot : Bool) (w : World) (hs : t.size ≤ 1048576) (h1 : 1 ≤ t.size) (hn : (((t[0].toNat : Nat) : Int) == 45) = false) (hw : wh.size ≤ 5) (hb1 : wh.size ≤ 1048576) (hb2 : pt.size ≤ 1048576)
    (CC : ∀ w, Calls Tryz.prog 8 #[.string t, .int .u8 46] w fun e w' => e = .returned (.tuple #[.string wh, .string pt, .bool dot]) ∧ ∃ n, w' = w.drewN n)
    (D1 : ∀ w, Calls Tryz.prog 27 #[.string wh] w fun e w' => e = .returned (.bool false) ∧ w' = w) :
    Calls Tryz.prog 15 #[.string t] w fun e w' => e = .returned (.tuple #[.int .i64 0, .bool false]) ∧ ∃ n, w' = w.drewN n := by
  have tok1 : True := trivial
  go_enter Tryz.func15, Tryz.ntmps15
  go_wp2_with (first | (go_at_call 8; refine (CC _).mono ?_; rintro e w' ⟨rfl, nd, rfl⟩) | (go_at_call 27; have _t := tok1; refine (D1 _).mono ?_; rintro e w' ⟨rfl, rfl⟩; clear tok1))
  go_ret2
  exact ⟨rfl, _, rfl⟩

set_option maxHeartbeats 1000000 in
theorem hu_pos_c (t wh pt : ByteArray) (w : World) (hs : t.size ≤ 1048576) (h1 : 1 ≤ t.size) (hn : (((t[0].toNat : Nat) : Int) == 45) = false) (hw : wh.size ≤ 5) (hp : 2 < pt.size) (hb1 : wh.size ≤ 1048576) (hb2 : pt.size ≤ 1048576)
    (CC : ∀ w, Calls Tryz.prog 8 #[.string t, .int .u8 46] w fun e w' => e = .returned (.tuple #[.string wh, .string pt, .bool true]) ∧ ∃ n, w' = w.drewN n)
    (D1 : ∀ w, Calls Tryz.prog 27 #[.string wh] w fun e w' => e = .returned (.bool true) ∧ w' = w) :
    Calls Tryz.prog 15 #[.string t] w fun e w' => e = .returned (.tuple #[.int .i64 0, .bool false]) ∧ ∃ n, w' = w.drewN n := by
  have tok1 : True := trivial
  go_enter Tryz.func15, Tryz.ntmps15
  go_wp2_with (first | (go_at_call 8; refine (CC _).mono ?_; rintro e w' ⟨rfl, nd, rfl⟩) | (go_at_call 27; have _t := tok1; refine (D1 _).mono ?_; rintro e w' ⟨rfl, rfl⟩; clear tok1))
  go_ret2
  exact ⟨rfl, _, rfl⟩

set_option maxHeartbeats 1000000 in
theorem hu_pos_d (t wh pt : ByteArray) (w : World) (hs : t.size ≤ 1048576) (h1 : 1 ≤ t.size) (hn : (((t[0].toNat : Nat) : Int) == 45) = false) (hw : wh.size ≤ 5) (hp : pt.size ≤ 2) (hb1 : wh.size ≤ 1048576) (hb2 : pt.size ≤ 1048576)
    (CC : ∀ w, Calls Tryz.prog 8 #[.string t, .int .u8 46] w fun e w' => e = .returned (.tuple #[.string wh, .string pt, .bool true]) ∧ ∃ n, w' = w.drewN n)
    (D1 : ∀ w, Calls Tryz.prog 27 #[.string wh] w fun e w' => e = .returned (.bool true) ∧ w' = w)
    (D2 : ∀ w, Calls Tryz.prog 27 #[.string pt] w fun e w' => e = .returned (.bool false) ∧ w' = w) :
    Calls Tryz.prog 15 #[.string t] w fun e w' => e = .returned (.tuple #[.int .i64 0, .bool false]) ∧ ∃ n, w' = w.drewN n := by
  have tok1 : True := trivial
  go_enter Tryz.func15, Tryz.ntmps15
  go_wp2_with (first | (go_at_call 8; refine (CC _).mono ?_; rintro e w' ⟨rfl, nd, rfl⟩) | (go_at_call 27; have _t := tok1; refine (D1 _).mono ?_; rintro e w' ⟨rfl, rfl⟩; clear tok1) | (go_at_call 27; refine (D2 _).mono ?_; rintro e w' ⟨rfl, rfl⟩))
  go_ret2
  exact ⟨rfl, _, rfl⟩

set_option maxHeartbeats 1000000 in
theorem hu_pos_e (t wh pt : ByteArray) (x y : Int) (w : World) (hs : t.size ≤ 1048576) (h1 : 1 ≤ t.size) (hn : (((t[0].toNat : Nat) : Int) == 45) = false) (hw : wh.size ≤ 5) (hp : pt.size = 1)
    (CC : ∀ w, Calls Tryz.prog 8 #[.string t, .int .u8 46] w fun e w' => e = .returned (.tuple #[.string wh, .string pt, .bool true]) ∧ ∃ n, w' = w.drewN n)
    (D1 : ∀ w, Calls Tryz.prog 27 #[.string wh] w fun e w' => e = .returned (.bool true) ∧ w' = w)
    (D2 : ∀ w, Calls Tryz.prog 27 #[.string pt] w fun e w' => e = .returned (.bool true) ∧ w' = w)
    (R1 : ∀ w, Calls Tryz.prog 28 #[.string wh] w fun e w' => e = .returned (.int .i64 x) ∧ w' = w)
    (R2 : ∀ w, Calls Tryz.prog 28 #[.string (pt ++ ⟨#[48]⟩)] w fun e w' => e = .returned (.int .i64 y) ∧ w' = w)
    (bx : 0 ≤ x ∧ x ≤ 99999) (by' : 0 ≤ y ∧ y ≤ 99) :
    Calls Tryz.prog 15 #[.string t] w fun e w' => e = .returned (.tuple #[.int .i64 (100 * x + y), .bool true]) ∧ ∃ n, w' = w.drewN n := by
  have tok1 : True := trivial
  have tok2 : True := trivial
  go_enter Tryz.func15, Tryz.ntmps15
  go_wp2_with (first | (go_at_call 8; refine (CC _).mono ?_; rintro e w' ⟨rfl, nd, rfl⟩) | (go_at_call 27; have _t := tok1; refine (D1 _).mono ?_; rintro e w' ⟨rfl, rfl⟩; clear tok1) | (go_at_call 27; refine (D2 _).mono ?_; rintro e w' ⟨rfl, rfl⟩) | (go_at_call 28; have _t := tok2; refine (R1 _).mono ?_; rintro e w' ⟨rfl, rfl⟩; clear tok2) | (go_at_call 28; refine (R2 _).mono ?_; rintro e w' ⟨rfl, rfl⟩))
  go_ret2
  exact ⟨rfl, _, rfl⟩

set_option maxHeartbeats 1000000 in
theorem hu_pos_f (t wh pt : ByteArray) (x y : Int) (w : World) (hs : t.size ≤ 1048576) (h1 : 1 ≤ t.size) (hn : (((t[0].toNat : Nat) : Int) == 45) = false) (hw : wh.size ≤ 5) (hp : pt.size ≤ 2) (hp1 : ((pt.size : Int) == 1) = false)
    (CC : ∀ w, Calls Tryz.prog 8 #[.string t, .int .u8 46] w fun e w' => e = .returned (.tuple #[.string wh, .string pt, .bool true]) ∧ ∃ n, w' = w.drewN n)
    (D1 : ∀ w, Calls Tryz.prog 27 #[.string wh] w fun e w' => e = .returned (.bool true) ∧ w' = w)
    (D2 : ∀ w, Calls Tryz.prog 27 #[.string pt] w fun e w' => e = .returned (.bool true) ∧ w' = w)
    (R1 : ∀ w, Calls Tryz.prog 28 #[.string wh] w fun e w' => e = .returned (.int .i64 x) ∧ w' = w)
    (R2 : ∀ w, Calls Tryz.prog 28 #[.string pt] w fun e w' => e = .returned (.int .i64 y) ∧ w' = w)
    (bx : 0 ≤ x ∧ x ≤ 99999) (by' : 0 ≤ y ∧ y ≤ 99) :
    Calls Tryz.prog 15 #[.string t] w fun e w' => e = .returned (.tuple #[.int .i64 (100 * x + y), .bool true]) ∧ ∃ n, w' = w.drewN n := by
  have tok1 : True := trivial
  have tok2 : True := trivial
  go_enter Tryz.func15, Tryz.ntmps15
  go_wp2_with (first | (go_at_call 8; refine (CC _).mono ?_; rintro e w' ⟨rfl, nd, rfl⟩) | (go_at_call 27; have _t := tok1; refine (D1 _).mono ?_; rintro e w' ⟨rfl, rfl⟩; clear tok1) | (go_at_call 27; refine (D2 _).mono ?_; rintro e w' ⟨rfl, rfl⟩) | (go_at_call 28; have _t := tok2; refine (R1 _).mono ?_; rintro e w' ⟨rfl, rfl⟩; clear tok2) | (go_at_call 28; refine (R2 _).mono ?_; rintro e w' ⟨rfl, rfl⟩))
  go_ret2
  exact ⟨rfl, _, rfl⟩

set_option maxHeartbeats 1000000 in
theorem hu_pos_g (t wh pt : ByteArray) (x y : Int) (w : World) (hs : t.size ≤ 1048576) (h1 : 1 ≤ t.size) (hn : (((t[0].toNat : Nat) : Int) == 45) = false) (hw : wh.size ≤ 5) (hp1 : ((pt.size : Int) == 1) = false) (hb2 : pt.size ≤ 1048576)
    (CC : ∀ w, Calls Tryz.prog 8 #[.string t, .int .u8 46] w fun e w' => e = .returned (.tuple #[.string wh, .string pt, .bool false]) ∧ ∃ n, w' = w.drewN n)
    (D1 : ∀ w, Calls Tryz.prog 27 #[.string wh] w fun e w' => e = .returned (.bool true) ∧ w' = w)
    (R1 : ∀ w, Calls Tryz.prog 28 #[.string wh] w fun e w' => e = .returned (.int .i64 x) ∧ w' = w)
    (R2 : ∀ w, Calls Tryz.prog 28 #[.string pt] w fun e w' => e = .returned (.int .i64 y) ∧ w' = w)
    (bx : 0 ≤ x ∧ x ≤ 99999) (by' : 0 ≤ y ∧ y ≤ 99) :
    Calls Tryz.prog 15 #[.string t] w fun e w' => e = .returned (.tuple #[.int .i64 (100 * x + y), .bool true]) ∧ ∃ n, w' = w.drewN n := by
  have tok1 : True := trivial
  have tok2 : True := trivial
  go_enter Tryz.func15, Tryz.ntmps15
  go_wp2_with (first | (go_at_call 8; refine (CC _).mono ?_; rintro e w' ⟨rfl, nd, rfl⟩) | (go_at_call 27; have _t := tok1; refine (D1 _).mono ?_; rintro e w' ⟨rfl, rfl⟩; clear tok1) | (go_at_call 28; have _t := tok2; refine (R1 _).mono ?_; rintro e w' ⟨rfl, rfl⟩; clear tok2) | (go_at_call 28; refine (R2 _).mono ?_; rintro e w' ⟨rfl, rfl⟩))
  go_ret2
  exact ⟨rfl, _, rfl⟩

set_option maxHeartbeats 1000000 in
theorem hu_emp_b (t wh pt : ByteArray) (dot : Bool) (w : World) (hs : t.size ≤ 1048576) (h1 : t.size = 0) (hw : wh.size ≤ 5) (hb1 : wh.size ≤ 1048576) (hb2 : pt.size ≤ 1048576)
    (CC : ∀ w, Calls Tryz.prog 8 #[.string t, .int .u8 46] w fun e w' => e = .returned (.tuple #[.string wh, .string pt, .bool dot]) ∧ ∃ n, w' = w.drewN n)
    (D1 : ∀ w, Calls Tryz.prog 27 #[.string wh] w fun e w' => e = .returned (.bool false) ∧ w' = w) :
    Calls Tryz.prog 15 #[.string t] w fun e w' => e = .returned (.tuple #[.int .i64 0, .bool false]) ∧ ∃ n, w' = w.drewN n := by
  have tok1 : True := trivial
  go_enter Tryz.func15, Tryz.ntmps15
  go_wp2_with (first | (go_at_call 8; refine (CC _).mono ?_; rintro e w' ⟨rfl, nd, rfl⟩) | (go_at_call 27; have _t := tok1; refine (D1 _).mono ?_; rintro e w' ⟨rfl, rfl⟩; clear tok1))
  go_ret2
  exact ⟨rfl, _, rfl⟩
end Go.Proofs.YtdgagjnkbmckoaaGreatDoor
