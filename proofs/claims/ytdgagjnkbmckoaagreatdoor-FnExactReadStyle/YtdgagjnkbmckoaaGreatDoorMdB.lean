/-
  The model's l4Value at a name that has no words.
-/
import Derived.Test.YtdgagjnkbmckoaaGreatDoorMdA
namespace Go.Proofs.YtdgagjnkbmckoaaGreatDoor
open Go.ChangeShapes Go.WideShapes Go.ChangeAt Go.RowKit
set_option linter.unusedVariables false

/-- What the model reads of a value that is no word. -/
def mvP (v : ByteArray) : Bool := decide (1 < v.size) && pcB v
def mvOk (v : ByteArray) : Bool := if autoB v then true else if mvP v then fitB (bodyOf (pcR v)) else readB v
def mvZ (v : ByteArray) : Sz := if autoB v then ⟨true, false, 0⟩ else if mvP v then ⟨false, true, if fitB (bodyOf (pcR v)) then signedH (pcR v) else 0⟩ else ⟨false, false, readN v⟩
theorem pc_last (t : ByteArray) (h : 1 < t.size) : pcB t = (((t[t.size - 1].toNat : Nat) : Int) == 37) := by
  have e : (t.extract (t.size - 1) t.size).toList = [t[t.size - 1]] := by
    rw [ByteArray.toList_eq]
    apply List.ext_getElem?
    intro i
    cases i with
    | zero => simp [ByteArray.getElem_eq_getElem_data]; rw [List.getElem?_take]; simp; omega
    | succ i => simp; omega
  unfold pcB
  rw [e, decide_eq_true (show 1 ≤ t.size by omega), Bool.true_and]
  rw [Bool.eq_iff_iff]
  simp only [beq_iff_eq, List.cons.injEq, and_true]
  constructor
  · intro k; rw [k]; rfl
  · intro k; exact UInt8.toNat_inj.1 (by have : t[t.size - 1].toNat = 37 := by omega
                                         rw [this]; rfl)

set_option maxHeartbeats 4000000 in
theorem value_auto (nm v : ByteArray) (w : World) (HW : ∀ w, Calls Tryz.prog 14 #[.string nm] w fun e w' => e = .returned (.slice none 0 0) ∧ w' = w) (h : (v.toList == [97, 117, 116, 111]) = true) :
    Calls Tryz.prog 9 #[.string nm, .string v] w fun e w' => e = .returned (.tuple #[.int .i64 0, .agg #[.bool true, .bool false, .int .i64 0], .bool true]) ∧ Below w.heap.size w w' := by
  go_enter Tryz.func9, Tryz.ntmps9
  go_wp2_with (go_at_call 14; refine (HW _).mono ?_; rintro e w1 ⟨rfl, rfl⟩)
  exact bodyPost_ret (v := .tuple #[.int .i64 0, .agg #[.bool true, .bool false, .int .i64 0], .bool true]) (by simp [results, Tryz.results9, go_sem]) rfl ⟨rfl, by repeat (first | exact Below.refl _ _ | refine Below.setCell ?_ (by first | (simp; done) | (simp; omega)) _ | refine Below.alloc ?_ (by first | (simp; done) | (simp; omega)) _ | refine below_drewN ?_ _)⟩
set_option maxHeartbeats 4000000 in
theorem value_pct (nm v : ByteArray) (w : World) (hs : v.size ≤ 1048576) (HW : ∀ w, Calls Tryz.prog 14 #[.string nm] w fun e w' => e = .returned (.slice none 0 0) ∧ w' = w) (h : (v.toList == [97, 117, 116, 111]) = false) (h1 : 1 < v.size) (h2 : (((v[v.size - 1].toNat : Nat) : Int) == 37) = true) :
    Calls Tryz.prog 9 #[.string nm, .string v] w fun e w' => e = .returned (.tuple #[.int .i64 0, .agg #[.bool false, .bool true, .int .i64 (if fitB (bodyOf (v.extract 0 (v.size - 1))) then signedH (v.extract 0 (v.size - 1)) else 0)], .bool (fitB (bodyOf (v.extract 0 (v.size - 1))))]) ∧ Below w.heap.size w w' := by
  have HH := fun w => hundredths_any (v.extract 0 (v.size - 1)) w (by simp; omega)
  generalize (if fitB (bodyOf (v.extract 0 (v.size - 1))) then signedH (v.extract 0 (v.size - 1)) else 0) = n at HH ⊢
  generalize fitB (bodyOf (v.extract 0 (v.size - 1))) = b at HH ⊢
  go_enter Tryz.func9, Tryz.ntmps9
  go_wp2_with (first
    | (go_at_call 14; refine (HW _).mono ?_; rintro e w1 ⟨rfl, rfl⟩)
    | (go_at_call 15; refine (HH _).mono ?_; rintro e w1 ⟨rfl, q, rfl⟩))
  exact bodyPost_ret (v := .tuple #[.int .i64 0, .agg #[.bool false, .bool true, .int .i64 n], .bool b]) (by simp [results, Tryz.results9, go_sem]) rfl ⟨rfl, by repeat (first | exact Below.refl _ _ | refine Below.setCell ?_ (by first | (simp; done) | (simp; omega)) _ | refine Below.alloc ?_ (by first | (simp; done) | (simp; omega)) _ | refine below_drewN ?_ _)⟩
set_option maxHeartbeats 4000000 in
theorem value_px (nm v : ByteArray) (w : World) (hs : v.size ≤ 1048576) (HW : ∀ w, Calls Tryz.prog 14 #[.string nm] w fun e w' => e = .returned (.slice none 0 0) ∧ w' = w) (h : (v.toList == [97, 117, 116, 111]) = false) (h1 : 1 < v.size) (h2 : (((v[v.size - 1].toNat : Nat) : Int) == 37) = false) :
    Calls Tryz.prog 9 #[.string nm, .string v] w fun e w' => e = .returned (.tuple #[.int .i64 0, .agg #[.bool false, .bool false, .int .i64 (readN v)], .bool (readB v)]) ∧ Below w.heap.size w w' := by
  have HH := fun w => spec_read v w hs
  generalize readN v = n at HH ⊢
  generalize readB v = b at HH ⊢
  go_enter Tryz.func9, Tryz.ntmps9
  go_wp2_with (first
    | (go_at_call 14; refine (HW _).mono ?_; rintro e w1 ⟨rfl, rfl⟩)
    | (go_at_call 16; refine (HH _).mono ?_; rintro e w1 ⟨rfl, q, rfl⟩)
    | (go_at_call 17; refine (l4Len_at _ _).mono ?_; rintro e w1 ⟨rfl, rfl⟩))
  exact bodyPost_ret (v := .tuple #[.int .i64 0, .agg #[.bool false, .bool false, .int .i64 n], .bool b]) (by simp [results, Tryz.results9, go_sem]) rfl ⟨rfl, by repeat (first | exact Below.refl _ _ | refine Below.setCell ?_ (by first | (simp; done) | (simp; omega)) _ | refine Below.alloc ?_ (by first | (simp; done) | (simp; omega)) _ | refine below_drewN ?_ _)⟩
set_option maxHeartbeats 4000000 in
theorem value_short (nm v : ByteArray) (w : World) (hs : v.size ≤ 1048576) (HW : ∀ w, Calls Tryz.prog 14 #[.string nm] w fun e w' => e = .returned (.slice none 0 0) ∧ w' = w) (h : (v.toList == [97, 117, 116, 111]) = false) (h1 : ¬ 1 < v.size) :
    Calls Tryz.prog 9 #[.string nm, .string v] w fun e w' => e = .returned (.tuple #[.int .i64 0, .agg #[.bool false, .bool false, .int .i64 (readN v)], .bool (readB v)]) ∧ Below w.heap.size w w' := by
  have HH := fun w => spec_read v w hs
  generalize readN v = n at HH ⊢
  generalize readB v = b at HH ⊢
  go_enter Tryz.func9, Tryz.ntmps9
  go_wp2_with (first
    | (go_at_call 14; refine (HW _).mono ?_; rintro e w1 ⟨rfl, rfl⟩)
    | (go_at_call 16; refine (HH _).mono ?_; rintro e w1 ⟨rfl, q, rfl⟩)
    | (go_at_call 17; refine (l4Len_at _ _).mono ?_; rintro e w1 ⟨rfl, rfl⟩))
  exact bodyPost_ret (v := .tuple #[.int .i64 0, .agg #[.bool false, .bool false, .int .i64 n], .bool b]) (by simp [results, Tryz.results9, go_sem]) rfl ⟨rfl, by repeat (first | exact Below.refl _ _ | refine Below.setCell ?_ (by first | (simp; done) | (simp; omega)) _ | refine Below.alloc ?_ (by first | (simp; done) | (simp; omega)) _ | refine below_drewN ?_ _)⟩
theorem value_plain (nm v : ByteArray) (w : World) (hs : v.size ≤ 1048576) (HW : ∀ w, Calls Tryz.prog 14 #[.string nm] w fun e w' => e = .returned (.slice none 0 0) ∧ w' = w) :
    Calls Tryz.prog 9 #[.string nm, .string v] w fun e w' => e = .returned (.tuple #[.int .i64 0, .agg #[.bool (mvZ v).a, .bool (mvZ v).p, .int .i64 (mvZ v).n], .bool (mvOk v)]) ∧ Below w.heap.size w w' := by
  cases h : autoB v
  rotate_left
  · simpa [mvZ, mvOk, h] using value_auto nm v w HW h
  by_cases h1 : 1 < v.size
  rotate_left
  · have e : mvP v = false := by simp [mvP, h1]
    simpa [mvZ, mvOk, h, e] using value_short nm v w hs HW h h1
  have hp := pc_last v h1
  cases h2 : pcB v
  · have e : mvP v = false := by simp [mvP, h2]
    rw [h2] at hp
    simpa [mvZ, mvOk, h, e] using value_px nm v w hs HW h h1 hp.symm
  · have e : mvP v = true := by simp [mvP, h2, h1]
    have e2 : pcR v = v.extract 0 (v.size - 1) := by simp [pcR, h2]
    rw [h2] at hp
    simpa [mvZ, mvOk, h, e, e2] using value_pct nm v w hs HW h h1 hp.symm
end Go.Proofs.YtdgagjnkbmckoaaGreatDoor
