/-
  Contracts of a letter's width and of a plain text, of the program and of its model.
-/
import Derived.Test.YtllkbokkhdomoabDoorRRAdvPlain
import Derived.Deep.RegionWith
import Derived.Deep.DeepFit
namespace Go.Proofs.YtllkbokkhdomoabDoorRR
open Go.ChangeShapes Go.WideShapes Go.ChangeAt Go.RowKit
set_option linter.unusedVariables false

theorem ret_i {a b : Int} (h : a = b) : Ending.returned (.int .i64 a) = .returned (.int .i64 b) := by rw [h]

set_option maxHeartbeats 4000000 in
theorem specOne_any (fa fd fn fu fb z : Int) (w : World) :
    Calls Tryd.prog 37 #[.agg #[.int .i64 fa, .int .i64 fd, .int .i64 fn, .int .i64 fu, .int .i64 fb], .int .u8 z] w fun e w' => e = .returned (.int .i64 (wid fn fu fb z)) ∧ Below w.heap.size w w' := by
  have hz : z = 105 ∨ z = 106 ∨ z = 108 ∨ z = 46 ∨ z = 44 ∨ z = 59 ∨ z = 58 ∨ z = 39 ∨ z = 33 ∨ z = 124 ∨ z = 32 ∨ z = 109 ∨ z = 119 ∨ z = 77 ∨ z = 87 ∨ z = 64 ∨
      (z ≠ 105 ∧ z ≠ 106 ∧ z ≠ 108 ∧ z ≠ 46 ∧ z ≠ 44 ∧ z ≠ 59 ∧ z ≠ 58 ∧ z ≠ 39 ∧ z ≠ 33 ∧ z ≠ 124 ∧ z ≠ 32 ∧ z ≠ 109 ∧ z ≠ 119 ∧ z ≠ 77 ∧ z ≠ 87 ∧ z ≠ 64) := by omega
  rcases hz with rfl | rfl | rfl | rfl | rfl | rfl | rfl | rfl | rfl | rfl | rfl | rfl | rfl | rfl | rfl | rfl | ⟨n1, n2, n3, n4, n5, n6, n7, n8, n9, n10, n11, n12, n13, n14, n15, n16⟩
  rotate_right
  · have hk : wid fn fu fb z = fu := (wid_0 (by unfold kindOf; rw [if_neg (by omega), if_neg (by omega)])).symm
    have HK : Hid (wid fn fu fb z = fu) := hk
    clear hk
    go_enter Tryd.func37, Tryd.ntmps37
    go_wp2
    go_ret
    exact ⟨ret_i HK.out.symm, (Below.refl _ _).alloc (Nat.le_refl _) _⟩
  all_goals
    go_enter Tryd.func37, Tryd.ntmps37
    go_wp2
    go_ret
    exact ⟨ret_i rfl, (Below.refl _ _).alloc (Nat.le_refl _) _⟩

/-- The program's table of letters. -/
def Kinds (w : World) : Prop := 0 < w.heap.size ∧ ∀ j : Nat, j < 127 → w.cell? ⟨0, j, none⟩ = some (.int .u8 (kindOf j))
theorem Kinds.below {w w' : World} (h : Kinds w) (hb : Below w.heap.size w w') : Kinds w' :=
  ⟨Nat.lt_of_lt_of_le h.1 hb.size, fun j hj => (hb.cell (p := ⟨0, j, none⟩) h.1).trans (h.2 j hj)⟩

set_option maxHeartbeats 4000000 in
theorem implOne_any (fa fd fn fu fb : Int) (z : Nat) (w : World) (hz : z < 127) (hK : Kinds w) :
    Calls Tryd.prog 31 #[.agg #[.int .i64 fa, .int .i64 fd, .int .i64 fn, .int .i64 fu, .int .i64 fb], .int .u8 z] w fun e w' => e = .returned (.int .i64 (wid fn fu fb z)) ∧ Below w.heap.size w w' := by
  obtain ⟨hp, hc⟩ := hK
  have hcz := hc z hz
  clear hc
  rcases kindOf_three z with h | h | h
  · have HW : Hid (fu = wid fn fu fb z) := wid_0 h
    rw [h] at hcz
    clear h
    go_enter Tryd.func31, Tryd.ntmps31
    go_wp2
    go_ret
    exact ⟨ret_i HW.out, ((Below.refl _ _).alloc (Nat.le_refl _) _).alloc (by simp) _⟩
  · have HW : Hid (fn = wid fn fu fb z) := wid_1 h
    rw [h] at hcz
    clear h
    go_enter Tryd.func31, Tryd.ntmps31
    go_wp2
    go_ret
    exact ⟨ret_i HW.out, ((Below.refl _ _).alloc (Nat.le_refl _) _).alloc (by simp) _⟩
  · have HW : Hid (fb = wid fn fu fb z) := wid_2 h
    rw [h] at hcz
    clear h
    go_enter Tryd.func31, Tryd.ntmps31
    go_wp2
    go_ret
    exact ⟨ret_i HW.out, ((Below.refl _ _).alloc (Nat.le_refl _) _).alloc (by simp) _⟩
end Go.Proofs.YtllkbokkhdomoabDoorRR
