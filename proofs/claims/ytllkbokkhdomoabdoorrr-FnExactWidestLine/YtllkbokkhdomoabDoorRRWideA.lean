/-
  Contracts of the model's line: what of it is measured, and its width; lines of at most 400 bytes.
-/
import Derived.Test.YtllkbokkhdomoabDoorRRWidePlain
import Derived.Deep.RegionHeld3
namespace Go.Proofs.YtllkbokkhdomoabDoorRR
open Go.ChangeShapes Go.WideShapes Go.ChangeAt Go.RowKit
set_option linter.unusedVariables false

theorem end_at (y : ByteArray) (h : 0 < y.size) : (y[y.size - 1].toNat : Int) = (endZ y : Int) := by
  unfold endZ; rw [at_list y (y.size - 1) (by omega)]
def sizeV : Value → Nat
  | .string y => y.size
  | _ => 0
theorem retStr {a b : ByteArray} (h : a = b) : Ending.returned (.string a) = .returned (.string b) := by rw [h]

set_option maxHeartbeats 2000000 in
theorem specBare_any (x : ByteArray) (w : World) (hs : x.size ≤ 400) :
    Calls Tryd.prog 27 #[.string x] w fun e w' => e = .returned (.string (bareS x)) ∧ w' = w := by
  obtain ⟨r, hr⟩ : ∃ r, r = bareS x := ⟨_, rfl⟩
  rw [← hr]
  by_cases h0 : 0 < x.size
  · have h0' : (0 : Int) < (x.size : Int) := by omega
    have g1 : (0 : Int) ≤ (x.size : Int) - 1 := by omega
    have g2 : (x.size : Int) - 1 ≤ (x.size : Int) := by omega
    have g3 : (x.size : Int) - 1 < (x.size : Int) := by omega
    have he := end_at x h0
    by_cases h10 : endZ x = 10
    · have HR : Hid (r = cutB (cutOne x).size (cutOne x)) := by show _ = _; rw [hr]; unfold bareS; rw [if_pos ⟨h0, h10⟩]
      have hcs := cutOne_size x
      rw [h10] at he
      clear hr h10
      go_enter Tryd.func27, Tryd.ntmps27
      go_wp2_with fail
      go_loop [0] (fun v => ∃ y : ByteArray, y.size ≤ 400 ∧ v = .string y ∧ Hid (r = cutB y.size y)) (fun v => sizeV v)
      case atStart => exact ⟨cutOne x, by omega, rfl, HR⟩
      case round =>
        obtain ⟨y, hy, rfl, HY⟩ := hrel
        clear HR
        by_cases y0 : 0 < y.size
        · have y0' : (0 : Int) < (y.size : Int) := by omega
          have k1 : (0 : Int) ≤ (y.size : Int) - 1 := by omega
          have k2 : (y.size : Int) - 1 ≤ (y.size : Int) := by omega
          have k3 : (y.size : Int) - 1 < (y.size : Int) := by omega
          have ye := end_at y y0
          by_cases y32 : endZ y = 32
          · have HY2 : Hid (r = cutB (cutOne y).size (cutOne y)) := HY.out.trans (cutB_go y0 y32)
            rw [y32] at ye
            clear HY y32
            go_wp2
            go_round
            case rel => exact ⟨cutOne y, by rw [cutOne_size]; omega, rfl, HY2⟩
            case measure => show (cutOne y).size < y.size; rw [cutOne_size]; omega
          · have HY2 : Hid (y = r) := (HY.out.trans (cutB_stop (fun h => y32 h.2))).symm
            have b32 : ((endZ y : Int) == 32) = false := by simp; omega
            clear HY
            go_wp2
            go_ret
            exact ⟨retStr HY2.out, rfl⟩
        · have HY2 : Hid (y = r) := (HY.out.trans (cutB_stop (fun h => y0 h.1))).symm
          have e0 : y.size = 0 := by omega
          have y0' : ¬ (0 : Int) < (y.size : Int) := by omega
          have d0 : decide ((0 : Int) < (y.size : Int)) = false := by simpa using y0'
          clear HY
          go_wp2
          go_ret
          exact ⟨retStr HY2.out, rfl⟩
    · have HR : Hid (r = cutB x.size x) := by show _ = _; rw [hr]; unfold bareS; rw [if_neg (fun h => h10 h.2)]
      have b10 : ((endZ x : Int) == 10) = false := by simp; omega
      clear hr
      go_enter Tryd.func27, Tryd.ntmps27
      go_wp2_with fail
      go_loop [0] (fun v => ∃ y : ByteArray, y.size ≤ 400 ∧ v = .string y ∧ Hid (r = cutB y.size y)) (fun v => sizeV v)
      case atStart => exact ⟨x, by omega, rfl, HR⟩
      case round =>
        obtain ⟨y, hy, rfl, HY⟩ := hrel
        clear HR
        by_cases y0 : 0 < y.size
        · have y0' : (0 : Int) < (y.size : Int) := by omega
          have k1 : (0 : Int) ≤ (y.size : Int) - 1 := by omega
          have k2 : (y.size : Int) - 1 ≤ (y.size : Int) := by omega
          have k3 : (y.size : Int) - 1 < (y.size : Int) := by omega
          have ye := end_at y y0
          by_cases y32 : endZ y = 32
          · have HY2 : Hid (r = cutB (cutOne y).size (cutOne y)) := HY.out.trans (cutB_go y0 y32)
            rw [y32] at ye
            clear HY y32
            go_wp2
            go_round
            case rel => exact ⟨cutOne y, by rw [cutOne_size]; omega, rfl, HY2⟩
            case measure => show (cutOne y).size < y.size; rw [cutOne_size]; omega
          · have HY2 : Hid (y = r) := (HY.out.trans (cutB_stop (fun h => y32 h.2))).symm
            have b32 : ((endZ y : Int) == 32) = false := by simp; omega
            clear HY
            go_wp2
            go_ret
            exact ⟨retStr HY2.out, rfl⟩
        · have HY2 : Hid (y = r) := (HY.out.trans (cutB_stop (fun h => y0 h.1))).symm
          have e0 : y.size = 0 := by omega
          have y0' : ¬ (0 : Int) < (y.size : Int) := by omega
          have d0 : decide ((0 : Int) < (y.size : Int)) = false := by simpa using y0'
          clear HY
          go_wp2
          go_ret
          exact ⟨retStr HY2.out, rfl⟩
  · have HR : Hid (r = cutB x.size x) := by show _ = _; rw [hr]; unfold bareS; rw [if_neg (fun h => h0 h.1)]
    have x0' : ¬ (0 : Int) < (x.size : Int) := by omega
    have d0 : decide ((0 : Int) < (x.size : Int)) = false := by simpa using x0'
    have e0 : x.size = 0 := by omega
    clear hr
    go_enter Tryd.func27, Tryd.ntmps27
    go_wp2_with fail
    go_loop [0] (fun v => ∃ y : ByteArray, y.size ≤ 400 ∧ v = .string y ∧ Hid (r = cutB y.size y)) (fun v => sizeV v)
    case atStart => exact ⟨x, by omega, rfl, HR⟩
    case round =>
      obtain ⟨y, hy, rfl, HY⟩ := hrel
      clear HR
      by_cases y0 : 0 < y.size
      · have y0' : (0 : Int) < (y.size : Int) := by omega
        have k1 : (0 : Int) ≤ (y.size : Int) - 1 := by omega
        have k2 : (y.size : Int) - 1 ≤ (y.size : Int) := by omega
        have k3 : (y.size : Int) - 1 < (y.size : Int) := by omega
        have ye := end_at y y0
        by_cases y32 : endZ y = 32
        · have HY2 : Hid (r = cutB (cutOne y).size (cutOne y)) := HY.out.trans (cutB_go y0 y32)
          rw [y32] at ye
          clear HY y32
          go_wp2
          go_round
          case rel => exact ⟨cutOne y, by rw [cutOne_size]; omega, rfl, HY2⟩
          case measure => show (cutOne y).size < y.size; rw [cutOne_size]; omega
        · have HY2 : Hid (y = r) := (HY.out.trans (cutB_stop (fun h => y32 h.2))).symm
          have b32 : ((endZ y : Int) == 32) = false := by simp; omega
          clear HY
          go_wp2
          go_ret
          exact ⟨retStr HY2.out, rfl⟩
      · have HY2 : Hid (y = r) := (HY.out.trans (cutB_stop (fun h => y0 h.1))).symm
        have e0 : y.size = 0 := by omega
        have y0' : ¬ (0 : Int) < (y.size : Int) := by omega
        have d0 : decide ((0 : Int) < (y.size : Int)) = false := by simpa using y0'
        clear HY
        go_wp2
        go_ret
        exact ⟨retStr HY2.out, rfl⟩

theorem below_grow {w W w1 : World} (h : Below W.heap.size W w1) (hW : Below w.heap.size w W) : Below w.heap.size w w1 := hW.trans (h.mono hW.size)

/-- A line's width. -/
def Wd (fn fu fb : Int) (x : ByteArray) : Int := advK fn fu fb (bareS x) (bareS x).size

set_option maxHeartbeats 4000000 in
theorem specWidth_any (fa fd fn fu fb : Int) (x : ByteArray) (w : World) (hs : x.size ≤ 400) (hf : 1 ≤ fn ∧ fn ≤ 6400 ∧ 1 ≤ fu ∧ fu ≤ 6400 ∧ 1 ≤ fb ∧ fb ≤ 6400) :
    Calls Tryd.prog 21 #[.agg #[.int .i64 fa, .int .i64 fd, .int .i64 fn, .int .i64 fu, .int .i64 fb], .string x] w fun e w' => e = .returned (.int .i64 (Wd fn fu fb x)) ∧ Below w.heap.size w w' := by
  have BA := fun w => specBare_any x w hs
  have AD := fun w => specAdv_any fa fd fn fu fb (bareS x) w (Nat.le_trans (bare_size x) hs) hf
  have hWd : Wd fn fu fb x = advK fn fu fb (bareS x) (bareS x).size := rfl
  rw [hWd]
  clear hWd
  generalize bareS x = y at BA AD
  generalize advK fn fu fb y y.size = z at AD
  go_enter Tryd.func21, Tryd.ntmps21
  go_wp2
  go_region_with (first | (go_at_call 27; go_fit (BA _); rintro e w1 ⟨rfl, rfl⟩) | (go_at_call 26; go_fit (AD _); rintro e w1 ⟨rfl, hb⟩))
  all_goals
    go_wp2
    go_ret
    exact ⟨rfl, below_grow hb (by repeat (first | exact Below.refl _ _ | refine Below.drew ?_ | refine Below.alloc ?_ (by first | (simp; done) | (simp; omega)) _))⟩
end Go.Proofs.YtllkbokkhdomoabDoorRR
