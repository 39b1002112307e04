/-
  Contract of the program's lineWidth: what AdvanceOf answers of the line without its line break and its blanks at the end.
-/
import Derived.Test.YtllkbokkhdomoabDoorRRWideC
import Derived.Test.YtllkbokkhdomoabDoorRRAdv3
namespace Go.Proofs.YtllkbokkhdomoabDoorRR
open Go.ChangeShapes Go.WideShapes Go.ChangeAt Go.RowKit
set_option linter.unusedVariables false

set_option maxRecDepth 100000 in
set_option maxHeartbeats 8000000 in
theorem lineWidth_any (fa fd fn fu fb : Int) (x : ByteArray) (w : World) (hs : x.size ≤ maxLen) (hK : Kinds w) :
    Calls Tryd.prog 19 #[.agg #[.int .i64 fa, .int .i64 fd, .int .i64 fn, .int .i64 fu, .int .i64 fb], .string x] w fun e w' => e = .returned (.int .i64 (advN fa fd fn fu fb (bareS x))) ∧ Below w.heap.size w w' := by
  have hBk := box_new w fa fd fn fu fb
  obtain ⟨y, hy⟩ : ∃ y : ByteArray, y = ⟨(Lib.trimSuffix x.data.toList [10]).toArray⟩ := ⟨_, rfl⟩
  have TS : ∀ W : World, Calls Tryd.prog 25 #[.string x, .string ⟨#[10]⟩] W fun e w' => e = .returned (.string y) ∧ w' = W := fun W => by
    rw [hy]; exact Tryd.strings_TrimSuffix x ⟨#[10]⟩ W (by unfold maxLen at hs; omega)
  have hys : y.size ≤ 9223372036854775807 := by
    have h1 : y.size = (Lib.trimSuffix x.data.toList [10]).length := by rw [hy]; simp [ByteArray.size]
    have h2 : (Lib.trimSuffix x.data.toList [10]).length ≤ x.size := by
      rw [trimSuffix_ten]
      split
      · rw [cutOne_list]; simp
      · simp
    unfold maxLen at hs
    omega
  have TR : ∀ W : World, Calls Tryd.prog 24 #[.string y, .string ⟨#[32]⟩] W fun e w' => e = .returned (.string (bareS x)) ∧ w' = W := fun W => by
    have h := Tryd.strings_TrimRight_one y 32 (by decide) W hys
    have e : (⟨(Lib.trimRightB y.data.toList 32).toArray⟩ : ByteArray) = bareS x := by rw [hy, ← bare_eq]
    rw [e] at h
    exact h
  have hbs : (bareS x).size ≤ maxLen := Nat.le_trans (bare_size x) hs
  have AD := fun (W : World) (hW : Below w.heap.size w W) => implAdvance_any fa fd fn fu fb (bareS x) W hbs (hK.below hW)
  generalize bareS x = b at TR AD hbs ⊢
  generalize advN fa fd fn fu fb b = n at AD ⊢
  generalize advB fa fd fn fu fb b = o at AD
  clear hy hys hbs hs
  go_enter Tryd.func19, Tryd.ntmps19
  go_wp2_with fail
  go_region_held3 (fun w' => w'.cell? ⟨w.heap.size, 0, none⟩ = some (.int .i64 fa) ∧ w'.cell? ⟨w.heap.size, 1, none⟩ = some (.int .i64 fd) ∧ w'.cell? ⟨w.heap.size, 2, none⟩ = some (.int .i64 fn) ∧ w'.cell? ⟨w.heap.size, 3, none⟩ = some (.int .i64 fu) ∧ w'.cell? ⟨w.heap.size, 4, none⟩ = some (.int .i64 fb))
    (first | go_keep | exact hx1.2)
    ((first
      | (go_at_call 25; refine (TS _).mono ?_; rintro e w1 ⟨rfl, hw⟩; subst hw)
      | (go_at_call 24; refine (TR _).mono ?_; rintro e w1 ⟨rfl, hw⟩; subst hw)
      | (go_at_call 23; refine (AD _ (by repeat (first | exact Below.refl _ _ | refine Below.drew ?_ | refine Below.alloc ?_ (by first | (simp; done) | (simp; omega)) _))).mono ?_; rintro e w1 ⟨rfl, hb⟩; have hx1 : BoxAt w1 w.heap.size fa fd fn fu fb := hBk.below ⟨hb.os, hb.tape, hb.output, hb.size, hb.block⟩)
      | fail))
  all_goals
    have bw1 : Below w.heap.size w w1 := below_grow hb (by repeat (first | exact Below.refl _ _ | refine Below.drew ?_ | refine Below.alloc ?_ (by first | (simp; done) | (simp; omega)) _))
    clear hb hx1
    go_wp2
    go_ret
    exact ⟨rfl, bw1⟩
end Go.Proofs.YtllkbokkhdomoabDoorRR
