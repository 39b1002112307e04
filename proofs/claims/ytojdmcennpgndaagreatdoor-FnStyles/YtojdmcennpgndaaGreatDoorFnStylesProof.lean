/-
  For drawn styles StyleText and FixStyle answer as their models do, a style comes back from its text, and what is fixed stays fixed: the card of the law FnStyles, which returns true at every input, where the package-level tables and errors that its row lists hold what the program's own text lays in them. The card ties those variables to the pruned copy of the project that this seat was turned of.
-/
import Derived.Test.YtojdmcennpgndaaGreatDoorCards
import Derived.Test.YtojdmcennpgndaaGreatDoorTie
import Derived.Test.YtojdmcennpgndaaGreatDoorMTx
import Derived.Test.YtojdmcennpgndaaGreatDoorMGh
import Derived.Test.YtojdmcennpgndaaGreatDoorMDr
import Derived.Test.YtojdmcennpgndaaGreatDoorEnvS
import Derived.Test.YtojdmcennpgndaaGreatDoorBytes
import Derived.ShutString
import Derived.ChangeOld
import Derived.Below
import Derived.Deep.DeepHandedRow
import Derived.OpenVars
import Derived.ChangeVars
import Derived.LaidMore
import Derived.Stop.Joined
import Derived.SevenTiedAt
import Derived.SizedLaws
namespace Go.Proofs.YtojdmcennpgndaaGreatDoor.fnStyles
open Go.ChangeShapes Go.WideShapes Go.ChangeAt Go.RowKit
open Go.ChangeMaps (open_string shut_string)
set_option linter.unusedVariables false

theorem own : ownKnob Tryz.prog.godebug = none := by kernel_rfl
theorem laidOut : laidOutB Tryz.prog = true := by kernel_rfl

set_option maxRecDepth 100000 in
set_option maxHeartbeats 16000000 in
theorem walk (a : Option Addr) (len cap : Nat) (w : World) (hB : RowB w a len) (hl : len ≤ 140737488355328) (E : Env w) (S : ∃ au ab, Sent w au ab) (hT : ErrT w) (lt1 : ∃ et ev, w.cell? ⟨1, 0, none⟩ = some (.iface et ev)) :
    Calls Tryz.prog 3 #[.slice a len cap] w fun e w' => e = .returned (.bool true) ∧ Below w.heap.size w w' := by
  obtain ⟨au, ab, S⟩ := S
  obtain ⟨et, ev, he⟩ := E.b
  obtain ⟨ut, uv, hu⟩ := lt1
  have lte : 2 < w.heap.size := World.block_lt_of_cell? _ ⟨2, 0, none⟩ he
  have ltu : 1 < w.heap.size := World.block_lt_of_cell? _ ⟨1, 0, none⟩ hu
  by_cases hbig : 1048576 < len
  · have hbig' : (1048576 : Int) < (len : Int) := by omega
    clear hB E S hT he hu
    go_enter Tryz.func3, Tryz.ntmps3
    go_wp2
    go_ret
    exact ⟨rfl, Below.refl _ _⟩
  have hbig' : ¬ ((1048576 : Int) < (len : Int)) := by omega
  have D := drawStyle_any a len cap w (by omega) hB
  have HEV : Hid (Env w ∧ Sent w au ab ∧ ErrT w ∧ w.cell? ⟨2, 0, none⟩ = some (.iface et ev) ∧ w.cell? ⟨1, 0, none⟩ = some (.iface ut uv)) := ⟨E, S, hT, he, hu⟩
  clear hB E S hT he hu
  go_enter Tryz.func3, Tryz.ntmps3
  go_wp2_with fail
  refine D.mono ?_
  rintro e w1 ⟨s, rfl, bel⟩
  clear D
  have T1 := fun (W : World) (hb : Below w.heap.size w W) => implStyleText_any s W (HEV.out.1.below hb (Nat.le_refl _))
  have T2 := fun W => specStyleText_any s W
  have F1 := fun (W : World) (hb : Below w.heap.size w W) => implFix_any s W et ev ((hb.cell (p := ⟨2, 0, none⟩) lte).trans HEV.out.2.2.2.1)
  have F2 := fun W => specFix_any s W
  have G1 := fun (W : World) (hb : Below w.heap.size w W) => implGoodStyle_any s W et ev ((hb.cell (p := ⟨2, 0, none⟩) lte).trans HEV.out.2.2.2.1)
  have RD : Hid (txtB s = true → ∀ W, Below w.heap.size w W → Calls Tryz.prog 7 #[.string (txtT s)] W fun e w' => e = .returned (.tuple #[.agg (stCells s), .bool true]) ∧ Below W.heap.size W w') := by
    show _ → _
    intro ht W hb
    have hgs : styleB s = true := by unfold txtB at ht; rw [Bool.and_eq_true] at ht; exact ht.1
    have htt : txtT s = textTo s 18 := by unfold txtT; rw [if_pos ht]
    have hsz : (txtT s).size ≤ 1048576 := by rw [htt]; exact Nat.le_trans (textTo_size s hgs 18 (Nat.le_refl _)) (by omega)
    refine (implReadStyle_any (txtT s) W hsz (HEV.out.1.below hb (Nat.le_refl _)) au ab (HEV.out.2.1.below hb) (HEV.out.2.2.1.below hb) ⟨ut, uv, (hb.cell (p := ⟨1, 0, none⟩) ltu).trans HEV.out.2.2.2.2⟩ (ghost (txtT s))).mono ?_
    rintro e w' ⟨h | h, hb'⟩
    · obtain ⟨Y, rfl, _, hY⟩ := h
      have e := hY s ⟨ht, htt.symm⟩
      subst e
      exact ⟨rfl, hb'⟩
    · exact absurd ⟨s, ht, htt.symm⟩ h.2
  have F3 : Hid (styleB s = true → ∀ W, Below w.heap.size w W → Calls Tryz.prog 8 #[.agg (stCells (fixR s))] W fun e w' => e = .returned (.tuple #[.agg (stCells (fixR s)), .bool true]) ∧ Below W.heap.size W w') := by
    show _ → _
    intro hgs W hb
    obtain ⟨g1, g2⟩ := fixR_twice hgs
    have h := implFix_any (fixR s) W et ev ((hb.cell (p := ⟨2, 0, none⟩) lte).trans HEV.out.2.2.2.1)
    rw [g1, g2] at h
    exact h
  have HTB : Hid (txtB s = true → styleB s = true) := fun ht => by unfold txtB at ht; rw [Bool.and_eq_true] at ht; exact ht.1
  have NS := fun W => fsNe s W
  have NF := fun W => fsNe (fixR s) W
  have ES := fun W => fsEq (fixR s) W
  have GA := fun (w : World) (x y : Operand) => run_eqGuard_agg (P := Tryz.prog) w .neq 26 x y (stCells s) (stCells s) fsSt_guard
  have GB := fun (w : World) (x y : Operand) => run_eqGuard_agg (P := Tryz.prog) w .neq 26 x y (stCells (fixR s)) (stCells (fixR s)) fsSt_guard
  have GC := fun (w : World) (x y : Operand) => run_eqGuard_agg (P := Tryz.prog) w .eql 26 x y (stCells (fixR s)) (stCells (fixR s)) fsSt_guard
  generalize txtT s = tt at T1 T2 RD
  go_wp2_with (first | ((with_reducible show wpList _ _ _ (⟨none, Op.store 26 (Operand.tmp 3) (Operand.tmp 20), _, _, _, _⟩ :: _) _ _); refine wpList_store_new rfl 26 _ _ rfl rfl (stCells s) 26 _ _ rfl rfl rfl (by kernel_rfl) rfl (by kernel_rfl) ?_; have l3 := heap_at w1 (.cells (stCells s) 26) _ rfl; replace bel := bel.alloc bel.size (.cells (stCells s) 26)) | ((with_reducible show wpList _ _ _ (⟨some 22, Op.load 26 _, _, _, _, _⟩ :: _) _ _); refine wpList_load_row rfl 26 _ rfl (w1.heap.size) rfl _ (stCells s) _ _ l3 Tryz.underlying26 rfl (by kernel_rfl) ?_))
  refine (T1 _ bel).mono ?_
  rintro e w2 ⟨rfl, hb⟩
  replace bel := bel.trans (hb.mono bel.size)
  replace l3 := below_lies hb l3 (lies_lt l3)
  clear hb
  go_wp2_with ((with_reducible show wpList _ _ _ (⟨some 27, Op.load 26 _, _, _, _, _⟩ :: _) _ _); refine wpList_load_row rfl 26 _ rfl (w1.heap.size) rfl _ (stCells s) _ _ l3 Tryz.underlying26 rfl (by kernel_rfl) ?_)
  refine (T2 _).mono ?_
  rintro e w3 ⟨rfl, hb⟩
  replace bel := bel.trans (hb.mono bel.size)
  replace l3 := below_lies hb l3 (lies_lt l3)
  clear hb
  clear T1 T2
  rcases Bool.eq_false_or_eq_true (txtB s) with ht | ht
  · have hg := HTB.out ht
    have RD' := RD.out ht
    have F3' := F3.out hg
    rw [hg] at F1 F2
    rw [ht]
    clear RD F3 HTB ht hg G1
    go_wp2_with fail
    refine (RD' _ bel).mono ?_
    rintro e w4 ⟨rfl, hb⟩
    replace bel := bel.trans (hb.mono bel.size)
    replace l3 := below_lies hb l3 (lies_lt l3)
    clear hb
    clear RD'
    go_wp2_with (first | ((with_reducible show wpList _ _ _ (⟨none, Op.store 26 (Operand.tmp 8) (Operand.tmp 43), _, _, _, _⟩ :: _) _ _); refine wpList_store_new rfl 26 _ _ rfl rfl (stCells s) 26 _ _ rfl rfl rfl (by kernel_rfl) rfl (by kernel_rfl) ?_; have l8 := heap_at w4 (.cells (stCells s) 26) _ rfl; replace l3 := heap_in (o := .cells (stCells s) 26) l3; replace bel := bel.alloc bel.size (.cells (stCells s) 26)) | ((with_reducible show wpList _ _ _ (⟨some 48, Op.load 26 _, _, _, _, _⟩ :: _) _ _); refine fsLoadG (by rfl) 26 _ rfl (w4.heap.size) 0 rfl (stCells s).toList _ (fsRange l8) Tryz.underlying26 rfl (by kernel_rfl) ?_) | ((with_reducible show wpList _ _ _ (⟨some 49, Op.load 26 _, _, _, _, _⟩ :: _) _ _); refine fsLoadG (by rfl) 26 _ rfl (w1.heap.size) 0 rfl (stCells s).toList _ (fsRange l3) Tryz.underlying26 rfl (by kernel_rfl) ?_) | ((with_reducible show wpList _ _ _ (⟨some 53, Op.load 26 _, _, _, _, _⟩ :: _) _ _); refine wpList_load_row rfl 26 _ rfl (w1.heap.size) rfl _ (stCells s) _ _ l3 Tryz.underlying26 rfl (by kernel_rfl) ?_))
    refine (F1 _ bel).mono ?_
    rintro e w5 ⟨rfl, hb⟩
    replace bel := bel.trans (hb.mono bel.size)
    replace l3 := below_lies hb l3 (lies_lt l3)
    replace l8 := below_lies hb l8 (lies_lt l8)
    clear hb
    go_wp2_with (first | ((with_reducible show wpList _ _ _ (⟨none, Op.store 26 (Operand.tmp 10) (Operand.tmp 55), _, _, _, _⟩ :: _) _ _); refine wpList_store_new rfl 26 _ _ rfl rfl (stCells (fixR s)) 26 _ _ rfl rfl rfl (by kernel_rfl) rfl (by kernel_rfl) ?_; have l10 := heap_at w5 (.cells (stCells (fixR s)) 26) _ rfl; replace l3 := heap_in (o := .cells (stCells (fixR s)) 26) l3; replace l8 := heap_in (o := .cells (stCells (fixR s)) 26) l8; replace bel := bel.alloc bel.size (.cells (stCells (fixR s)) 26)) | ((with_reducible show wpList _ _ _ (⟨some 58, Op.load 26 _, _, _, _, _⟩ :: _) _ _); refine wpList_load_row rfl 26 _ rfl (w1.heap.size) rfl _ (stCells s) _ _ l3 Tryz.underlying26 rfl (by kernel_rfl) ?_))
    refine (F2 _).mono ?_
    rintro e w6 ⟨rfl, hb⟩
    replace bel := bel.trans (hb.mono bel.size)
    replace l3 := below_lies hb l3 (lies_lt l3)
    replace l8 := below_lies hb l8 (lies_lt l8)
    replace l10 := below_lies hb l10 (lies_lt l10)
    clear hb
    go_wp2_with (first | ((with_reducible show wpList _ _ _ (⟨none, Op.store 26 (Operand.tmp 12) (Operand.tmp 60), _, _, _, _⟩ :: _) _ _); refine wpList_store_new rfl 26 _ _ rfl rfl (stCells (fixR s)) 26 _ _ rfl rfl rfl (by kernel_rfl) rfl (by kernel_rfl) ?_; have l12 := heap_at w6 (.cells (stCells (fixR s)) 26) _ rfl; replace l3 := heap_in (o := .cells (stCells (fixR s)) 26) l3; replace l8 := heap_in (o := .cells (stCells (fixR s)) 26) l8; replace l10 := heap_in (o := .cells (stCells (fixR s)) 26) l10; replace bel := bel.alloc bel.size (.cells (stCells (fixR s)) 26)) | ((with_reducible show wpList _ _ _ (⟨some 66, Op.load 26 _, _, _, _, _⟩ :: _) _ _); refine fsLoadG (by rfl) 26 _ rfl (w5.heap.size) 0 rfl (stCells (fixR s)).toList _ (fsRange l10) Tryz.underlying26 rfl (by kernel_rfl) ?_) | ((with_reducible show wpList _ _ _ (⟨some 67, Op.load 26 _, _, _, _, _⟩ :: _) _ _); refine fsLoadG (by rfl) 26 _ rfl (w6.heap.size) 0 rfl (stCells (fixR s)).toList _ (fsRange l12) Tryz.underlying26 rfl (by kernel_rfl) ?_) | ((with_reducible show wpList _ _ _ (⟨some 76, Op.load 26 _, _, _, _, _⟩ :: _) _ _); refine wpList_load_row rfl 26 _ rfl (w5.heap.size) rfl _ (stCells (fixR s)) _ _ l10 Tryz.underlying26 rfl (by kernel_rfl) ?_))
    refine (F3' _ bel).mono ?_
    rintro e w7 ⟨rfl, hb⟩
    replace bel := bel.trans (hb.mono bel.size)
    replace l3 := below_lies hb l3 (lies_lt l3)
    replace l8 := below_lies hb l8 (lies_lt l8)
    replace l10 := below_lies hb l10 (lies_lt l10)
    replace l12 := below_lies hb l12 (lies_lt l12)
    clear hb
    go_wp2_with (first | ((with_reducible show wpList _ _ _ (⟨none, Op.store 26 (Operand.tmp 14) (Operand.tmp 78), _, _, _, _⟩ :: _) _ _); refine wpList_store_new rfl 26 _ _ rfl rfl (stCells (fixR s)) 26 _ _ rfl rfl rfl (by kernel_rfl) rfl (by kernel_rfl) ?_; have l14 := heap_at w7 (.cells (stCells (fixR s)) 26) _ rfl; replace l3 := heap_in (o := .cells (stCells (fixR s)) 26) l3; replace l8 := heap_in (o := .cells (stCells (fixR s)) 26) l8; replace l10 := heap_in (o := .cells (stCells (fixR s)) 26) l10; replace l12 := heap_in (o := .cells (stCells (fixR s)) 26) l12; replace bel := bel.alloc bel.size (.cells (stCells (fixR s)) 26)) | ((with_reducible show wpList _ _ _ (⟨some 82, Op.load 26 _, _, _, _, _⟩ :: _) _ _); refine fsLoadG (by rfl) 26 _ rfl (w7.heap.size) 0 rfl (stCells (fixR s)).toList _ (fsRange l14) Tryz.underlying26 rfl (by kernel_rfl) ?_) | ((with_reducible show wpList _ _ _ (⟨some 83, Op.load 26 _, _, _, _, _⟩ :: _) _ _); refine fsLoadG (by rfl) 26 _ rfl (w5.heap.size) 0 rfl (stCells (fixR s)).toList _ (fsRange l10) Tryz.underlying26 rfl (by kernel_rfl) ?_))
    go_ret
    exact ⟨rfl, bel⟩
  · rw [ht]
    clear RD ht
    rcases Bool.eq_false_or_eq_true (styleB s) with hg | hg
    · have F3' := F3.out hg
      rw [hg] at F1 F2
      clear F3 HTB hg G1
      go_wp2_with (first | ((with_reducible show wpList _ _ _ (⟨some 53, Op.load 26 _, _, _, _, _⟩ :: _) _ _); refine wpList_load_row rfl 26 _ rfl (w1.heap.size) rfl _ (stCells s) _ _ l3 Tryz.underlying26 rfl (by kernel_rfl) ?_))
      refine (F1 _ bel).mono ?_
      rintro e w5 ⟨rfl, hb⟩
      replace bel := bel.trans (hb.mono bel.size)
      replace l3 := below_lies hb l3 (lies_lt l3)
      clear hb
      go_wp2_with (first | ((with_reducible show wpList _ _ _ (⟨none, Op.store 26 (Operand.tmp 10) (Operand.tmp 55), _, _, _, _⟩ :: _) _ _); refine wpList_store_new rfl 26 _ _ rfl rfl (stCells (fixR s)) 26 _ _ rfl rfl rfl (by kernel_rfl) rfl (by kernel_rfl) ?_; have l10 := heap_at w5 (.cells (stCells (fixR s)) 26) _ rfl; replace l3 := heap_in (o := .cells (stCells (fixR s)) 26) l3; replace bel := bel.alloc bel.size (.cells (stCells (fixR s)) 26)) | ((with_reducible show wpList _ _ _ (⟨some 58, Op.load 26 _, _, _, _, _⟩ :: _) _ _); refine wpList_load_row rfl 26 _ rfl (w1.heap.size) rfl _ (stCells s) _ _ l3 Tryz.underlying26 rfl (by kernel_rfl) ?_))
      refine (F2 _).mono ?_
      rintro e w6 ⟨rfl, hb⟩
      replace bel := bel.trans (hb.mono bel.size)
      replace l3 := below_lies hb l3 (lies_lt l3)
      replace l10 := below_lies hb l10 (lies_lt l10)
      clear hb
      go_wp2_with (first | ((with_reducible show wpList _ _ _ (⟨none, Op.store 26 (Operand.tmp 12) (Operand.tmp 60), _, _, _, _⟩ :: _) _ _); refine wpList_store_new rfl 26 _ _ rfl rfl (stCells (fixR s)) 26 _ _ rfl rfl rfl (by kernel_rfl) rfl (by kernel_rfl) ?_; have l12 := heap_at w6 (.cells (stCells (fixR s)) 26) _ rfl; replace l3 := heap_in (o := .cells (stCells (fixR s)) 26) l3; replace l10 := heap_in (o := .cells (stCells (fixR s)) 26) l10; replace bel := bel.alloc bel.size (.cells (stCells (fixR s)) 26)) | ((with_reducible show wpList _ _ _ (⟨some 66, Op.load 26 _, _, _, _, _⟩ :: _) _ _); refine fsLoadG (by rfl) 26 _ rfl (w5.heap.size) 0 rfl (stCells (fixR s)).toList _ (fsRange l10) Tryz.underlying26 rfl (by kernel_rfl) ?_) | ((with_reducible show wpList _ _ _ (⟨some 67, Op.load 26 _, _, _, _, _⟩ :: _) _ _); refine fsLoadG (by rfl) 26 _ rfl (w6.heap.size) 0 rfl (stCells (fixR s)).toList _ (fsRange l12) Tryz.underlying26 rfl (by kernel_rfl) ?_) | ((with_reducible show wpList _ _ _ (⟨some 76, Op.load 26 _, _, _, _, _⟩ :: _) _ _); refine wpList_load_row rfl 26 _ rfl (w5.heap.size) rfl _ (stCells (fixR s)) _ _ l10 Tryz.underlying26 rfl (by kernel_rfl) ?_))
      refine (F3' _ bel).mono ?_
      rintro e w7 ⟨rfl, hb⟩
      replace bel := bel.trans (hb.mono bel.size)
      replace l3 := below_lies hb l3 (lies_lt l3)
      replace l10 := below_lies hb l10 (lies_lt l10)
      replace l12 := below_lies hb l12 (lies_lt l12)
      clear hb
      go_wp2_with (first | ((with_reducible show wpList _ _ _ (⟨none, Op.store 26 (Operand.tmp 14) (Operand.tmp 78), _, _, _, _⟩ :: _) _ _); refine wpList_store_new rfl 26 _ _ rfl rfl (stCells (fixR s)) 26 _ _ rfl rfl rfl (by kernel_rfl) rfl (by kernel_rfl) ?_; have l14 := heap_at w7 (.cells (stCells (fixR s)) 26) _ rfl; replace l3 := heap_in (o := .cells (stCells (fixR s)) 26) l3; replace l10 := heap_in (o := .cells (stCells (fixR s)) 26) l10; replace l12 := heap_in (o := .cells (stCells (fixR s)) 26) l12; replace bel := bel.alloc bel.size (.cells (stCells (fixR s)) 26)) | ((with_reducible show wpList _ _ _ (⟨some 82, Op.load 26 _, _, _, _, _⟩ :: _) _ _); refine fsLoadG (by rfl) 26 _ rfl (w7.heap.size) 0 rfl (stCells (fixR s)).toList _ (fsRange l14) Tryz.underlying26 rfl (by kernel_rfl) ?_) | ((with_reducible show wpList _ _ _ (⟨some 83, Op.load 26 _, _, _, _, _⟩ :: _) _ _); refine fsLoadG (by rfl) 26 _ rfl (w5.heap.size) 0 rfl (stCells (fixR s)).toList _ (fsRange l10) Tryz.underlying26 rfl (by kernel_rfl) ?_))
      go_ret
      exact ⟨rfl, bel⟩
    · rw [hg] at F1 F2 G1
      clear F3 HTB hg
      go_wp2_with (first | ((with_reducible show wpList _ _ _ (⟨some 53, Op.load 26 _, _, _, _, _⟩ :: _) _ _); refine wpList_load_row rfl 26 _ rfl (w1.heap.size) rfl _ (stCells s) _ _ l3 Tryz.underlying26 rfl (by kernel_rfl) ?_))
      refine (F1 _ bel).mono ?_
      rintro e w5 ⟨rfl, hb⟩
      replace bel := bel.trans (hb.mono bel.size)
      replace l3 := below_lies hb l3 (lies_lt l3)
      clear hb
      go_wp2_with (first | ((with_reducible show wpList _ _ _ (⟨none, Op.store 26 (Operand.tmp 10) (Operand.tmp 55), _, _, _, _⟩ :: _) _ _); refine wpList_store_new rfl 26 _ _ rfl rfl (stCells (fixR s)) 26 _ _ rfl rfl rfl (by kernel_rfl) rfl (by kernel_rfl) ?_; have l10 := heap_at w5 (.cells (stCells (fixR s)) 26) _ rfl; replace l3 := heap_in (o := .cells (stCells (fixR s)) 26) l3; replace bel := bel.alloc bel.size (.cells (stCells (fixR s)) 26)) | ((with_reducible show wpList _ _ _ (⟨some 58, Op.load 26 _, _, _, _, _⟩ :: _) _ _); refine wpList_load_row rfl 26 _ rfl (w1.heap.size) rfl _ (stCells s) _ _ l3 Tryz.underlying26 rfl (by kernel_rfl) ?_))
      refine (F2 _).mono ?_
      rintro e w6 ⟨rfl, hb⟩
      replace bel := bel.trans (hb.mono bel.size)
      replace l3 := below_lies hb l3 (lies_lt l3)
      replace l10 := below_lies hb l10 (lies_lt l10)
      clear hb
      go_wp2_with (first | ((with_reducible show wpList _ _ _ (⟨none, Op.store 26 (Operand.tmp 12) (Operand.tmp 60), _, _, _, _⟩ :: _) _ _); refine wpList_store_new rfl 26 _ _ rfl rfl (stCells (fixR s)) 26 _ _ rfl rfl rfl (by kernel_rfl) rfl (by kernel_rfl) ?_; have l12 := heap_at w6 (.cells (stCells (fixR s)) 26) _ rfl; replace l3 := heap_in (o := .cells (stCells (fixR s)) 26) l3; replace l10 := heap_in (o := .cells (stCells (fixR s)) 26) l10; replace bel := bel.alloc bel.size (.cells (stCells (fixR s)) 26)) | ((with_reducible show wpList _ _ _ (⟨some 66, Op.load 26 _, _, _, _, _⟩ :: _) _ _); refine fsLoadG (by rfl) 26 _ rfl (w5.heap.size) 0 rfl (stCells (fixR s)).toList _ (fsRange l10) Tryz.underlying26 rfl (by kernel_rfl) ?_) | ((with_reducible show wpList _ _ _ (⟨some 67, Op.load 26 _, _, _, _, _⟩ :: _) _ _); refine fsLoadG (by rfl) 26 _ rfl (w6.heap.size) 0 rfl (stCells (fixR s)).toList _ (fsRange l12) Tryz.underlying26 rfl (by kernel_rfl) ?_) | ((with_reducible show wpList _ _ _ (⟨some 72, Op.load 26 _, _, _, _, _⟩ :: _) _ _); refine wpList_load_row rfl 26 _ rfl (w1.heap.size) rfl _ (stCells s) _ _ l3 Tryz.underlying26 rfl (by kernel_rfl) ?_))
      refine (G1 _ bel).mono ?_
      rintro e w7 ⟨rfl, hb⟩
      replace bel := bel.trans (hb.mono bel.size)
      replace l3 := below_lies hb l3 (lies_lt l3)
      replace l10 := below_lies hb l10 (lies_lt l10)
      replace l12 := below_lies hb l12 (lies_lt l12)
      clear hb
      go_wp2
      go_ret
      exact ⟨rfl, bel⟩

theorem door_met (os : Os) (args : Array Value) : laidMetH Tryz.prog Rows.fnStylesRow.laid ((World.doorLaid Tryz.prog 112 os).forCall (fun _ _ => 0) ⟨#[], args, []⟩).memory :=
  laidMetH_of_parts3 (fuel := 8) (laidMet_of_run' 8 (by kernel_rfl) (by kernel_rfl)) (by kernel_rfl) (by kernel_rfl)

set_option maxRecDepth 100000 in
theorem lifted (os : Os) (started : os.Started) (H : Type) (enc : TypeId × Value → H) :
    ReturnsInHanded {} Tryz.checked os 3 .any (fun w args => (Rows.fnStylesSpec.pre enc Tryz.prog Tryz.f3 [] false w args ∧ laidMetH Tryz.prog Rows.fnStylesRow.laid w) ∧ sizedMet enc Tryz.prog Tryz.f3 (OpenSpec.ofChange Rows.fnStylesSpec) false w args)
      (Rows.fnStylesSpec.post enc Tryz.prog Tryz.f3 false true false false) := by
  refine returnsInHanded_of_change_and (C := Tryz.checked) (X := fun w _ => laidMetH Tryz.prog Rows.fnStylesRow.laid w) (fun _ _ _ hh h => h.of_heap hh) own started (by kernel_rfl) Tryz.func3
    (ChangeSpec.witness_shaped (enc := enc) (C := Tryz.checked) (os := os) (X := fun w _ => laidMetH Tryz.prog Rows.fnStylesRow.laid w) false (World.doorLaid Tryz.prog 112 os) #[.slice none 0 0] 8 rfl (World.shaped_of_RefB (by kernel_rfl) (by kernel_rfl)) (by kernel_rfl) (by kernel_rfl) (by kernel_rfl) (door_met os _)) ?_
  intro W base args ds gs before hval0 hW _ hsz0 hL _
  have hval : ∀ (j : Nat) t v, Tryz.f3.params[j]? = some t → args[j]? = some v → Value.okWide Tryz.prog W .any base t v := hval0
  have hsz : (DataW.weightsEach Tryz.prog (Tryz.f3.params.toList ++ Rows.fnStylesSpec.plain.varTypes Tryz.prog) (ds ++ gs)).all (· ≤ reachBytes) = true := hsz0
  have hW' := hW
  obtain ⟨p, q, hA0, hV, rfl, hfz, hnd⟩ := hW
  have hA : DataW.TrodAll enc Tryz.prog W 0 (fun _ => true) true Tryz.f3.params.toList args.toList ds p := hA0
  rw [Tryz.params3] at hA hval hsz
  obtain ⟨v0, vs0, d0, ds0, p0, q0, hargs, rfl, rfl, h0, r0⟩ := trodAll_cons hA
  obtain ⟨rfl, rfl, rfl⟩ := trodAll_nil r0
  obtain rfl : args = #[v0] := by cases args; simp_all
  have hVk := hV
  obtain ⟨dg0, dg1, dg2, dg3, dg4, rfl⟩ := trodVars_five hV
  obtain ⟨a0, len0, cap0, rfl⟩ := okWide_slice Tryz.underlying22 (hval 0 22 v0 rfl rfl)
  have lt0 : ∀ x ∈ p0, x.block < W.heap.size := by obtain ⟨m, hm⟩ := h0; exact DataW.trod_lt m _ _ _ hm
  obtain ⟨s0, t0⟩ : RowB W a0 len0 ∧ len0 ≤ 140737488355328 := by
    obtain ⟨fuel, hf⟩ := h0
    rcases open_ints Tryz.underlying22 Tryz.underlying5 (by kernel_rfl) hf with ⟨hcs, _⟩ | ⟨x, l, c, zs, hcs, _, hl, hm, hz, hx, hcell, hwz⟩
    · simp [Value.cells] at hcs
      obtain ⟨rfl, rfl, rfl⟩ := hcs
      exact ⟨.inl rfl, by omega⟩
    · simp [Value.cells] at hcs
      obtain ⟨rfl, rfl, rfl⟩ := hcs
      have hd : d0 = .slice (lits .u8 (zs.take len0)) (lits .u8 (zs.drop len0)) := congrArg Prod.fst hx
      have hw := sized_slice hsz (j := 0) (t := 22) (e := 5) rfl (by rw [hd]; rfl) Tryz.underlying22
      rw [bytesU8] at hw
      have hz' : zs.length = cap0 := by simpa using hz
      simp only [lits, List.length_map, List.length_take, List.length_drop, reachBytes] at hw
      exact ⟨rowB_of hl hz' hcell hwz, by omega⟩
  clear hA0 hval0
  refine (walk a0 len0 cap0 W s0 t0 (env_of hL) (sent_of hL) (errT_of hL) (unlike_of hL)).mono fun e W' ⟨he, bel⟩ => ?_
  subst he
  exact ⟨_, rfl, _, _, _, [], _, _, hW', trodAll_mk1 (shut_bool Tryz.underlying4 _), (trodAll_cons_mk (Below.trod laidOut (by kernel_rfl) (of_decide_eq_true (by kernel_rfl)) h0 bel lt0) trodAll_mk0), Below.trodVars laidOut bel (by kernel_rfl) hVk, bel.frame _, fun h => by cases h⟩

theorem said : Rows.FnStylesSaid :=
  OpenClaim.holds_of_wide 3 Tryz.f3 rfl rfl rfl rfl rfl rfl rfl ⟨rfl, rfl, rfl, rfl, rfl⟩ rfl rfl rfl rfl rfl (by kernel_rfl) Tryz.func3 (by kernel_rfl)
    (of_decide_eq_true (by kernel_rfl)) (by unfold Func.isWrapper; first | (rw [if_pos (by decide +kernel)]; kernel_rfl) | (rw [if_neg (by decide +kernel)]; exact ⟨rfl, rfl⟩))
    (fun os started H enc _ => lifted os started H enc)

theorem plain (f : FuncId) (fn : Func) (hf : Tryz.pinned.checked.prog.funcNamed "loop.example/g00164/laws.FnStyles" = some f) (hfn : Tryz.pinned.checked.prog.funcs[f]? = some fn) :
    true = Tryz.pinned.checked.prog.looks [] ∧ ∀ (j : Nat) t, fn.params[j]? = some t → Tryz.pinned.checked.prog.wantsStandIn t = false := by
  obtain rfl : f = 3 := Option.some.inj ((show Tryz.prog.funcNamed "loop.example/g00164/laws.FnStyles" = some 3 by kernel_rfl).symm.trans hf) |>.symm
  obtain rfl : fn = Tryz.f3 := (Option.some.inj (Tryz.func3.symm.trans hfn)).symm
  refine ⟨by kernel_rfl, fun j t ht => ?_⟩
  rw [Tryz.params3] at ht
  have hm := Array.mem_of_getElem? ht
  simp at hm
  rcases hm with rfl
  exact (show Tryz.prog.wantsStandIn 22 = false by kernel_rfl)
end Go.Proofs.YtojdmcennpgndaaGreatDoor.fnStyles
namespace Go.Proofs.YtojdmcennpgndaaGreatDoor
open Go
/-- The given statement: the tied card. -/
theorem fnStyles_card : Rows.FnStylesCardSaid :=
  Claim7.holds_tied_plain_at .later [] _ _ _ _ fnStyles.said (fun _ h => by cases h) (by kernel_rfl) (fun _ h => by cases h) fnStyles_row_tie rfl ⟨rfl, rfl⟩ (by kernel_rfl) rfl fnStyles.plain (by kernel_rfl)
#print axioms fnStyles_card
end Go.Proofs.YtojdmcennpgndaaGreatDoor
