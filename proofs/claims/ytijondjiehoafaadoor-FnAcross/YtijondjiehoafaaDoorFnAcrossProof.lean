/-
  For drawn styles and widths BlockAcross answers as its model does, margins, edges and width are together what is around, and the width is no less than the least one: the card of the law FnAcross, which returns true at every input, where the package-level error errBeyond holds what the program's own text lays in it. The card ties that variable to the pruned copy of the project that this seat was turned of.
-/
import Derived.Test.YtijondjiehoafaaDoorCards
import Derived.Test.YtijondjiehoafaaDoorTie
import Derived.Test.YtijondjiehoafaaDoorDrawAc
import Derived.Test.YtijondjiehoafaaDoorWdU
import Derived.Test.YtijondjiehoafaaDoorWdR
import Derived.Test.YtijondjiehoafaaDoorBytes
import Derived.Test.YtijondjiehoafaaDoorBeyond
import Derived.ShutString
import Derived.ChangeOld
import Derived.Below
import Derived.Deep.DeepHandedRow
import Derived.OpenVars
import Derived.ChangeVars
import Derived.LaidMore
import Derived.Stop.Joined
import Derived.SevenTiedAt
import Derived.SizedLaws
namespace Go.Proofs.YtijondjiehoafaaDoor.fnAcross
open Go.ChangeShapes Go.WideShapes Go.ChangeAt Go.RowKit
open Go.ChangeMaps (open_string shut_string)
set_option linter.unusedVariables false

theorem own : ownKnob Tryd.prog.godebug = none := by kernel_rfl
theorem laidOut : laidOutB Tryd.prog = true := by kernel_rfl

theorem beyond {W : World} (h : laidMetH Tryd.prog Rows.fnAcrossRow.laid W) : ∃ et ev, W.cell? ⟨1, 0, none⟩ = some (.iface et ev) := beyond_of h
theorem clZ_ge (n lo hi : Int) : lo ≤ clZ n lo hi := by unfold clZ; omega
theorem clZ_le (n lo hi : Int) (h0 : 0 ≤ lo) : hi < lo ∨ clZ n lo hi ≤ hi := by
  unfold clZ
  split <;> omega
theorem rs_zero (s : St) (b : Int) : ∃ k, rsV s b (blL s b) (blW s b) (blR s b) = .tuple #[.int .i64 0, .bool k] := by
  refine ⟨okR s b (blL s b) (blW s b) (blR s b), ?_⟩
  unfold rsV
  have e : (if okR s b (blL s b) (blW s b) (blR s b) = true then b - eg s - blL s b - blW s b - blR s b else 0) = 0 := by
    split
    · unfold blR; omega
    · rfl
  rw [e]
set_option maxRecDepth 100000 in
set_option maxHeartbeats 8000000 in
theorem walk (a : Option Addr) (len cap : Nat) (w : World) (hB : RowB w a len) (hl : len ≤ 140737488355328) (hE : ∃ et ev, w.cell? ⟨1, 0, none⟩ = some (.iface et ev)) :
    Calls Tryd.prog 6 #[.slice a len cap] w fun e w' => e = .returned (.bool true) ∧ Below w.heap.size w w' := by
  obtain ⟨et, ev, he⟩ := hE
  have lte : 1 < w.heap.size := World.block_lt_of_cell? _ ⟨1, 0, none⟩ he
  by_cases hbig : 1048576 < len
  · have hbig' : (1048576 : Int) < (len : Int) := by omega
    clear hB he
    go_enter Tryd.func6, Tryd.ntmps6
    go_wp2
    go_ret
    exact ⟨rfl, Below.refl _ _⟩
  have hbig' : ¬ ((1048576 : Int) < (len : Int)) := by omega
  have D := drawBlock_any a len cap w (by omega) hB
  have HE : Hid (w.cell? ⟨1, 0, none⟩ = some (.iface et ev)) := he
  clear hB he
  go_enter Tryd.func6, Tryd.ntmps6
  go_wp2_with fail
  refine D.mono ?_
  rintro e w1 ⟨s, b, rfl, bel⟩
  clear D
  have I := fun (W : World) (hb : Below w.heap.size w W) => implBlock_any s b W et ev ((hb.cell (p := ⟨1, 0, none⟩) lte).trans HE.out)
  have S := fun W => specBlock_any s b W
  have R := fun (W : World) (hb : Below w.heap.size w W) => implRest_any s b (blL s b) (blW s b) (blR s b) W et ev ((hb.cell (p := ⟨1, 0, none⟩) lte).trans HE.out)
  clear HE
  rcases Bool.eq_false_or_eq_true (okA s b) with ha | ha
  rotate_left
  · rw [← bl_no ha] at I S
    have NE := fun W => neAc_run 0 0 0 0 W
    have GD := fun (w : World) (x y : Operand) => run_eqGuard_agg (P := Tryd.prog) w .neq 27 x y (#[.int .i64 0, .int .i64 0, .int .i64 0]) (#[.int .i64 0, .int .i64 0, .int .i64 0]) eqAc_guard
    rw [decide_eq_false (by simp)] at NE
    clear ha R
    go_wp2_with (first | ((with_reducible show wpList _ _ _ (⟨none, Op.store 32 (Operand.tmp 3) (Operand.tmp 17), _, _, _, _⟩ :: _) _ _); refine wpList_store_new rfl 32 _ _ rfl rfl (stCells s) 32 _ _ rfl rfl rfl (by kernel_rfl) rfl (by kernel_rfl) ?_; have l3 := heap_at w1 (.cells (stCells s) 32) _ rfl; replace bel := bel.alloc bel.size (.cells (stCells s) 32)) | ((with_reducible show wpList _ _ _ (⟨some 20, Op.load 32 _, _, _, _, _⟩ :: _) _ _); refine wpList_load_row rfl 32 _ rfl w1.heap.size rfl _ (stCells s) _ _ l3 Tryd.underlying32 rfl (by kernel_rfl) ?_))
    refine (I _ bel).mono ?_
    rintro e w2 ⟨rfl, hb⟩
    replace bel := bel.trans (hb.mono bel.size)
    replace l3 := below_lies hb l3 (lies_lt l3)
    clear hb
    go_wp2_with (first | ((with_reducible show wpList _ _ _ (⟨none, Op.store 27 (Operand.tmp 5) (Operand.tmp 23), _, _, _, _⟩ :: _) _ _); refine wpList_store_new rfl 27 _ _ rfl rfl (#[.int .i64 0, .int .i64 0, .int .i64 0]) 27 _ _ rfl rfl rfl (by kernel_rfl) rfl (by kernel_rfl) ?_; have l5 := heap_at w2 (.cells (#[.int .i64 0, .int .i64 0, .int .i64 0]) 27) _ rfl; replace l3 := heap_in (o := .cells (#[.int .i64 0, .int .i64 0, .int .i64 0]) 27) l3; replace bel := bel.alloc bel.size (.cells (#[.int .i64 0, .int .i64 0, .int .i64 0]) 27)) | ((with_reducible show wpList _ _ _ (⟨some 26, Op.load 32 _, _, _, _, _⟩ :: _) _ _); refine wpList_load_row rfl 32 _ rfl w1.heap.size rfl _ (stCells s) _ _ l3 Tryd.underlying32 rfl (by kernel_rfl) ?_))
    refine (S _).mono ?_
    rintro e w4 ⟨rfl, hb⟩
    replace bel := bel.trans (hb.mono bel.size)
    replace l3 := below_lies hb l3 (lies_lt l3)
    replace l5 := below_lies hb l5 (lies_lt l5)
    clear hb
    go_wp2_with ((with_reducible show wpList _ _ _ (⟨none, Op.store 27 (Operand.tmp 7) (Operand.tmp 29), _, _, _, _⟩ :: _) _ _); refine wpList_store_new rfl 27 _ _ rfl rfl (#[.int .i64 0, .int .i64 0, .int .i64 0]) 27 _ _ rfl rfl rfl (by kernel_rfl) rfl (by kernel_rfl) ?_; have l7 := heap_at w4 (.cells (#[.int .i64 0, .int .i64 0, .int .i64 0]) 27) _ rfl; replace l3 := heap_in (o := .cells (#[.int .i64 0, .int .i64 0, .int .i64 0]) 27) l3; replace l5 := heap_in (o := .cells (#[.int .i64 0, .int .i64 0, .int .i64 0]) 27) l5; replace bel := bel.alloc bel.size (.cells (#[.int .i64 0, .int .i64 0, .int .i64 0]) 27); refine stay6 ?_)
    unfold Stay6
    obtain ⟨W, hW⟩ : ∃ W, W = w4.alloc (.cells (#[.int .i64 0, .int .i64 0, .int .i64 0]) 27) := ⟨_, rfl⟩
    rw [← hW] at l3 l5 l7 bel ⊢
    clear hW
    have d0 : W.cell? ⟨w2.heap.size, 0, none⟩ = some (.int .i64 0) := (lies_cell l5 0).trans rfl
    have f0 : W.cell? ⟨w4.heap.size, 0, none⟩ = some (.int .i64 0) := (lies_cell l7 0).trans rfl
    have d1 : W.cell? ⟨w2.heap.size, 1, none⟩ = some (.int .i64 0) := (lies_cell l5 1).trans rfl
    have f1 : W.cell? ⟨w4.heap.size, 1, none⟩ = some (.int .i64 0) := (lies_cell l7 1).trans rfl
    have d2 : W.cell? ⟨w2.heap.size, 2, none⟩ = some (.int .i64 0) := (lies_cell l5 2).trans rfl
    have f2 : W.cell? ⟨w4.heap.size, 2, none⟩ = some (.int .i64 0) := (lies_cell l7 2).trans rfl
    go_wp2
    go_ret
    exact ⟨rfl, bel⟩
  obtain ⟨k, hk⟩ := rs_zero s b
  have h1 : s.mn ≤ blW s b := clZ_ge _ _ _
  have h2 : s.mx < s.mn ∨ blW s b ≤ s.mx := clZ_le _ _ _ (style_bd (okA_yes ha).1).2.2.2.2.1
  rw [← bl_yes ha] at I S
  rw [hk] at R
  have NE := fun W => neAc_run (blL s b) (blW s b) (blW s b) (blR s b) W
  rw [decide_eq_false (by simp)] at NE
  have GD := fun (w : World) (x y : Operand) => run_eqGuard_agg (P := Tryd.prog) w .neq 27 x y (#[.int .i64 (blL s b), .int .i64 (blW s b), .int .i64 (blR s b)]) (#[.int .i64 (blL s b), .int .i64 (blW s b), .int .i64 (blR s b)]) eqAc_guard
  generalize blL s b = r0 at I S R NE GD
  generalize blW s b = r1 at I S R NE GD h1 h2
  generalize blR s b = r2 at I S R NE GD
  clear ha hk
  go_wp2_with (first | ((with_reducible show wpList _ _ _ (⟨none, Op.store 32 (Operand.tmp 3) (Operand.tmp 17), _, _, _, _⟩ :: _) _ _); refine wpList_store_new rfl 32 _ _ rfl rfl (stCells s) 32 _ _ rfl rfl rfl (by kernel_rfl) rfl (by kernel_rfl) ?_; have l3 := heap_at w1 (.cells (stCells s) 32) _ rfl; replace bel := bel.alloc bel.size (.cells (stCells s) 32)) | ((with_reducible show wpList _ _ _ (⟨some 20, Op.load 32 _, _, _, _, _⟩ :: _) _ _); refine wpList_load_row rfl 32 _ rfl w1.heap.size rfl _ (stCells s) _ _ l3 Tryd.underlying32 rfl (by kernel_rfl) ?_))
  refine (I _ bel).mono ?_
  rintro e w2 ⟨rfl, hb⟩
  replace bel := bel.trans (hb.mono bel.size)
  replace l3 := below_lies hb l3 (lies_lt l3)
  clear hb
  go_wp2_with (first | ((with_reducible show wpList _ _ _ (⟨none, Op.store 27 (Operand.tmp 5) (Operand.tmp 23), _, _, _, _⟩ :: _) _ _); refine wpList_store_new rfl 27 _ _ rfl rfl (#[.int .i64 r0, .int .i64 r1, .int .i64 r2]) 27 _ _ rfl rfl rfl (by kernel_rfl) rfl (by kernel_rfl) ?_; have l5 := heap_at w2 (.cells (#[.int .i64 r0, .int .i64 r1, .int .i64 r2]) 27) _ rfl; replace l3 := heap_in (o := .cells (#[.int .i64 r0, .int .i64 r1, .int .i64 r2]) 27) l3; replace bel := bel.alloc bel.size (.cells (#[.int .i64 r0, .int .i64 r1, .int .i64 r2]) 27)) | ((with_reducible show wpList _ _ _ (⟨some 26, Op.load 32 _, _, _, _, _⟩ :: _) _ _); refine wpList_load_row rfl 32 _ rfl w1.heap.size rfl _ (stCells s) _ _ l3 Tryd.underlying32 rfl (by kernel_rfl) ?_))
  refine (S _).mono ?_
  rintro e w4 ⟨rfl, hb⟩
  replace bel := bel.trans (hb.mono bel.size)
  replace l3 := below_lies hb l3 (lies_lt l3)
  replace l5 := below_lies hb l5 (lies_lt l5)
  clear hb
  go_wp2_with ((with_reducible show wpList _ _ _ (⟨none, Op.store 27 (Operand.tmp 7) (Operand.tmp 29), _, _, _, _⟩ :: _) _ _); refine wpList_store_new rfl 27 _ _ rfl rfl (#[.int .i64 r0, .int .i64 r1, .int .i64 r2]) 27 _ _ rfl rfl rfl (by kernel_rfl) rfl (by kernel_rfl) ?_; have l7 := heap_at w4 (.cells (#[.int .i64 r0, .int .i64 r1, .int .i64 r2]) 27) _ rfl; replace l3 := heap_in (o := .cells (#[.int .i64 r0, .int .i64 r1, .int .i64 r2]) 27) l3; replace l5 := heap_in (o := .cells (#[.int .i64 r0, .int .i64 r1, .int .i64 r2]) 27) l5; replace bel := bel.alloc bel.size (.cells (#[.int .i64 r0, .int .i64 r1, .int .i64 r2]) 27); refine stay6 ?_)
  unfold Stay6
  obtain ⟨W, hW⟩ : ∃ W, W = w4.alloc (.cells (#[.int .i64 r0, .int .i64 r1, .int .i64 r2]) 27) := ⟨_, rfl⟩
  rw [← hW] at l3 l5 l7 bel ⊢
  clear hW
  have d0 : W.cell? ⟨w2.heap.size, 0, none⟩ = some (.int .i64 r0) := (lies_cell l5 0).trans rfl
  have f0 : W.cell? ⟨w4.heap.size, 0, none⟩ = some (.int .i64 r0) := (lies_cell l7 0).trans rfl
  have d1 : W.cell? ⟨w2.heap.size, 1, none⟩ = some (.int .i64 r1) := (lies_cell l5 1).trans rfl
  have f1 : W.cell? ⟨w4.heap.size, 1, none⟩ = some (.int .i64 r1) := (lies_cell l7 1).trans rfl
  have d2 : W.cell? ⟨w2.heap.size, 2, none⟩ = some (.int .i64 r2) := (lies_cell l5 2).trans rfl
  have f2 : W.cell? ⟨w4.heap.size, 2, none⟩ = some (.int .i64 r2) := (lies_cell l7 2).trans rfl
  go_wp2_with (first | ((with_reducible show wpList _ _ _ (⟨some 45, Op.load 32 _, _, _, _, _⟩ :: _) _ _); refine wpList_load_row rfl 32 _ rfl w1.heap.size rfl _ (stCells s) _ _ l3 Tryd.underlying32 rfl (by kernel_rfl) ?_) | ((with_reducible show wpList _ _ _ (⟨some 47, Op.load 27 _, _, _, _, _⟩ :: _) _ _); refine wpList_load_row rfl 27 _ rfl (w2.heap.size) rfl _ (#[.int .i64 r0, .int .i64 r1, .int .i64 r2]) _ _ l5 Tryd.underlying27 rfl (by kernel_rfl) ?_))
  refine (R _ bel).mono ?_
  rintro e w6 ⟨rfl, hb⟩
  replace bel := bel.trans (hb.mono bel.size)
  replace l3 := below_lies hb l3 (lies_lt l3)
  replace l5 := below_lies hb l5 (lies_lt l5)
  clear hb
  clear d0 d1 d2 f0 f1 f2 l7
  have d1 : w6.cell? ⟨w2.heap.size, 1, none⟩ = some (.int .i64 r1) := (lies_cell l5 1).trans rfl
  have c9 : w6.cell? ⟨w1.heap.size, 9, none⟩ = some (.int .i64 s.mn) := (lies_cell l3 9).trans rfl
  have c10 : w6.cell? ⟨w1.heap.size, 10, none⟩ = some (.int .i64 s.mx) := (lies_cell l3 10).trans rfl
  clear NE GD R I S
  by_cases h3 : s.mx < s.mn
  · cases k
    · go_wp2
      go_ret
      exact ⟨rfl, bel⟩
    · go_wp2
      go_ret
      exact ⟨rfl, bel⟩
  · have h4 : r1 ≤ s.mx := by omega
    cases k
    · go_wp2
      go_ret
      exact ⟨rfl, bel⟩
    · go_wp2
      go_ret
      exact ⟨rfl, bel⟩

theorem door_met (os : Os) (args : Array Value) : laidMetH Tryd.prog Rows.fnAcrossRow.laid ((World.doorLaid Tryd.prog 48 os).forCall (fun _ _ => 0) ⟨#[], args, []⟩).memory :=
  laidMetH_of_parts3 (fuel := 8) (laidMet_of_run' 8 (by kernel_rfl) (by kernel_rfl)) (by kernel_rfl) (by kernel_rfl)

set_option maxRecDepth 100000 in
theorem lifted (os : Os) (started : os.Started) (H : Type) (enc : TypeId × Value → H) :
    ReturnsInHanded {} Tryd.checked os 6 .any (fun w args => (Rows.fnAcrossSpec.pre enc Tryd.prog Tryd.f6 [] false w args ∧ laidMetH Tryd.prog Rows.fnAcrossRow.laid w) ∧ sizedMet enc Tryd.prog Tryd.f6 (OpenSpec.ofChange Rows.fnAcrossSpec) false w args)
      (Rows.fnAcrossSpec.post enc Tryd.prog Tryd.f6 false true false false) := by
  refine returnsInHanded_of_change_and (C := Tryd.checked) (X := fun w _ => laidMetH Tryd.prog Rows.fnAcrossRow.laid w) (fun _ _ _ hh h => h.of_heap hh) own started (by kernel_rfl) Tryd.func6
    (ChangeSpec.witness_shaped (enc := enc) (C := Tryd.checked) (os := os) (X := fun w _ => laidMetH Tryd.prog Rows.fnAcrossRow.laid w) false (World.doorLaid Tryd.prog 48 os) #[.slice none 0 0] 8 rfl (World.shaped_of_RefB (by kernel_rfl) (by kernel_rfl)) (by kernel_rfl) (by kernel_rfl) (by kernel_rfl) (door_met os _)) ?_
  intro W base args ds gs before hval0 hW _ hsz0 hL _
  have hval : ∀ (j : Nat) t v, Tryd.f6.params[j]? = some t → args[j]? = some v → Value.okWide Tryd.prog W .any base t v := hval0
  have hsz : (DataW.weightsEach Tryd.prog (Tryd.f6.params.toList ++ Rows.fnAcrossSpec.plain.varTypes Tryd.prog) (ds ++ gs)).all (· ≤ reachBytes) = true := hsz0
  have hW' := hW
  obtain ⟨p, q, hA0, hV, rfl, hfz, hnd⟩ := hW
  have hA : DataW.TrodAll enc Tryd.prog W 0 (fun _ => true) true Tryd.f6.params.toList args.toList ds p := hA0
  rw [Tryd.params6] at hA hval hsz
  obtain ⟨v0, vs0, d0, ds0, p0, q0, hargs, rfl, rfl, h0, r0⟩ := trodAll_cons hA
  obtain ⟨rfl, rfl, rfl⟩ := trodAll_nil r0
  obtain rfl : args = #[v0] := by cases args; simp_all
  have hVk := hV
  obtain ⟨gg, tt, cc, ff, dg, pg, rfl, _, _, _, _, _⟩ := trodVars_one hV
  obtain ⟨a0, len0, cap0, rfl⟩ := okWide_slice Tryd.underlying43 (hval 0 43 v0 rfl rfl)
  have lt0 : ∀ x ∈ p0, x.block < W.heap.size := by obtain ⟨m, hm⟩ := h0; exact DataW.trod_lt m _ _ _ hm
  obtain ⟨s0, t0⟩ : RowB W a0 len0 ∧ len0 ≤ 140737488355328 := by
    obtain ⟨fuel, hf⟩ := h0
    rcases open_ints Tryd.underlying43 Tryd.underlying5 (by kernel_rfl) hf with ⟨hcs, _⟩ | ⟨x, l, c, zs, hcs, _, hl, hm, hz, hx, hcell, hwz⟩
    · simp [Value.cells] at hcs
      obtain ⟨rfl, rfl, rfl⟩ := hcs
      exact ⟨.inl rfl, by omega⟩
    · simp [Value.cells] at hcs
      obtain ⟨rfl, rfl, rfl⟩ := hcs
      have hd : d0 = .slice (lits .u8 (zs.take len0)) (lits .u8 (zs.drop len0)) := congrArg Prod.fst hx
      have hw := sized_slice hsz (j := 0) (t := 43) (e := 5) rfl (by rw [hd]; rfl) Tryd.underlying43
      rw [bytesU8] at hw
      have hz' : zs.length = cap0 := by simpa using hz
      simp only [lits, List.length_map, List.length_take, List.length_drop, reachBytes] at hw
      exact ⟨rowB_of hl hz' hcell hwz, by omega⟩
  clear hA0 hval0
  refine (walk a0 len0 cap0 W s0 t0 (beyond hL)).mono fun e W' ⟨he, bel⟩ => ?_
  subst he
  exact ⟨_, rfl, _, _, _, [], _, _, hW', trodAll_mk1 (shut_bool Tryd.underlying4 _), (trodAll_cons_mk (Below.trod laidOut (by kernel_rfl) (of_decide_eq_true (by kernel_rfl)) h0 bel lt0) trodAll_mk0), Below.trodVars laidOut bel (by kernel_rfl) hVk, bel.frame _, fun h => by cases h⟩

theorem said : Rows.FnAcrossSaid :=
  OpenClaim.holds_of_wide 6 Tryd.f6 rfl rfl rfl rfl rfl rfl rfl ⟨rfl, rfl, rfl, rfl, rfl⟩ rfl rfl rfl rfl rfl (by kernel_rfl) Tryd.func6 (by kernel_rfl)
    (of_decide_eq_true (by kernel_rfl)) (by unfold Func.isWrapper; first | (rw [if_pos (by decide +kernel)]; kernel_rfl) | (rw [if_neg (by decide +kernel)]; exact ⟨rfl, rfl⟩))
    (fun os started H enc _ => lifted os started H enc)

theorem plain (f : FuncId) (fn : Func) (hf : Tryd.pinned.checked.prog.funcNamed "loop.example/g00164/laws.FnAcross" = some f) (hfn : Tryd.pinned.checked.prog.funcs[f]? = some fn) :
    false = Tryd.pinned.checked.prog.looks [] ∧ ∀ (j : Nat) t, fn.params[j]? = some t → Tryd.pinned.checked.prog.wantsStandIn t = false := by
  obtain rfl : f = 6 := Option.some.inj ((show Tryd.prog.funcNamed "loop.example/g00164/laws.FnAcross" = some 6 by kernel_rfl).symm.trans hf) |>.symm
  obtain rfl : fn = Tryd.f6 := (Option.some.inj (Tryd.func6.symm.trans hfn)).symm
  refine ⟨by kernel_rfl, fun j t ht => ?_⟩
  rw [Tryd.params6] at ht
  have hm := Array.mem_of_getElem? ht
  simp at hm
  rcases hm with rfl
  exact (show Tryd.prog.wantsStandIn 43 = false by kernel_rfl)
end Go.Proofs.YtijondjiehoafaaDoor.fnAcross
namespace Go.Proofs.YtijondjiehoafaaDoor
open Go
/-- The given statement: the tied card. -/
theorem fnAcross_card : Rows.FnAcrossCardSaid :=
  Claim7.holds_tied_plain_at .later [] _ _ _ _ fnAcross.said (fun _ h => by cases h) (by kernel_rfl) (fun _ h => by cases h) fnAcross_row_tie rfl ⟨rfl, rfl⟩ (by kernel_rfl) rfl fnAcross.plain (by kernel_rfl)
#print axioms fnAcross_card
end Go.Proofs.YtijondjiehoafaaDoor
