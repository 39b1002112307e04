/-
  PixelsText answers at every int as its model does: the card of the law FnExactPixelsText, which returns true at every input, where the package-level tables that it reads hold what the program's own text lays in them.
  The library's Itoa is taken by its contract of the library. The card ties the tables to the pruned copy of the project that this seat was turned of.
-/
import Derived.Test.YtdomolphlkeipadDoorCards
import Derived.Test.YtdomolphlkeipadDoorTie
import Derived.Test.YtdomolphlkeipadDoorTextTop
import Derived.Test.YtdomolphlkeipadDoorLaid
import Derived.Deep.DeepHandedRow
import Derived.OpenVars
import Derived.ChangeVars
import Derived.ShutString
import Derived.LaidMore
import Derived.Stop.Joined
import Derived.SevenTiedAt
namespace Go.Proofs.YtdomolphlkeipadDoor.fnExactPixelsText
open Go.ChangeShapes Go.WideShapes Go.ChangeAt Go.RowKit
set_option linter.unusedVariables false

theorem cell_lt {w : World} {b o : Nat} {v : Value} (h : w.cell? ⟨b, o, none⟩ = some v) : b < w.heap.size := World.block_lt_of_cell? _ ⟨b, o, none⟩ h
theorem Quarters.below {w w' : World} (h : Quarters w) (hb : Below w.heap.size w w') : Quarters w' :=
  ⟨Nat.lt_of_lt_of_le h.1 hb.size, fun j hj => (hb.cell (cell_lt (h.2 j hj))).trans (h.2 j hj)⟩
theorem pow_below {w w' : World} (h : Lib.TabIs Tryd.prog w "internal/strconv.uint64pow10" .u64 Lib.pow10Tab) (hb : Below w.heap.size w w') : Lib.TabIs Tryd.prog w' "internal/strconv.uint64pow10" .u64 Lib.pow10Tab :=
  var?_below hb gPow (cell_lt (h.cell gPow 0 (by decide))) h

theorem walk (n : Int) (w : World) (hQ : Quarters w) (htab : Lib.TabIs Tryd.prog w "internal/strconv.uint64pow10" .u64 Lib.pow10Tab) :
    Calls Tryd.prog 3 #[.int .i64 n] w fun e w' => e = .returned (.bool true) ∧ Below w.heap.size w w' := by
  have S := specText_any n w
  have I := fun (w1 : World) (hb : Below w.heap.size w w1) => implText_any n w1 (Quarters.below hQ hb) (pow_below htab hb)
  generalize pixText n = t at S I
  generalize pixB n = b at S I
  clear hQ htab
  go_enter Tryd.func3, Tryd.ntmps3
  go_wp2_with (go_at_call 4; refine S.mono ?_; rintro e w1 ⟨rfl, hb⟩)
  have I1 := I _ hb
  clear I S
  go_wp2_with (go_at_call 5; refine I1.mono ?_; rintro e w2 ⟨rfl, hb2⟩)
  go_ret
  exact ⟨rfl, hb.trans (hb2.mono hb.size)⟩

theorem table {W : World} (h : laidMetH Tryd.prog Rows.fnExactPixelsTextRow.laid W) : Lib.TabIs Tryd.prog W "internal/strconv.uint64pow10" .u64 Lib.pow10Tab := by
  have h1 := laidMetH.filter (fun x => x.1 == "internal/strconv.uint64pow10") h
  have e : Rows.fnExactPixelsTextRow.laid.filter (fun x => x.1 == "internal/strconv.uint64pow10") = [("internal/strconv.uint64pow10", Lib.tabData .u64 Lib.pow10Tab)] := by kernel_rfl
  rw [e] at h1
  exact Lib.tabIs_of_head (rest := []) gPow gPowType Tryd.underlying41 Tryd.underlying34 cellsU64 cellsPow h1
theorem quarters {W : World} (h : laidMetH Tryd.prog Rows.fnExactPixelsTextRow.laid W) : Quarters W := by
  have h1 := laidMetH.filter (fun x => x.1 == "loop.example/g00164/impl.quarterTexts") h
  have e : Rows.fnExactPixelsTextRow.laid.filter (fun x => x.1 == "loop.example/g00164/impl.quarterTexts") = [("loop.example/g00164/impl.quarterTexts", strData [[], [46, 50, 53], [46, 53], [46, 55, 53]])] := by kernel_rfl
  rw [e] at h1
  have hv := strs_of_head (rest := []) gQuar gQuarType Tryd.underlying27 Tryd.underlying9 cellsStr cellsQuar h1
  have c : ∀ j, j < 4 → W.cell? ⟨0, j, none⟩ = some (.string (quarter j)) := by
    intro j hj
    have := World.var?_cell gQuar hv j
    rw [this]
    have : j = 0 ∨ j = 1 ∨ j = 2 ∨ j = 3 := by omega
    rcases this with rfl | rfl | rfl | rfl <;> rfl
  exact ⟨Nat.lt_of_le_of_lt (Nat.zero_le _) (cell_lt (c 0 (by omega))), c⟩

theorem door_met (os : Os) (args : Array Value) : laidMetH Tryd.prog Rows.fnExactPixelsTextRow.laid ((World.doorLaid Tryd.prog 29 os).forCall (fun _ _ => 0) ⟨#[], args, []⟩).memory :=
  laidMetH_of_parts3 (fuel := 8) (laidMet_of_run' 8 (by kernel_rfl) (by kernel_rfl)) (by kernel_rfl) (by kernel_rfl)

set_option maxRecDepth 100000 in
theorem lifted (os : Os) (started : os.Started) (H : Type) (enc : TypeId × Value → H) :
    ReturnsInHanded {} Tryd.checked os 3 .any (fun w args => (Rows.fnExactPixelsTextSpec.pre enc Tryd.prog Tryd.f3 [] false w args ∧ laidMetH Tryd.prog Rows.fnExactPixelsTextRow.laid w) ∧ sizedMet enc Tryd.prog Tryd.f3 (OpenSpec.ofChange Rows.fnExactPixelsTextSpec) false w args)
      (Rows.fnExactPixelsTextSpec.post enc Tryd.prog Tryd.f3 false true false false) := by
  refine returnsInHanded_of_change_and (C := Tryd.checked) (X := fun w _ => laidMetH Tryd.prog Rows.fnExactPixelsTextRow.laid w) (fun _ _ _ hh h => h.of_heap hh) own started (by kernel_rfl) Tryd.func3
    (ChangeSpec.witness_shaped (enc := enc) (C := Tryd.checked) (os := os) (X := fun w _ => laidMetH Tryd.prog Rows.fnExactPixelsTextRow.laid w) false (World.doorLaid Tryd.prog 29 os) #[.int .i64 0] 8 rfl (World.shaped_of_RefB (by kernel_rfl) (by kernel_rfl)) (by kernel_rfl) (by kernel_rfl) (by kernel_rfl) (door_met os _)) ?_
  intro W base args ds gs before hval0 hW _ _ hL _
  have hval : ∀ (j : Nat) t v, Tryd.f3.params[j]? = some t → args[j]? = some v → Value.okWide Tryd.prog W .any base t v := hval0
  have hW' := hW
  obtain ⟨p, q, hA0, hV, rfl, hfz, hnd⟩ := hW
  have hA : DataW.TrodAll enc Tryd.prog W 0 (fun _ => true) true Tryd.f3.params.toList args.toList ds p := hA0
  rw [Tryd.params3] at hA hval
  obtain ⟨v0, vs0, d0, ds0, p0, q0, hargs, rfl, rfl, h0, r0⟩ := trodAll_cons hA
  obtain ⟨rfl, rfl, rfl⟩ := trodAll_nil r0
  obtain rfl : args = #[v0] := by cases args; simp_all
  have hVk := hV
  obtain ⟨gg, tt, cc, ff, dg, pg, rfl, _, _, _, _, _⟩ := trodVars_one hV
  obtain ⟨a0, rfl, rfl, rfl, w0⟩ := open_int Tryd.underlying3 (hval 0 3 v0 rfl rfl) h0
  clear hA0 hval0
  refine (walk a0 W (quarters hL) (table hL)).mono fun e W' ⟨he, bel⟩ => ?_
  subst he
  exact ⟨_, rfl, _, _, _, [], _, _, hW', trodAll_mk1 (shut_bool Tryd.underlying4 _), (trodAll_cons_mk (shut_int Tryd.underlying3 w0) trodAll_mk0), Below.trodVars laidOut bel (by kernel_rfl) hVk, bel.frame _, fun h => by cases h⟩

theorem said : Rows.FnExactPixelsTextSaid :=
  OpenClaim.holds_of_wide 3 Tryd.f3 rfl rfl rfl rfl rfl rfl rfl ⟨rfl, rfl, rfl, rfl, rfl⟩ rfl rfl rfl rfl rfl (by kernel_rfl) Tryd.func3 (by kernel_rfl)
    (of_decide_eq_true (by kernel_rfl)) (by unfold Func.isWrapper; first | (rw [if_pos (by decide +kernel)]; kernel_rfl) | (rw [if_neg (by decide +kernel)]; exact ⟨rfl, rfl⟩))
    (fun os started H enc _ => lifted os started H enc)

theorem plain (f : FuncId) (fn : Func) (hf : Tryd.pinned.checked.prog.funcNamed "loop.example/g00164/laws.FnExactPixelsText" = some f) (hfn : Tryd.pinned.checked.prog.funcs[f]? = some fn) :
    false = Tryd.pinned.checked.prog.looks [] ∧ ∀ (j : Nat) t, fn.params[j]? = some t → Tryd.pinned.checked.prog.wantsStandIn t = false := by
  obtain rfl : f = 3 := Option.some.inj ((show Tryd.prog.funcNamed "loop.example/g00164/laws.FnExactPixelsText" = some 3 by kernel_rfl).symm.trans hf) |>.symm
  obtain rfl : fn = Tryd.f3 := (Option.some.inj (Tryd.func3.symm.trans hfn)).symm
  refine ⟨by kernel_rfl, fun j t ht => ?_⟩
  rw [Tryd.params3] at ht
  obtain rfl : t = 3 := by simpa using Array.mem_of_getElem? ht
  exact (show Tryd.prog.wantsStandIn 3 = false by kernel_rfl)
end Go.Proofs.YtdomolphlkeipadDoor.fnExactPixelsText
namespace Go.Proofs.YtdomolphlkeipadDoor
open Go
/-- The given statement: the tied card. -/
theorem fnExactPixelsText_card : Rows.FnExactPixelsTextCardSaid :=
  Claim7.holds_tied_plain_at .later [] _ _ _ _ fnExactPixelsText.said (fun _ h => by cases h) (by kernel_rfl) (fun _ h => by cases h) fnExactPixelsText_row_tie rfl ⟨rfl, rfl⟩ (by kernel_rfl) rfl fnExactPixelsText.plain (by kernel_rfl)
#print axioms fnExactPixelsText_card
end Go.Proofs.YtdomolphlkeipadDoor
