/-
  PercentOf answers at every two ints as its model does: the law FnExactPercentOf returns true at every input, with no condition.
  The frame round the walk is the kit's own shell.
-/
import Derived.Test.YtfgnpjlekcbicaaRows
import Derived.WalkKit
import Derived.ProofKit
import Derived.OpenShut
import Derived.ShutString
namespace Go.Proofs.Ytfgnpjlekcbicaa.fnExactPercentOf
open Go.ChangeShapes Go.WideShapes Go.ChangeAt Go.RowKit
open Go.ChangeMaps (open_string shut_string)
set_option linter.unusedVariables false

theorem own : ownKnob Try.prog.godebug = none := by kernel_rfl

theorem prod_bd (a b : Int) (h1 : -1000000 ≤ a) (h2 : a ≤ 1000000) (h3 : -100000 ≤ b) (h4 : b ≤ 100000) : -100000000000 ≤ a * b ∧ a * b ≤ 100000000000 := by
  have e := Int.natAbs_mul a b
  have l : a.natAbs * b.natAbs ≤ 1000000 * 100000 := Nat.mul_le_mul (by omega) (by omega)
  omega
theorem quot_bd (m : Int) (h1 : -100000000000 ≤ m) (h2 : m ≤ 100000000000) : -10000000 ≤ m.tdiv 10000 ∧ m.tdiv 10000 ≤ 10000000 := by
  have e : (m.tdiv 10000).natAbs = m.natAbs / 10000 := Int.natAbs_tdiv m 10000
  omega

/-- A quotient, down. -/
def down (a b : Int) : Int := if a.tmod b < 0 then a.tdiv b - 1 else a.tdiv b
theorem down_lo {a b : Int} (h : a.tmod b < 0) : down a b = a.tdiv b - 1 := if_pos h
theorem down_hi {a b : Int} (h : ¬ a.tmod b < 0) : down a b = a.tdiv b := if_neg h
def pctB (a b : Int) : Bool := decide (-1000000 ≤ a ∧ a ≤ 1000000 ∧ -100000 ≤ b ∧ b ≤ 100000 ∧ -1000000 ≤ down (a * b) 10000 ∧ down (a * b) 10000 ≤ 1000000)
def pctN (a b : Int) : Int := if pctB a b then down (a * b) 10000 else 0
/-- What PercentOf answers. -/
def pct (a b : Int) : Value := .tuple #[.int .i64 (pctN a b), .bool (pctB a b)]
theorem pct_no {a b : Int} (h : ¬ (-1000000 ≤ a ∧ a ≤ 1000000 ∧ -100000 ≤ b ∧ b ≤ 100000 ∧ -1000000 ≤ down (a * b) 10000 ∧ down (a * b) 10000 ≤ 1000000)) : Value.tuple #[.int .i64 0, .bool false] = pct a b := by
  have e : pctB a b = false := decide_eq_false h
  simp [pct, pctN, e]
theorem pct_yes {a b n : Int} (h : -1000000 ≤ a ∧ a ≤ 1000000 ∧ -100000 ≤ b ∧ b ≤ 100000 ∧ -1000000 ≤ down (a * b) 10000 ∧ down (a * b) 10000 ≤ 1000000) (hn : n = down (a * b) 10000) : Value.tuple #[.int .i64 n, .bool true] = pct a b := by
  have e : pctB a b = true := decide_eq_true h
  simp [pct, pctN, e, hn]

set_option maxHeartbeats 2000000 in
theorem spec_pct (a b : Int) (w : World) : Calls Try.prog 7 #[.int .i64 a, .int .i64 b] w fun e w' => e = .returned (pct a b) ∧ w' = w := by
  by_cases h1 : -1000000 ≤ a
  rotate_left
  · go_enter Try.func7, Try.ntmps7
    go_wp2
    go_ret2
    exact ⟨congrArg Ending.returned (pct_no (a := a) (b := b) (by omega)), rfl⟩
  by_cases h2 : a ≤ 1000000
  rotate_left
  · go_enter Try.func7, Try.ntmps7
    go_wp2
    go_ret2
    exact ⟨congrArg Ending.returned (pct_no (a := a) (b := b) (by omega)), rfl⟩
  by_cases h3 : -100000 ≤ b
  rotate_left
  · go_enter Try.func7, Try.ntmps7
    go_wp2
    go_ret2
    exact ⟨congrArg Ending.returned (pct_no (a := a) (b := b) (by omega)), rfl⟩
  by_cases h4 : b ≤ 100000
  rotate_left
  · go_enter Try.func7, Try.ntmps7
    go_wp2
    go_ret2
    exact ⟨congrArg Ending.returned (pct_no (a := a) (b := b) (by omega)), rfl⟩
  obtain ⟨m1, m2⟩ := prod_bd a b h1 h2 h3 h4
  obtain ⟨q1, q2⟩ := quot_bd (a * b) m1 m2
  by_cases ht : (a * b).tmod 10000 < 0
  · have HD : Hid (down (a * b) 10000 = (a * b).tdiv 10000 - 1) := down_lo ht
    by_cases h5 : -1000000 ≤ (a * b).tdiv 10000 - 1
    · by_cases h6 : (a * b).tdiv 10000 - 1 ≤ 1000000
      · go_enter Try.func7, Try.ntmps7
        go_wp2
        go_ret2
        exact ⟨congrArg Ending.returned (pct_yes (a := a) (b := b) (by rw [HD.out]; omega) HD.out.symm), rfl⟩
      · go_enter Try.func7, Try.ntmps7
        go_wp2
        go_ret2
        exact ⟨congrArg Ending.returned (pct_no (a := a) (b := b) (by rw [HD.out]; omega)), rfl⟩
    · go_enter Try.func7, Try.ntmps7
      go_wp2
      go_ret2
      exact ⟨congrArg Ending.returned (pct_no (a := a) (b := b) (by rw [HD.out]; omega)), rfl⟩
  · have HD : Hid (down (a * b) 10000 = (a * b).tdiv 10000) := down_hi ht
    by_cases h5 : -1000000 ≤ (a * b).tdiv 10000
    · by_cases h6 : (a * b).tdiv 10000 ≤ 1000000
      · go_enter Try.func7, Try.ntmps7
        go_wp2
        go_ret2
        exact ⟨congrArg Ending.returned (pct_yes (a := a) (b := b) (by rw [HD.out]; omega) HD.out.symm), rfl⟩
      · go_enter Try.func7, Try.ntmps7
        go_wp2
        go_ret2
        exact ⟨congrArg Ending.returned (pct_no (a := a) (b := b) (by rw [HD.out]; omega)), rfl⟩
    · go_enter Try.func7, Try.ntmps7
      go_wp2
      go_ret2
      exact ⟨congrArg Ending.returned (pct_no (a := a) (b := b) (by rw [HD.out]; omega)), rfl⟩

set_option maxHeartbeats 2000000 in
theorem impl_pct (a b : Int) (w : World) : Calls Try.prog 8 #[.int .i64 a, .int .i64 b] w fun e w' => e = .returned (pct a b) ∧ w' = w := by
  by_cases h1 : -1000000 ≤ a
  rotate_left
  · go_enter Try.func8, Try.ntmps8
    go_wp2
    go_ret2
    exact ⟨congrArg Ending.returned (pct_no (a := a) (b := b) (by omega)), rfl⟩
  by_cases h2 : a ≤ 1000000
  rotate_left
  · go_enter Try.func8, Try.ntmps8
    go_wp2
    go_ret2
    exact ⟨congrArg Ending.returned (pct_no (a := a) (b := b) (by omega)), rfl⟩
  by_cases h3 : -100000 ≤ b
  rotate_left
  · go_enter Try.func8, Try.ntmps8
    go_wp2
    go_ret2
    exact ⟨congrArg Ending.returned (pct_no (a := a) (b := b) (by omega)), rfl⟩
  by_cases h4 : b ≤ 100000
  rotate_left
  · go_enter Try.func8, Try.ntmps8
    go_wp2
    go_ret2
    exact ⟨congrArg Ending.returned (pct_no (a := a) (b := b) (by omega)), rfl⟩
  obtain ⟨m1, m2⟩ := prod_bd a b h1 h2 h3 h4
  obtain ⟨q1, q2⟩ := quot_bd (a * b) m1 m2
  by_cases ht : (a * b).tmod 10000 < 0
  · have HD : Hid (down (a * b) 10000 = (a * b).tdiv 10000 - 1) := down_lo ht
    by_cases h5 : -1000000 ≤ (a * b).tdiv 10000 - 1
    · by_cases h6 : (a * b).tdiv 10000 - 1 ≤ 1000000
      · go_enter Try.func8, Try.ntmps8
        go_wp2
        go_ret2
        exact ⟨congrArg Ending.returned (pct_yes (a := a) (b := b) (by rw [HD.out]; omega) HD.out.symm), rfl⟩
      · go_enter Try.func8, Try.ntmps8
        go_wp2
        go_ret2
        exact ⟨congrArg Ending.returned (pct_no (a := a) (b := b) (by rw [HD.out]; omega)), rfl⟩
    · go_enter Try.func8, Try.ntmps8
      go_wp2
      go_ret2
      exact ⟨congrArg Ending.returned (pct_no (a := a) (b := b) (by rw [HD.out]; omega)), rfl⟩
  · have HD : Hid (down (a * b) 10000 = (a * b).tdiv 10000) := down_hi ht
    by_cases h5 : -1000000 ≤ (a * b).tdiv 10000
    · by_cases h6 : (a * b).tdiv 10000 ≤ 1000000
      · go_enter Try.func8, Try.ntmps8
        go_wp2
        go_ret2
        exact ⟨congrArg Ending.returned (pct_yes (a := a) (b := b) (by rw [HD.out]; omega) HD.out.symm), rfl⟩
      · go_enter Try.func8, Try.ntmps8
        go_wp2
        go_ret2
        exact ⟨congrArg Ending.returned (pct_no (a := a) (b := b) (by rw [HD.out]; omega)), rfl⟩
    · go_enter Try.func8, Try.ntmps8
      go_wp2
      go_ret2
      exact ⟨congrArg Ending.returned (pct_no (a := a) (b := b) (by rw [HD.out]; omega)), rfl⟩


/-! ### The walk -/
theorem walk (a0 : Int) (a1 : Int) (w0 : (Lit.int .i64 a0).wf = true) (w1 : (Lit.int .i64 a1).wf = true) (w : World) :
    Calls Try.prog 3 #[.int .i64 a0, .int .i64 a1] w fun e w' => e = .returned (.bool true) ∧ Grown w w' := by
  go_enter Try.func3, Try.ntmps3
  go_wp2_with (first | (go_at_call 7; refine (spec_pct a0 a1 _).mono ?_; rintro e w' ⟨rfl, rfl⟩; unfold pct) | (go_at_call 8; refine (impl_pct a0 a1 _).mono ?_; rintro e w' ⟨rfl, rfl⟩; unfold pct))
  go_ret
  exact ⟨rfl, by repeat (first | exact Grown.refl _ | apply Grown.drew | apply Grown.alloc)⟩

/-! ### The row -/
set_option maxRecDepth 100000 in
theorem lifted (os : Os) (started : os.Started) (H : Type) (enc : TypeId × Value → H) :
    ReturnsInHanded {} Try.checked os 3 .any (Rows.fnExactPercentOfSpec.pre6 enc Try.prog Try.f3 Rows.fnExactPercentOfRow.domain false) (Rows.fnExactPercentOfSpec.post enc Try.prog Try.f3 false true false false) := by
  refine returnsInHanded_of_change (C := Try.checked) own started (by kernel_rfl) Try.func3
    (ChangeSpec.witness6 (enc := enc) (C := Try.checked) false ⟨#[], #[.int .i64 0, .int .i64 0], []⟩ 8 (by kernel_rfl) (by kernel_rfl) (by kernel_rfl) (by kernel_rfl)) ?_
  intro W base args ds gs before hval0 hW hcnd _
  have hval : ∀ (j : Nat) t v, Try.f3.params[j]? = some t → args[j]? = some v → Value.okWide Try.prog W .any base t v := hval0
  have hW' := hW
  obtain ⟨p, q, hA0, hV, rfl, hfz, hnd⟩ := hW
  have hA : DataW.TrodAll enc Try.prog W 0 (fun _ => true) true Try.f3.params.toList args.toList ds p := hA0
  rw [Try.params3] at hA hval
  obtain ⟨v0, vs0, d0, ds0, p0, q0, hargs, rfl, rfl, h0, r0⟩ := trodAll_cons hA
  obtain ⟨v1, vs1, d1, ds1, p1, q1, rfl, rfl, rfl, h1, r1⟩ := trodAll_cons r0
  obtain ⟨rfl, rfl, rfl⟩ := trodAll_nil r1
  obtain rfl : args = #[v0, v1] := by cases args; simp_all
  obtain ⟨rfl, rfl⟩ := trodVars_none hV
  obtain ⟨a0, rfl, rfl, rfl, w0⟩ := open_int Try.underlying3 (hval 0 3 v0 rfl rfl) h0
  obtain ⟨a1, rfl, rfl, rfl, w1⟩ := open_int Try.underlying3 (hval 1 3 v1 rfl rfl) h1
  clear hA0 hval0
  simp only [List.append_nil] at hW'
  refine (walk a0 a1 w0 w1 W).mono fun e W' ⟨he, hg⟩ => ?_
  subst he
  exact ⟨_, rfl, post_of_same (pa := []) (pv := []) hW' (fun _ _ _ => (trodAll_cons_mk (shut_bool Try.underlying4 _) trodAll_mk0)) (fun sp _ => (trodAll_cons_mk (shut_int Try.underlying3 w0) (trodAll_cons_mk (shut_int Try.underlying3 w1) trodAll_mk0))) (fun _ _ => rfl) rfl
    (hg.frame _) hg.2.1 (ok_one (by kernel_rfl) rfl (okWide_bool_mk Try.underlying4 _))⟩

theorem over : Rows.fnExactPercentOfRow.holds Try.pinned (OpenSpec.ofChange Rows.fnExactPercentOfSpec) :=
  OpenClaim.holds_of_wide 3 Try.f3 rfl rfl rfl rfl rfl rfl rfl ⟨rfl, rfl, rfl, rfl, rfl⟩ rfl rfl rfl rfl rfl (by kernel_rfl) Try.func3 (by kernel_rfl)
    (of_decide_eq_true (by kernel_rfl)) (by unfold Func.isWrapper; first | (rw [if_pos (by decide +kernel)]; kernel_rfl) | (rw [if_neg (by decide +kernel)]; exact ⟨rfl, rfl⟩))
    (fun os started H enc _ => lifted os started H enc)

/-- The given statement. -/
theorem proved : Rows.FnExactPercentOfSaid :=
  over
end Go.Proofs.Ytfgnpjlekcbicaa.fnExactPercentOf
namespace Go.Proofs.Ytfgnpjlekcbicaa
/-- The given statement, under this seat's own name. -/
theorem fnExactPercentOf_holds : Rows.FnExactPercentOfSaid := fnExactPercentOf.proved
#print axioms fnExactPercentOf_holds
end Go.Proofs.Ytfgnpjlekcbicaa
