/-
  For every string the law FnExactForcedIn answers true: the program's ForcedIn answers as its model, its answer owns its memory, behind another call too. No condition; strings.IndexByte is taken by the library's contract.
-/
import Derived.Test.YtllkbokkhdomoabForced
import Derived.ShutString
import Derived.ChangeOld
import Derived.Below
namespace Go.Proofs.Ytllkbokkhdomoab.fnExactForcedIn
open Go.ChangeShapes Go.WideShapes Go.ChangeAt Go.RowKit
open Go.ChangeMaps (open_string shut_string)
set_option linter.unusedVariables false

theorem own : ownKnob Try.prog.godebug = none := by kernel_rfl
theorem laidOut : laidOutB Try.prog = true := by kernel_rfl

set_option maxRecDepth 100000 in
set_option maxHeartbeats 2000000 in
theorem walk (s : ByteArray) (w : World) (hs : s.size ≤ maxLen) :
    Calls Try.prog 3 #[.string s] w fun e w' => e = .returned (.bool true) ∧ Below w.heap.size w w' := by
  have S := fun w => specForced_any s w hs
  have I := fun w => implForced_any s w hs
  have hle : (forcedL s).length ≤ 200 := by
    unfold forcedL
    split
    · have h1 := placesL_len (tenB s) s.size
      have h2 := (okB_yes ‹_›).1
      omega
    · simp
  generalize forcedL s = zs at S I hle
  generalize okB false s = b at S I
  unfold maxLen at hs
  by_cases hbig : s.size ≤ 1048576
  rotate_left
  · have hbig' : (1048576 : Int) < (s.size : Int) := by omega
    go_enter Try.func3, Try.ntmps3
    go_wp2
    go_ret
    exact ⟨rfl, Below.refl _ _⟩
  have hbig' : (s.size : Int) ≤ 1048576 := by omega
  obtain ⟨n, hn⟩ : ∃ n, n = zs.length := ⟨_, rfl⟩
  have EQ := fun (a a' : Option Addr) cap cap' w (h : Row w a zs) (h' : Row w a' zs) => eqInts a a' cap cap' zs w h h' (by omega)
  rw [← hn] at hle EQ
  have MK := fun B v w (h : OwnI w B v zs) => mark_any B 1 n v zs w hn (by omega) (by omega) h
  have HD := fun (a : Option Addr) cap w (h : Row w a (marks 1 n)) => held_any 1 n a cap w (by omega) (by omega) h
  have hrow : ∀ (B : Nat) (v : Value) (w : World), OwnI w B v zs → ∃ (a : Option Addr) (cap : Nat), v = .slice a n cap ∧ Row w a zs := fun B v w h => by rw [hn]; exact h.row
  have hrowm : ∀ (B : Nat) (v : Value) (w : World), OwnI w B v (marks 1 n) → ∃ (a : Option Addr) (cap : Nat), v = .slice a n cap ∧ Row w a (marks 1 n) := fun B v w h => by
    obtain ⟨a, cap, h1, h2⟩ := h.row
    exact ⟨a, cap, by rw [h1, marks_len], h2⟩
  have hq : ((1 + n : Nat) : Int) = (n : Int) + 1 := by omega
  rw [hq] at MK HD
  clear hn hs hq
  go_enter Try.func3, Try.ntmps3
  go_wp2_with fail
  refine (S _).mono ?_
  rintro e w1 ⟨v0, rfl, ho0, b1⟩
  clear S
  go_wp2_with fail
  refine (I _).mono ?_
  rintro e w2 ⟨v1, rfl, ho1, b2⟩
  have ho0 := ho0.keep b2
  have hlt0 : ∀ k, v0.ownBlock = some k → k < w1.heap.size := fun k hk => by
    have h := b2
    exact Nat.lt_of_not_le fun hge => by
      have := (‹OwnI w1 w.heap.size v0 zs›.lt k hk).2
      omega
  obtain ⟨a0, c0, hv0, hr0⟩ := hrow _ _ _ ho0
  obtain ⟨a1, c1, hv1, hr1⟩ := hrow _ _ _ ho1
  have bt2 := b1.trans (b2.mono b1.size)
  have hsz1 := b1.size
  subst hv0 hv1
  clear b1
  go_wp2_with fail
  refine (EQ _ _ _ _ _ hr1 hr0).mono ?_
  rintro e w3 ⟨rfl, b3⟩
  have ho1 := ho1.keep b3
  have ho0 := ho0.keep b3
  have bt3 := bt2.trans (b3.mono bt2.size)
  have b13 := b2.trans (b3.mono b2.size)
  clear hr1 hr0 b3 bt2 b2
  go_wp2_with fail
  refine (MK _ _ _ ho1).mono ?_
  rintro e w4 ⟨rfl, ho1, b4⟩
  have ho0 := ho0.below b4 hlt0
  have bt4 := bt3.trans (b4.mono hsz1)
  obtain ⟨_, _, hv, hrm⟩ := hrowm _ _ _ ho1
  cases hv
  clear b4 bt3 hlt0 MK hsz1 b13
  go_wp2_with fail
  refine (HD _ _ _ hrm).mono ?_
  rintro e w5 ⟨rfl, b5⟩
  have ho1 := ho1.keep b5
  have ho0 := ho0.keep b5
  have bt5 := bt4.trans (b5.mono bt4.size)
  clear bt4 b5 hrm
  go_wp2_with fail
  refine (I _).mono ?_
  rintro e w6 ⟨v2, rfl, ho2, b6⟩
  have ho1 := ho1.keep b6
  have ho0 := ho0.keep b6
  have bt6 := bt5.trans (b6.mono bt5.size)
  obtain ⟨_, _, hv, hr0⟩ := hrow _ _ _ ho0
  cases hv
  obtain ⟨a2, c2, hv2, hr2⟩ := hrow _ _ _ ho2
  subst hv2
  clear bt5 b6 I ho2 ho0
  go_wp2_with fail
  refine (EQ _ _ _ _ _ hr2 hr0).mono ?_
  rintro e w7 ⟨rfl, b7⟩
  have ho1 := ho1.keep b7
  have bt7 := bt6.trans (b7.mono bt6.size)
  obtain ⟨_, _, hv, hrm⟩ := hrowm _ _ _ ho1
  cases hv
  clear bt6 b7 hr2 hr0 ho1
  go_wp2_with fail
  refine (HD _ _ _ hrm).mono ?_
  rintro e w8 ⟨rfl, b8⟩
  have bt8 := bt7.trans (b8.mono bt7.size)
  clear bt7 b8 hrm
  go_wp2
  go_ret
  exact ⟨rfl, bt8⟩

set_option maxRecDepth 100000 in
theorem lifted (os : Os) (started : os.Started) (H : Type) (enc : TypeId × Value → H) :
    ReturnsInHanded {} Try.checked os 3 .any (Rows.fnExactForcedInSpec.pre6 enc Try.prog Try.f3 Rows.fnExactForcedInRow.domain false) (Rows.fnExactForcedInSpec.post enc Try.prog Try.f3 false true false false) := by
  refine returnsInHanded_of_change (C := Try.checked) own started (by kernel_rfl) Try.func3
    (ChangeSpec.witness6 (enc := enc) (C := Try.checked) false ⟨#[], #[.string ByteArray.empty], []⟩ 8 (by kernel_rfl) (by kernel_rfl) (by kernel_rfl) (by kernel_rfl)) ?_
  intro W base args ds gs before hval0 hW hcnd _
  have hval : ∀ (j : Nat) t v, Try.f3.params[j]? = some t → args[j]? = some v → Value.okWide Try.prog W .any base t v := hval0
  have hW' := hW
  obtain ⟨p, q, hA0, hV, rfl, hfz, hnd⟩ := hW
  have hA : DataW.TrodAll enc Try.prog W 0 (fun _ => true) true Try.f3.params.toList args.toList ds p := hA0
  rw [Try.params3] at hA hval
  obtain ⟨v0, vs0, d0, ds0, p0, q0, hargs, rfl, rfl, h0, r0⟩ := trodAll_cons hA
  obtain ⟨rfl, rfl, rfl⟩ := trodAll_nil r0
  obtain rfl : args = #[v0] := by cases args; simp_all
  obtain ⟨rfl, rfl⟩ := trodVars_none hV
  obtain ⟨a0, rfl, rfl, rfl, w0⟩ := open_string Try.underlying9 (hval 0 9 v0 rfl rfl) h0
  clear hA0 hval0
  refine (walk a0 W w0).mono fun e W' ⟨he, bel⟩ => ?_
  subst he
  exact ⟨_, rfl, _, _, _, [], _, [], hW', trodAll_mk1 (shut_bool Try.underlying4 _), (trodAll_cons_mk (shut_string Try.underlying9 w0) trodAll_mk0), rfl, bel.frame _, fun h => by cases h⟩

theorem said : Rows.FnExactForcedInSaid :=
  OpenClaim.holds_of_wide 3 Try.f3 rfl rfl rfl rfl rfl rfl rfl ⟨rfl, rfl, rfl, rfl, rfl⟩ rfl rfl rfl rfl rfl (by kernel_rfl) Try.func3 (by kernel_rfl)
    (of_decide_eq_true (by kernel_rfl)) (by unfold Func.isWrapper; first | (rw [if_pos (by decide +kernel)]; kernel_rfl) | (rw [if_neg (by decide +kernel)]; exact ⟨rfl, rfl⟩))
    (fun os started H enc _ => lifted os started H enc)
end Go.Proofs.Ytllkbokkhdomoab.fnExactForcedIn
namespace Go.Proofs.Ytllkbokkhdomoab
open Go
/-- The given statement. -/
theorem fnExactForcedIn_holds : Rows.FnExactForcedInSaid := fnExactForcedIn.said
#print axioms fnExactForcedIn_holds
end Go.Proofs.Ytllkbokkhdomoab
