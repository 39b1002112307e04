/-
  JoinMargins answers at every slice of ints as its model does, writes nothing into it, and its answer owns its memory: the law FnExactJoinMargins returns true at every input, with no condition.
  The frame round the walk is the kit's own shell.
-/
import Derived.Test.YtdomolphlkeipadRows
import Derived.WalkKit
import Derived.ProofKit
import Derived.OpenShut
import Derived.ShutString
import Derived.ChangeOld
import Derived.Below
import Derived.Test.YtdomolphlkeipadJoinTop
namespace Go.Proofs.Ytdomolphlkeipad.fnExactJoinMargins
open Go.ChangeShapes Go.WideShapes Go.ChangeAt Go.RowKit
open Go.ChangeMaps (open_string shut_string)
set_option linter.unusedVariables false

theorem own : ownKnob Try.prog.godebug = none := by kernel_rfl
theorem laidOut : laidOutB Try.prog = true := by kernel_rfl

/-- WHAT THE WALK IS TOLD OF A SLICE OF INTEGERS THAT CAME IN: it is nil; or it leads to a row of 'cap' cells, the numbers 'zs' (the first 'len' are its elements, the rest its spare room), each fitting its kind. -/
def IsRow (k : IntKind) (w : World) (a : Option Addr) (len cap : Nat) (zs : List Int) : Prop :=
  (a = none ∧ len = 0 ∧ cap = 0 ∧ zs = []) ∨
  ∃ x, a = some x ∧ len ≤ cap ∧ cap ≤ maxLen ∧ zs.length = cap ∧ (∀ i, i < zs.length → w.cell? (x.add i) = some (.int k (zs.getD i 0))) ∧ ∀ n ∈ zs, (Lit.int k n).wf = true


/-! ### The walk -/
theorem walk (a0 : Option Addr) (len0 cap0 : Nat) (z0 : List Int) (w : World) (w0 : IsRow .i64 w a0 len0 cap0 z0) :
    Calls Try.prog 5 #[.slice a0 len0 cap0] w fun e w' => e = .returned (.bool true) ∧ Below w.heap.size w w' := by
  obtain ⟨zs, hl0, hr⟩ : ∃ zs : List Int, zs.length = len0 ∧ Row w a0 zs := by
    rcases w0 with ⟨rfl, rfl, rfl, rfl⟩ | ⟨x, rfl, hl, hm, hz, hcell, hwz⟩
    · exact ⟨[], rfl, .inl rfl⟩
    · refine ⟨z0.take len0, by simp; omega, ?_⟩
      by_cases h0 : len0 = 0
      · subst h0; exact .inl (by simp)
      · obtain ⟨b, off, spot⟩ := x
        have hspot : spot = none := by simpa [Addr.add] using World.cell?_spot (hcell 0 (by omega))
        subst hspot
        refine .inr ⟨b, off, rfl, fun i hi => ?_⟩
        have hi' : i < len0 := by simp at hi; omega
        have h := hcell i (by omega)
        have e : (z0.take len0).getD i 0 = z0.getD i 0 := by
          rw [List.getD_eq_getElem?_getD, List.getD_eq_getElem?_getD, List.getElem?_take, if_pos hi']
        rw [e]
        by_cases hi0 : i = 0
        · subst hi0; simpa [Addr.add] using h
        · simpa [Addr.add, hi0] using h
  have hm0 : len0 ≤ maxLen := by
    rcases w0 with ⟨rfl, rfl, rfl, rfl⟩ | ⟨x, rfl, hl, hm, hz, hcell, hwz⟩
    · exact Nat.zero_le _
    · omega
  unfold maxLen at hm0
  subst hl0
  clear w0
  by_cases hbig : 1048576 < zs.length
  · have hbig' : (1048576 : Int) < (zs.length : Int) := by omega
    go_enter Try.func5, Try.ntmps5
    go_wp2
    go_ret
    exact ⟨rfl, Below.refl _ _⟩
  · have hs : zs.length ≤ 1048576 := by omega
    have hbig' : (zs.length : Int) ≤ 1048576 := by omega
    have T1 := fun (w' : World) (h : Row w' a0 zs) => toInts a0 cap0 zs w' h hs
    have S1 := fun (w' : World) (a : Option Addr) (c : Nat) (h : Row w' a zs) => specJoin a c zs w' h hs
    have I1 := fun (w' : World) (a : Option Addr) (c : Nat) (h : Row w' a zs) => implJoin a c zs w' h hs
    have E1 := fun (w' : World) (a a' : Option Addr) (c c' : Nat) (h : Row w' a zs) (h' : Row w' a' zs) => eqInts a a' c c' zs w' h h' hs
    obtain ⟨n, hn⟩ : ∃ n, n = zs.length := ⟨_, rfl⟩
    obtain ⟨jn, hjn⟩ : ∃ jn, jn = joinN zs := ⟨_, rfl⟩
    obtain ⟨jb, hjb⟩ : ∃ jb, jb = joinB zs := ⟨_, rfl⟩
    rw [← hn] at T1 S1 I1 E1 hbig' hm0 hs
    rw [← hn]
    rw [← hjn, ← hjb] at S1 I1
    clear hn hjn hjb hbig
    have t1 := T1 w hr
    go_enter Try.func5, Try.ntmps5
    go_wp2_with (go_at_call 12; refine t1.mono ?_; rintro e w1 ⟨rfl, b1, z1, r1⟩)
    have s1 := S1 _ _ n r1
    clear t1
    go_wp2_with (go_at_call 11; refine s1.mono ?_; rintro e w2 ⟨rfl, rfl⟩)
    have t2 := T1 _ (hr.below b1)
    clear s1
    go_wp2_with (go_at_call 12; refine t2.mono ?_; rintro e w3 ⟨rfl, b3, z3, r3⟩)
    have i3 := I1 _ _ n r3
    clear t2
    go_wp2_with (go_at_call 13; refine i3.mono ?_; rintro e w4 ⟨rfl, b4⟩)
    clear i3
    have b34 : Below w.heap.size w w4 := b1.trans ((b3.mono (by omega)).trans (b4.mono (by omega)))
    have r4 := r3.below b4
    have t4 := T1 _ (hr.below b34)
    go_wp2_with (go_at_call 12; refine t4.mono ?_; rintro e w5 ⟨rfl, b5, z5, r5⟩)
    have e5 := E1 _ _ _ n n (r4.below b5) r5
    clear t4
    go_wp2_with (go_at_call 14; refine e5.mono ?_; rintro e w6 ⟨rfl, b6⟩)
    go_ret
    exact ⟨rfl, b34.trans ((b5.mono (by have := b34.size; omega)).trans (b6.mono (by have := b34.size; have := b5.size; omega)))⟩

/-! ### The row -/
set_option maxRecDepth 100000 in
theorem lifted (os : Os) (started : os.Started) (H : Type) (enc : TypeId × Value → H) :
    ReturnsInHanded {} Try.checked os 5 .any (Rows.fnExactJoinMarginsSpec.pre6 enc Try.prog Try.f5 Rows.fnExactJoinMarginsRow.domain false) (Rows.fnExactJoinMarginsSpec.post enc Try.prog Try.f5 false true false false) := by
  refine returnsInHanded_of_change (C := Try.checked) own started (by kernel_rfl) Try.func5
    (ChangeSpec.witness6 (enc := enc) (C := Try.checked) false ⟨#[], #[.slice none 0 0], []⟩ 8 (by kernel_rfl) (by kernel_rfl) (by kernel_rfl) (by kernel_rfl)) ?_
  intro W base args ds gs before hval0 hW hcnd _
  have hval : ∀ (j : Nat) t v, Try.f5.params[j]? = some t → args[j]? = some v → Value.okWide Try.prog W .any base t v := hval0
  have hW' := hW
  obtain ⟨p, q, hA0, hV, rfl, hfz, hnd⟩ := hW
  have hA : DataW.TrodAll enc Try.prog W 0 (fun _ => true) true Try.f5.params.toList args.toList ds p := hA0
  rw [Try.params5] at hA hval
  obtain ⟨v0, vs0, d0, ds0, p0, q0, hargs, rfl, rfl, h0, r0⟩ := trodAll_cons hA
  obtain ⟨rfl, rfl, rfl⟩ := trodAll_nil r0
  obtain rfl : args = #[v0] := by cases args; simp_all
  obtain ⟨rfl, rfl⟩ := trodVars_none hV
  obtain ⟨a0, len0, cap0, rfl⟩ := okWide_slice Try.underlying27 (hval 0 27 v0 rfl rfl)
  have k0 := h0
  have lt0 : ∀ x ∈ p0, x.block < W.heap.size := by obtain ⟨m, hm⟩ := k0; exact DataW.trod_lt m _ _ _ hm
  obtain ⟨z0, w0⟩ : ∃ zs, IsRow .i64 W a0 len0 cap0 zs := by
    obtain ⟨fuel, hf⟩ := h0
    rcases open_ints Try.underlying27 Try.underlying3 (by kernel_rfl) hf with ⟨hcs, _⟩ | ⟨x, l, c, zs, hcs, _, hl, hm, hz, _, hcell, hwz⟩
    · simp [Value.cells] at hcs
      obtain ⟨rfl, rfl, rfl⟩ := hcs
      exact ⟨[], .inl ⟨rfl, rfl, rfl, rfl⟩⟩
    · simp [Value.cells] at hcs
      obtain ⟨rfl, rfl, rfl⟩ := hcs
      exact ⟨zs, .inr ⟨_, rfl, hl, hm, by simpa using hz, hcell, hwz⟩⟩
  clear hA0 hval0
  refine (walk a0 len0 cap0 z0 W w0).mono fun e W' ⟨he, bel⟩ => ?_
  subst he
  exact ⟨_, rfl, _, _, _, [], _, [], hW', trodAll_mk1 (shut_bool Try.underlying4 _), (trodAll_cons_mk (Below.trod laidOut (by kernel_rfl) (of_decide_eq_true (by kernel_rfl)) k0 bel lt0) trodAll_mk0), rfl, bel.frame _, fun h => by cases h⟩

theorem over : Rows.fnExactJoinMarginsRow.holds Try.pinned (OpenSpec.ofChange Rows.fnExactJoinMarginsSpec) :=
  OpenClaim.holds_of_wide 5 Try.f5 rfl rfl rfl rfl rfl rfl rfl ⟨rfl, rfl, rfl, rfl, rfl⟩ rfl rfl rfl rfl rfl (by kernel_rfl) Try.func5 (by kernel_rfl)
    (of_decide_eq_true (by kernel_rfl)) (by unfold Func.isWrapper; first | (rw [if_pos (by decide +kernel)]; kernel_rfl) | (rw [if_neg (by decide +kernel)]; exact ⟨rfl, rfl⟩))
    (fun os started H enc _ => lifted os started H enc)

/-- The given statement. -/
theorem proved : Rows.FnExactJoinMarginsSaid := over
end Go.Proofs.Ytdomolphlkeipad.fnExactJoinMargins
namespace Go.Proofs.Ytdomolphlkeipad
/-- The given statement, under this seat's own name. -/
theorem fnExactJoinMargins_holds : Rows.FnExactJoinMarginsSaid := fnExactJoinMargins.proved
#print axioms fnExactJoinMargins_holds
end Go.Proofs.Ytdomolphlkeipad
