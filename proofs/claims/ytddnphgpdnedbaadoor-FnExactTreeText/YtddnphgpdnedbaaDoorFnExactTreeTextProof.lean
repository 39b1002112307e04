/-
  TreeText answers at every row of nodes as its model, and leaves its argument as it is: the card of the law FnExactTreeText, where the package-level tables and sentinel errors that the row lists hold what the program's own text lays in them. strconv.Itoa, strings.IndexByte, strings.Contains, strings.Repeat, Builder.Len and Builder.String are taken by the library's contracts. The card ties the variables to the pruned copy of the project that this seat was turned of.
-/
import Derived.Test.YtddnphgpdnedbaaDoorCards
import Derived.Test.YtddnphgpdnedbaaDoorTie
import Derived.Test.YtddnphgpdnedbaaDoorMNo
import Derived.Test.YtddnphgpdnedbaaDoorMTt
import Derived.Test.YtddnphgpdnedbaaDoorTtI
import Derived.Test.YtddnphgpdnedbaaDoorEnvT
import Derived.ShutString
import Derived.ChangeOld
import Derived.Below
import Derived.Deep.DeepHandedRow
import Derived.OpenVars
import Derived.ChangeVars
import Derived.LaidMore
import Derived.Stop.Joined
import Derived.SevenTiedAt
import Derived.SizedLaws
namespace Go.Proofs.YtddnphgpdnedbaaDoor.fnExactTreeText
open Go.ChangeShapes Go.WideShapes Go.ChangeAt Go.RowKit
open Go.ChangeMaps (open_string shut_string)
set_option linter.unusedVariables false

theorem own : ownKnob Tryd.prog.godebug = none := by kernel_rfl
theorem laidOut : laidOutB Tryd.prog = true := by kernel_rfl

set_option maxRecDepth 100000 in
set_option maxHeartbeats 2000000 in
theorem walk (a : Option Addr) (cap : Nat) (ns : List Nd) (w : World) (hr : NdRow w a ns) (hl : ns.length ≤ maxLen) (hs : ∀ x ∈ ns, x.tx.size ≤ maxLen) (E : Env w) :
    Calls Tryd.prog 3 #[.slice a ns.length cap] w fun e w' => e = .returned (.bool true) ∧ Below w.heap.size w w' := by
  have SZ := szNodes_any a ns.length cap ns w rfl hr hl hs
  obtain ⟨n, hn⟩ : ∃ n, n = ns.length := ⟨_, rfl⟩
  have HR : Hid (NdRow w a ns) := hr
  have HN : Hid (n = ns.length) := hn
  rw [← hn] at SZ
  rw [← hn]
  clear hr hn hs hl
  go_enter Tryd.func3, Tryd.ntmps3
  go_wp2_with fail
  refine SZ.mono ?_
  rintro e w1 ⟨⟨z, rfl, hz⟩, b1⟩
  clear SZ
  rcases hz with rfl | ⟨hz0, hlen, htx⟩
  · go_wp2
    go_ret
    exact ⟨rfl, b1⟩
  have hs' : ∀ x ∈ ns, x.tx.size ≤ 1048576 := fun x hx => by
    obtain ⟨i, hi⟩ := List.getElem?_of_mem hx
    exact htx i x hi
  have TN := fun (W : World) (h : Below w.heap.size w W) => toNodes a cap ns W (HR.out.below h) hlen
  have SP := fun (W : World) (g : Nat) (h : NdOwn W g n ns n) => specTT_any (some ⟨g, 0, none⟩) n ns W (by have h := h; rw [HN.out] at h; exact h.row) hlen hs'
  have IM := fun (W : World) (g : Nat) (hb : Below w.heap.size w W) (h : NdOwn W g n ns n) => implTT_any (some ⟨g, 0, none⟩) n ns W (by have h := h; rw [HN.out] at h; exact h.row) hlen hs' (E.below hb (Nat.le_refl _))
  have EQ := fun (W : World) (g g' : Nat) (h : NdOwn W g n ns n) (h' : NdOwn W g' n ns n) => eqNodes (some ⟨g, 0, none⟩) (some ⟨g', 0, none⟩) n n ns W (by have h := h; rw [HN.out] at h; exact h.row) (by have h := h'; rw [HN.out] at h; exact h.row) hlen
  rw [← HN.out] at TN SP IM EQ
  generalize ttT ns = q at SP IM
  generalize ttB ns = r at SP IM
  clear htx hs' hlen E
  have hz' : ¬ (z < 0) := by omega
  go_wp2_with fail
  refine (TN _ b1).mono ?_
  rintro e w2 ⟨rfl, c2, z2, o2⟩
  have b2 := b1.trans (c2.mono b1.size)
  clear c2
  go_wp2_with fail
  refine (SP _ _ o2).mono ?_
  rintro e w3 ⟨rfl, c3⟩
  have b3 := b2.trans (c3.mono b2.size)
  clear c3 o2 z2
  go_wp2_with fail
  refine (TN _ b3).mono ?_
  rintro e w4 ⟨rfl, c4, z4, o4⟩
  have b4 := b3.trans (c4.mono b3.size)
  clear c4
  go_wp2_with fail
  refine (IM _ _ b4 o4).mono ?_
  rintro e w5 ⟨rfl, c5⟩
  have b5 := b4.trans (c5.mono b4.size)
  have o5 := o4.below c5 z4
  have z5 : w3.heap.size < w5.heap.size := Nat.lt_of_lt_of_le z4 c5.size
  clear c5 o4 z4
  go_wp2_with fail
  refine (TN _ b5).mono ?_
  rintro e w6 ⟨rfl, c6, z6, o6⟩
  have b6 := b5.trans (c6.mono b5.size)
  have o56 := o5.below c6 z5
  clear c6 o5
  go_wp2_with fail
  refine (EQ _ _ _ o56 o6).mono ?_
  rintro e w7 ⟨rfl, c7⟩
  have b7 := b6.trans (c7.mono b6.size)
  go_wp2
  go_ret
  exact ⟨rfl, b7⟩

theorem door_met (os : Os) (args : Array Value) : laidMetH Tryd.prog Rows.fnExactTreeTextRow.laid ((World.doorLaid Tryd.prog 67 os).forCall (fun _ _ => 0) ⟨#[], args, []⟩).memory :=
  laidMetH_of_parts3 (fuel := 8) (laidMet_of_run' 8 (by kernel_rfl) (by kernel_rfl)) (by kernel_rfl) (by kernel_rfl)

set_option maxRecDepth 100000 in
theorem lifted (os : Os) (started : os.Started) (H : Type) (enc : TypeId × Value → H) :
    ReturnsInHanded {} Tryd.checked os 3 .any (fun w args => (Rows.fnExactTreeTextSpec.pre enc Tryd.prog Tryd.f3 [] false w args ∧ laidMetH Tryd.prog Rows.fnExactTreeTextRow.laid w) ∧ sizedMet enc Tryd.prog Tryd.f3 (OpenSpec.ofChange Rows.fnExactTreeTextSpec) false w args)
      (Rows.fnExactTreeTextSpec.post enc Tryd.prog Tryd.f3 false true false false) := by
  refine returnsInHanded_of_change_and (C := Tryd.checked) (X := fun w _ => laidMetH Tryd.prog Rows.fnExactTreeTextRow.laid w) (fun _ _ _ hh h => h.of_heap hh) own started (by kernel_rfl) Tryd.func3
    (ChangeSpec.witness_shaped (enc := enc) (C := Tryd.checked) (os := os) (X := fun w _ => laidMetH Tryd.prog Rows.fnExactTreeTextRow.laid w) false (World.doorLaid Tryd.prog 67 os) #[.slice none 0 0] 8 rfl (World.shaped_of_RefB (by kernel_rfl) (by kernel_rfl)) (by kernel_rfl) (by kernel_rfl) (by kernel_rfl) (door_met os _)) ?_
  intro W base args ds gs before hval0 hW _ hsz0 hL _
  have hval : ∀ (j : Nat) t v, Tryd.f3.params[j]? = some t → args[j]? = some v → Value.okWide Tryd.prog W .any base t v := hval0
  have hW' := hW
  obtain ⟨p, q, hA0, hV, rfl, hfz, hnd⟩ := hW
  have hA : DataW.TrodAll enc Tryd.prog W 0 (fun _ => true) true Tryd.f3.params.toList args.toList ds p := hA0
  rw [Tryd.params3] at hA hval
  obtain ⟨v0, vs0, d0, ds0, p0, q0, hargs, rfl, rfl, h0, r0⟩ := trodAll_cons hA
  obtain ⟨rfl, rfl, rfl⟩ := trodAll_nil r0
  obtain rfl : args = #[v0] := by cases args; simp_all
  have hVk := hV
  obtain ⟨d0, d1, d2, rfl⟩ := trodVars_three hV
  obtain ⟨a0, cap0, ns0, rfl, r0r, l0r, s0r⟩ := open_nodes (hval 0 22 v0 rfl rfl) h0
  have lt0 : ∀ x ∈ p0, x.block < W.heap.size := by obtain ⟨m, hm⟩ := h0; exact DataW.trod_lt m _ _ _ hm
  clear hA0 hval0
  refine (walk a0 cap0 ns0 W r0r l0r s0r (env_of hL)).mono fun e W' ⟨he, bel⟩ => ?_
  subst he
  exact ⟨_, rfl, _, _, _, [], _, _, hW', trodAll_mk1 (shut_bool Tryd.underlying4 _), (trodAll_cons_mk (Below.trod laidOut (by kernel_rfl) (of_decide_eq_true (by kernel_rfl)) h0 bel lt0) trodAll_mk0), Below.trodVars laidOut bel (by kernel_rfl) hVk, bel.frame _, fun h => by cases h⟩

theorem said : Rows.FnExactTreeTextSaid :=
  OpenClaim.holds_of_wide 3 Tryd.f3 rfl rfl rfl rfl rfl rfl rfl ⟨rfl, rfl, rfl, rfl, rfl⟩ rfl rfl rfl rfl rfl (by kernel_rfl) Tryd.func3 (by kernel_rfl)
    (of_decide_eq_true (by kernel_rfl)) (by unfold Func.isWrapper; first | (rw [if_pos (by decide +kernel)]; kernel_rfl) | (rw [if_neg (by decide +kernel)]; exact ⟨rfl, rfl⟩))
    (fun os started H enc _ => lifted os started H enc)

theorem plain (f : FuncId) (fn : Func) (hf : Tryd.pinned.checked.prog.funcNamed "loop.example/g00164/laws.FnExactTreeText" = some f) (hfn : Tryd.pinned.checked.prog.funcs[f]? = some fn) :
    false = Tryd.pinned.checked.prog.looks [] ∧ ∀ (j : Nat) t, fn.params[j]? = some t → Tryd.pinned.checked.prog.wantsStandIn t = false := by
  obtain rfl : f = 3 := Option.some.inj ((show Tryd.prog.funcNamed "loop.example/g00164/laws.FnExactTreeText" = some 3 by kernel_rfl).symm.trans hf) |>.symm
  obtain rfl : fn = Tryd.f3 := (Option.some.inj (Tryd.func3.symm.trans hfn)).symm
  refine ⟨by kernel_rfl, fun j t ht => ?_⟩
  rw [Tryd.params3] at ht
  have hm := Array.mem_of_getElem? ht
  simp at hm
  rcases hm with rfl
  exact (show Tryd.prog.wantsStandIn 22 = false by kernel_rfl)
end Go.Proofs.YtddnphgpdnedbaaDoor.fnExactTreeText
namespace Go.Proofs.YtddnphgpdnedbaaDoor
open Go
/-- The given statement: the tied card. -/
theorem fnExactTreeText_card : Rows.FnExactTreeTextCardSaid :=
  Claim7.holds_tied_plain_at .later [] _ _ _ _ fnExactTreeText.said (fun _ h => by cases h) (by kernel_rfl) (fun _ h => by cases h) fnExactTreeText_row_tie rfl ⟨rfl, rfl⟩ (by kernel_rfl) rfl fnExactTreeText.plain (by kernel_rfl)
#print axioms fnExactTreeText_card
end Go.Proofs.YtddnphgpdnedbaaDoor
