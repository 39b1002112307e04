/-
  BoxesOf answers at every row of nodes as its model does, and writes into none; its answer owns its memory: the card of the law FnExactBoxesOf, which returns true at every input, where the package-level error errBeyond holds what the program's own text lays in it. The card ties that variable to the pruned copy of the project that this seat was turned of.
-/
import Derived.Test.YtbphninknpfcmaaDoorCards
import Derived.Test.YtbphninknpfcmaaDoorTie
import Derived.Test.YtbphninknpfcmaaDoorNdO
import Derived.Test.YtbphninknpfcmaaDoorNdH
import Derived.Test.YtbphninknpfcmaaDoorNdL
import Derived.Test.YtbphninknpfcmaaDoorMgBh
import Derived.Test.YtbphninknpfcmaaDoorBeyond
import Derived.ShutString
import Derived.ChangeOld
import Derived.Below
import Derived.Deep.DeepHandedRow
import Derived.OpenVars
import Derived.ChangeVars
import Derived.LaidMore
import Derived.Stop.Joined
import Derived.SevenTiedAt
import Derived.SizedLaws
namespace Go.Proofs.YtbphninknpfcmaaDoor.fnExactBoxesOf
open Go.ChangeShapes Go.WideShapes Go.ChangeAt Go.RowKit
open Go.ChangeMaps (open_string shut_string)
set_option linter.unusedVariables false

theorem own : ownKnob Tryd.prog.godebug = none := by kernel_rfl
theorem laidOut : laidOutB Tryd.prog = true := by kernel_rfl

theorem beyond {W : World} (h : laidMetH Tryd.prog Rows.fnExactBoxesOfRow.laid W) : ∃ et ev, W.cell? ⟨0, 0, none⟩ = some (.iface et ev) := beyond_of h

set_option maxRecDepth 100000 in
set_option maxHeartbeats 4000000 in
theorem walk (a : Option Addr) (cap : Nat) (ns : List Nd) (w : World) (hr : NdRow w a ns) (hl : ns.length ≤ maxLen) (hs : ∀ x ∈ ns, x.tx.size ≤ maxLen) (hE : ∃ et ev, w.cell? ⟨0, 0, none⟩ = some (.iface et ev)) :
    Calls Tryd.prog 3 #[.slice a ns.length cap] w fun e w' => e = .returned (.bool true) ∧ Below w.heap.size w w' := by
  obtain ⟨et, ev, he⟩ := hE
  have lte : 0 < w.heap.size := World.block_lt_of_cell? _ ⟨0, 0, none⟩ he
  have SZ := szNodes_any a ns.length cap ns w rfl hr hl hs
  obtain ⟨n, hn⟩ : ∃ n, n = ns.length := ⟨_, rfl⟩
  have HR : Hid (NdRow w a ns) := hr
  have HE : Hid (w.cell? ⟨0, 0, none⟩ = some (.iface et ev)) := he
  have HN : Hid (n = ns.length) := hn
  rw [← hn] at SZ
  rw [← hn]
  clear hr he hn hs hl
  go_enter Tryd.func3, Tryd.ntmps3
  go_wp2_with fail
  refine SZ.mono ?_
  rintro e w1 ⟨⟨z, rfl, hz⟩, b1⟩
  clear SZ
  rcases hz with rfl | ⟨hz0, hlen, htx⟩
  · go_wp2
    go_ret
    exact ⟨rfl, b1⟩
  have hs' : ∀ x ∈ ns, x.tx.size ≤ 1048576 := fun x hx => by
    obtain ⟨i, hi⟩ := List.getElem?_of_mem hx
    exact htx i x hi
  have TN := fun (W : World) (h : Below w.heap.size w W) => toNodes a cap ns W (HR.out.below h) hlen
  have S := fun (W : World) (g : Nat) (h : NdOwn W g n ns n) => specBoxes_any (some ⟨g, 0, none⟩) n ns W (by have h := h; rw [HN.out] at h; exact h.row) hlen hs'
  have I := fun (W : World) (g : Nat) (hb : Below w.heap.size w W) (h : NdOwn W g n ns n) => implBoxes_any (some ⟨g, 0, none⟩) n ns W (by have h := h; rw [HN.out] at h; exact h.row) hlen hs' et ev ((hb.cell (p := ⟨0, 0, none⟩) lte).trans HE.out)
  have EN := fun (W : World) (g g' : Nat) (h : NdOwn W g n ns n) (h' : NdOwn W g' n ns n) => eqNodes (some ⟨g, 0, none⟩) (some ⟨g', 0, none⟩) n n ns W (by have h := h; rw [HN.out] at h; exact h.row) (by have h := h'; rw [HN.out] at h; exact h.row) hlen
  have hln : n ≤ 1048576 := by rw [HN.out]; exact hlen
  have MN := fun (W : World) (g : Nat) (h : NdOwn W g n ns n) => markNodes_any g n n W hln h.there
  rw [← HN.out] at TN S I EN
  have hle : (boxR ns).length ≤ 1048576 := Nat.le_trans (boxR_len ns) (by omega)
  generalize boxR ns = zs at S I hle
  generalize boxB ns = r at S I
  obtain ⟨m, hm⟩ : ∃ m, m = zs.length := ⟨_, rfl⟩
  have EQ := fun (a a' : Option Addr) cap cap' w (h : BxRow w a zs) (h' : BxRow w a' zs) => eqBoxes a a' cap cap' zs w h h' hle
  rw [← hm] at hle EQ
  have MK := fun B v w (h : OwnX w B v zs) => mark_own B m v zs w hm hle h
  have HD := fun B v w (h : MarkX w B v m) => held_own B m v w hle h
  have hrow : ∀ (B : Nat) (v : Value) (w : World), OwnX w B v zs → ∃ (a : Option Addr) (cap : Nat), v = .slice a m cap ∧ BxRow w a zs := fun B v w h => by rw [hm]; exact h.row
  have hq : ((1 + 4 * m : Nat) : Int) = 4 * (m : Int) + 1 := by omega
  rw [hq] at MK HD
  clear htx hs' hlen hm hq
  have hz' : ¬ (z < 0) := by omega
  go_wp2_with fail
  refine (TN _ b1).mono ?_
  rintro e w2 ⟨rfl, c2, z2, o2⟩
  have b2 := b1.trans (c2.mono b1.size)
  clear c2
  go_wp2_with fail
  refine (S _ _ o2).mono ?_
  rintro e w3 ⟨v0, rfl, p3, c3⟩
  have b3 := b2.trans (c3.mono b2.size)
  have lt3 : ∀ k, v0.ownBlock = some k → k < w3.heap.size := fun k hk => (World.ownsRow.lt p3 k hk).2
  clear c3 o2 z2 S
  go_wp2_with fail
  refine (TN _ b3).mono ?_
  rintro e w4 ⟨rfl, c4, z4, o4⟩
  have b4 := b3.trans (c4.mono b3.size)
  have p4 := p3.keep c4
  clear c4 p3
  go_wp2_with fail
  refine (I _ _ b4 o4).mono ?_
  rintro e w5 ⟨v1, rfl, q5, c5⟩
  have b5 := b4.trans (c5.mono b4.size)
  have o5 := o4.below c5 z4
  have z5 : w3.heap.size < w5.heap.size := Nat.lt_of_lt_of_le z4 c5.size
  have p5 := p4.keep c5
  have ge5 : ∀ k, v1.ownBlock = some k → w4.heap.size ≤ k := fun k hk => (World.ownsRow.lt q5 k hk).1
  obtain ⟨a0, c0, hv0, r0⟩ := hrow _ _ _ p5
  obtain ⟨a1, cc1, hv1, r1⟩ := hrow _ _ _ q5
  subst hv0 hv1
  clear c5 o4 p4
  go_wp2_with fail
  refine (EQ _ _ _ _ _ r1 r0).mono ?_
  rintro e w6 ⟨rfl, c6⟩
  have b6 := b5.trans (c6.mono b5.size)
  have o6 := o5.below c6 z5
  have z6 : w3.heap.size < w6.heap.size := Nat.lt_of_lt_of_le z5 c6.size
  have p6 := p5.keep c6
  have q6 := q5.keep c6
  clear c6 o5 p5 q5 z5 r0 r1
  go_wp2_with fail
  refine (TN _ b6).mono ?_
  rintro e w7 ⟨rfl, c7, z7, o7⟩
  have b7 := b6.trans (c7.mono b6.size)
  have o67 := o6.below c7 z6
  have p7 := p6.keep c7
  have q7 := q6.keep c7
  have z67 : w3.heap.size < w7.heap.size := Nat.lt_of_lt_of_le z6 c7.size
  clear c7 o6 p6 q6 z6
  go_wp2_with fail
  refine (EN _ _ _ o67 o7).mono ?_
  rintro e w8 ⟨rfl, c8⟩
  have b8 := b7.trans (c8.mono b7.size)
  have o8 := o67.below c8 z67
  have p8 := p7.keep c8
  have q8 := q7.keep c8
  clear c8 o67 o7 p7 q7 EN z7
  go_wp2_with fail
  refine (MN _ _ o8).mono ?_
  rintro e w9 ⟨⟨zz, rfl, hzz⟩, g9⟩
  have b9 : Below w.heap.size w w9 := b8.grown g9 b8.size (fun k hk => by cases hk; exact b3.size)
  have p9 := ownX_kept p8 g9 (fun k hk => by have := lt3 k hk; omega)
  have q9 := ownX_kept q8 g9 (fun k hk => by have := ge5 k hk; omega)
  obtain ⟨_, _, hv, r0⟩ := hrow _ _ _ p9
  cases hv
  obtain ⟨_, _, hv, r1⟩ := hrow _ _ _ q9
  cases hv
  have hzz' : ¬ (zz < 0) := by omega
  clear g9 o8 p8 q8 MN
  go_wp2_with fail
  refine (EQ _ _ _ _ _ r1 r0).mono ?_
  rintro e w10 ⟨rfl, c10⟩
  have b10 := b9.trans (c10.mono b9.size)
  have p10 := p9.keep c10
  have q10 := q9.keep c10
  clear c10 p9 q9 r0 r1
  go_wp2_with fail
  refine (MK _ _ _ q10).mono ?_
  rintro e w11 ⟨rfl, q11, c11⟩
  have b11 := b10.trans (c11.mono b4.size)
  have p11 := p10.below c11 (fun k hk => by have := lt3 k hk; omega)
  clear c11 p10 q10 MK
  go_wp2_with fail
  refine (HD _ _ _ q11).mono ?_
  rintro e w12 ⟨rfl, c12⟩
  have b12 := b11.trans (c12.mono b11.size)
  have p12 := p11.keep c12
  have q12 := q11.keep c12
  clear c12 p11 q11
  go_wp2_with fail
  refine (TN _ b12).mono ?_
  rintro e w13 ⟨rfl, c13, z13, o13⟩
  have b13 := b12.trans (c13.mono b12.size)
  have p13 := p12.keep c13
  have q13 := q12.keep c13
  clear c13 p12 q12 TN
  go_wp2_with fail
  refine (I _ _ b13 o13).mono ?_
  rintro e w14 ⟨v2, rfl, s14, c14⟩
  have b14 := b13.trans (c14.mono b13.size)
  have p14 := p13.keep c14
  have q14 := q13.keep c14
  obtain ⟨_, _, hv, r0⟩ := hrow _ _ _ p14
  cases hv
  obtain ⟨a2, cc2, hv2, r2⟩ := hrow _ _ _ s14
  subst hv2
  clear c14 o13 p13 q13 I z13
  go_wp2_with fail
  refine (EQ _ _ _ _ _ r2 r0).mono ?_
  rintro e w15 ⟨rfl, c15⟩
  have b15 := b14.trans (c15.mono b14.size)
  have q15 := q14.keep c15
  clear c15 q14 r0 r2 s14 p14
  go_wp2_with fail
  refine (HD _ _ _ q15).mono ?_
  rintro e w16 ⟨rfl, c16⟩
  have b16 := b15.trans (c16.mono b15.size)
  go_wp2
  go_ret
  exact ⟨rfl, b16⟩

theorem door_met (os : Os) (args : Array Value) : laidMetH Tryd.prog Rows.fnExactBoxesOfRow.laid ((World.doorLaid Tryd.prog 28 os).forCall (fun _ _ => 0) ⟨#[], args, []⟩).memory :=
  laidMetH_of_parts3 (fuel := 8) (laidMet_of_run' 8 (by kernel_rfl) (by kernel_rfl)) (by kernel_rfl) (by kernel_rfl)

set_option maxRecDepth 100000 in
theorem lifted (os : Os) (started : os.Started) (H : Type) (enc : TypeId × Value → H) :
    ReturnsInHanded {} Tryd.checked os 3 .any (fun w args => (Rows.fnExactBoxesOfSpec.pre enc Tryd.prog Tryd.f3 [] false w args ∧ laidMetH Tryd.prog Rows.fnExactBoxesOfRow.laid w) ∧ sizedMet enc Tryd.prog Tryd.f3 (OpenSpec.ofChange Rows.fnExactBoxesOfSpec) false w args)
      (Rows.fnExactBoxesOfSpec.post enc Tryd.prog Tryd.f3 false true false false) := by
  refine returnsInHanded_of_change_and (C := Tryd.checked) (X := fun w _ => laidMetH Tryd.prog Rows.fnExactBoxesOfRow.laid w) (fun _ _ _ hh h => h.of_heap hh) own started (by kernel_rfl) Tryd.func3
    (ChangeSpec.witness_shaped (enc := enc) (C := Tryd.checked) (os := os) (X := fun w _ => laidMetH Tryd.prog Rows.fnExactBoxesOfRow.laid w) false (World.doorLaid Tryd.prog 28 os) #[.slice none 0 0] 8 rfl (World.shaped_of_RefB (by kernel_rfl) (by kernel_rfl)) (by kernel_rfl) (by kernel_rfl) (by kernel_rfl) (door_met os _)) ?_
  intro W base args ds gs before hval0 hW _ hsz0 hL _
  have hval : ∀ (j : Nat) t v, Tryd.f3.params[j]? = some t → args[j]? = some v → Value.okWide Tryd.prog W .any base t v := hval0
  have hW' := hW
  obtain ⟨p, q, hA0, hV, rfl, hfz, hnd⟩ := hW
  have hA : DataW.TrodAll enc Tryd.prog W 0 (fun _ => true) true Tryd.f3.params.toList args.toList ds p := hA0
  rw [Tryd.params3] at hA hval
  obtain ⟨v0, vs0, d0, ds0, p0, q0, hargs, rfl, rfl, h0, r0⟩ := trodAll_cons hA
  obtain ⟨rfl, rfl, rfl⟩ := trodAll_nil r0
  obtain rfl : args = #[v0] := by cases args; simp_all
  have hVk := hV
  obtain ⟨gg, tt, cc, ff, dg, pg, rfl, _, _, _, _, _⟩ := trodVars_one hV
  obtain ⟨a0, cap0, ns0, rfl, r0r, l0r, s0r⟩ := open_nodes (hval 0 22 v0 rfl rfl) h0
  have lt0 : ∀ x ∈ p0, x.block < W.heap.size := by obtain ⟨m, hm⟩ := h0; exact DataW.trod_lt m _ _ _ hm
  clear hA0 hval0
  refine (walk a0 cap0 ns0 W r0r l0r s0r (beyond hL)).mono fun e W' ⟨he, bel⟩ => ?_
  subst he
  exact ⟨_, rfl, _, _, _, [], _, _, hW', trodAll_mk1 (shut_bool Tryd.underlying4 _), (trodAll_cons_mk (Below.trod laidOut (by kernel_rfl) (of_decide_eq_true (by kernel_rfl)) h0 bel lt0) trodAll_mk0), Below.trodVars laidOut bel (by kernel_rfl) hVk, bel.frame _, fun h => by cases h⟩

theorem said : Rows.FnExactBoxesOfSaid :=
  OpenClaim.holds_of_wide 3 Tryd.f3 rfl rfl rfl rfl rfl rfl rfl ⟨rfl, rfl, rfl, rfl, rfl⟩ rfl rfl rfl rfl rfl (by kernel_rfl) Tryd.func3 (by kernel_rfl)
    (of_decide_eq_true (by kernel_rfl)) (by unfold Func.isWrapper; first | (rw [if_pos (by decide +kernel)]; kernel_rfl) | (rw [if_neg (by decide +kernel)]; exact ⟨rfl, rfl⟩))
    (fun os started H enc _ => lifted os started H enc)

theorem plain (f : FuncId) (fn : Func) (hf : Tryd.pinned.checked.prog.funcNamed "loop.example/g00164/laws.FnExactBoxesOf" = some f) (hfn : Tryd.pinned.checked.prog.funcs[f]? = some fn) :
    false = Tryd.pinned.checked.prog.looks [] ∧ ∀ (j : Nat) t, fn.params[j]? = some t → Tryd.pinned.checked.prog.wantsStandIn t = false := by
  obtain rfl : f = 3 := Option.some.inj ((show Tryd.prog.funcNamed "loop.example/g00164/laws.FnExactBoxesOf" = some 3 by kernel_rfl).symm.trans hf) |>.symm
  obtain rfl : fn = Tryd.f3 := (Option.some.inj (Tryd.func3.symm.trans hfn)).symm
  refine ⟨by kernel_rfl, fun j t ht => ?_⟩
  rw [Tryd.params3] at ht
  have hm := Array.mem_of_getElem? ht
  simp at hm
  rcases hm with rfl
  exact (show Tryd.prog.wantsStandIn 22 = false by kernel_rfl)
end Go.Proofs.YtbphninknpfcmaaDoor.fnExactBoxesOf
namespace Go.Proofs.YtbphninknpfcmaaDoor
open Go
/-- The given statement: the tied card. -/
theorem fnExactBoxesOf_card : Rows.FnExactBoxesOfCardSaid :=
  Claim7.holds_tied_plain_at .later [] _ _ _ _ fnExactBoxesOf.said (fun _ h => by cases h) (by kernel_rfl) (fun _ h => by cases h) fnExactBoxesOf_row_tie rfl ⟨rfl, rfl⟩ (by kernel_rfl) rfl fnExactBoxesOf.plain (by kernel_rfl)
#print axioms fnExactBoxesOf_card
end Go.Proofs.YtbphninknpfcmaaDoor
