/-
  GoodBoxes answers at every row of nodes and every row of boxes as its model does, and writes into none: the card of the law FnExactGoodBoxes, which returns true at every input, where the package-level error errBeyond holds what the program's own text lays in it. The card ties that variable to the pruned copy of the project that this seat was turned of.
-/
import Derived.Test.YtbphninknpfcmaaDoorCards
import Derived.Test.YtbphninknpfcmaaDoorTie
import Derived.Test.YtbphninknpfcmaaDoorNdO
import Derived.Test.YtbphninknpfcmaaDoorNdH
import Derived.Test.YtbphninknpfcmaaDoorBhF
import Derived.Test.YtbphninknpfcmaaDoorBeyond
import Derived.ShutString
import Derived.ChangeOld
import Derived.Below
import Derived.Deep.DeepHandedRow
import Derived.OpenVars
import Derived.ChangeVars
import Derived.LaidMore
import Derived.Stop.Joined
import Derived.SevenTiedAt
import Derived.SizedLaws
namespace Go.Proofs.YtbphninknpfcmaaDoor.fnExactGoodBoxes
open Go.ChangeShapes Go.WideShapes Go.ChangeAt Go.RowKit
open Go.ChangeMaps (open_string shut_string)
set_option linter.unusedVariables false

theorem own : ownKnob Tryd.prog.godebug = none := by kernel_rfl
theorem laidOut : laidOutB Tryd.prog = true := by kernel_rfl

theorem beyond {W : World} (h : laidMetH Tryd.prog Rows.fnExactGoodBoxesRow.laid W) : ∃ et ev, W.cell? ⟨0, 0, none⟩ = some (.iface et ev) := beyond_of h

set_option maxRecDepth 100000 in
set_option maxHeartbeats 4000000 in
theorem walk (a : Option Addr) (cap : Nat) (ns : List Nd) (a' : Option Addr) (cap' : Nat) (bs : List Bx) (w : World) (hr : NdRow w a ns) (hl : ns.length ≤ maxLen) (hs : ∀ x ∈ ns, x.tx.size ≤ maxLen) (hr' : BxRow w a' bs) (hl' : bs.length ≤ maxLen) (hs' : ∀ x ∈ bs, x.tx.size ≤ maxLen) (hE : ∃ et ev, w.cell? ⟨0, 0, none⟩ = some (.iface et ev)) :
    Calls Tryd.prog 4 #[.slice a ns.length cap, .slice a' bs.length cap'] w fun e w' => e = .returned (.bool true) ∧ Below w.heap.size w w' := by
  obtain ⟨et, ev, he⟩ := hE
  have lte : 0 < w.heap.size := World.block_lt_of_cell? _ ⟨0, 0, none⟩ he
  have SZ := szNodes_le a ns.length cap ns w rfl hr hl hs
  have SB := fun (z : Int) (W : World) (hb : Below w.heap.size w W) (h0 : 0 ≤ z) (h1 : z ≤ 1048576) => szBoxes_left z a' bs.length cap' bs W rfl (hr'.below hb) hl' hs' h0 h1
  obtain ⟨n, hn⟩ : ∃ n, n = ns.length := ⟨_, rfl⟩
  obtain ⟨m, hm⟩ : ∃ m, m = bs.length := ⟨_, rfl⟩
  have HR : Hid (NdRow w a ns) := hr
  have HR' : Hid (BxRow w a' bs) := hr'
  have HE : Hid (w.cell? ⟨0, 0, none⟩ = some (.iface et ev)) := he
  have HN : Hid (n = ns.length) := hn
  have HM : Hid (m = bs.length) := hm
  rw [← hn] at SZ
  rw [← hm] at SB
  rw [← hn, ← hm]
  clear hr he hn hs hl hr' hm hs' hl'
  go_enter Tryd.func4, Tryd.ntmps4
  go_wp2_with fail
  refine SZ.mono ?_
  rintro e w1 ⟨⟨z, rfl, hz, hz1⟩, b1⟩
  clear SZ
  rcases hz with rfl | ⟨hz0, hlen, htx⟩
  · go_wp2
    go_ret
    exact ⟨rfl, b1⟩
  have hzn : ¬ (z < 0) := by omega
  have SB1 := SB z w1 b1 hz0 hz1
  clear SB
  go_wp2_with fail
  refine SB1.mono ?_
  rintro e w2 ⟨⟨y, rfl, hy⟩, c2⟩
  have b2 := b1.trans (c2.mono b1.size)
  clear SB1 c2 b1
  rcases hy with rfl | ⟨hy0, hlen', htx'⟩
  · go_wp2
    go_ret
    exact ⟨rfl, b2⟩
  have hyn : ¬ (y < 0) := by omega
  have hs' : ∀ x ∈ ns, x.tx.size ≤ 1048576 := fun x hx => by
    obtain ⟨i, hi⟩ := List.getElem?_of_mem hx
    exact htx i x hi
  have TN := fun (W : World) (h : Below w.heap.size w W) => toNodes a cap ns W (HR.out.below h) hlen
  have TB := fun (W : World) (h : Below w.heap.size w W) => toBoxes a' cap' bs W (HR'.out.below h) hlen'
  have S := fun (W : World) (g g' : Nat) (h : NdOwn W g n ns n) (h' : BxOwn W g' m bs m) => specGoodBoxes_any (some ⟨g, 0, none⟩) (some ⟨g', 0, none⟩) n m ns bs W (by have h := h; rw [HN.out] at h; exact h.row) hlen hs' (by have h := h'; rw [HM.out] at h; exact h.row) hlen'
  have I := fun (W : World) (g g' : Nat) (hb : Below w.heap.size w W) (h : NdOwn W g n ns n) (h' : BxOwn W g' m bs m) => implGoodBoxes_any (some ⟨g, 0, none⟩) (some ⟨g', 0, none⟩) n m ns bs W (by have h := h; rw [HN.out] at h; exact h.row) hlen hs' (by have h := h'; rw [HM.out] at h; exact h.row) hlen' et ev ((hb.cell (p := ⟨0, 0, none⟩) lte).trans HE.out)
  have EN := fun (W : World) (g g' : Nat) (h : NdOwn W g n ns n) (h' : NdOwn W g' n ns n) => eqNodes (some ⟨g, 0, none⟩) (some ⟨g', 0, none⟩) n n ns W (by have h := h; rw [HN.out] at h; exact h.row) (by have h := h'; rw [HN.out] at h; exact h.row) hlen
  have EB := fun (W : World) (g g' : Nat) (h : BxOwn W g m bs m) (h' : BxOwn W g' m bs m) => eqBoxes (some ⟨g, 0, none⟩) (some ⟨g', 0, none⟩) m m bs W (by have h := h; rw [HM.out] at h; exact h.row) (by have h := h'; rw [HM.out] at h; exact h.row) hlen'
  rw [← HN.out] at TN S I EN
  rw [← HM.out] at TB S I EB
  generalize gbB ns bs = r at S I
  clear htx htx' hs' hlen hlen'
  go_wp2_with fail
  refine (TN _ b2).mono ?_
  rintro e w3 ⟨rfl, c3, z3, o3⟩
  have b3 := b2.trans (c3.mono b2.size)
  clear c3
  go_wp2_with fail
  refine (TB _ b3).mono ?_
  rintro e w4 ⟨rfl, c4, z4, p4⟩
  have b4 := b3.trans (c4.mono b3.size)
  have o4 := o3.below c4 z3
  clear c4 o3
  go_wp2_with fail
  refine (S _ _ _ o4 p4).mono ?_
  rintro e w5 ⟨rfl, c5⟩
  have b5 := b4.trans (c5.mono b4.size)
  clear c5 o4 p4 S z3 z4
  go_wp2_with fail
  refine (TN _ b5).mono ?_
  rintro e w6 ⟨rfl, c6, z6, o6⟩
  have b6 := b5.trans (c6.mono b5.size)
  clear c6
  go_wp2_with fail
  refine (TB _ b6).mono ?_
  rintro e w7 ⟨rfl, c7, z7, p7⟩
  have b7 := b6.trans (c7.mono b6.size)
  have o7 := o6.below c7 z6
  have z67 : w5.heap.size < w7.heap.size := Nat.lt_of_lt_of_le z6 c7.size
  clear c7 o6 z6
  go_wp2_with fail
  refine (I _ _ _ b7 o7 p7).mono ?_
  rintro e w8 ⟨rfl, c8⟩
  have b8 := b7.trans (c8.mono b7.size)
  have o8 := o7.below c8 z67
  have p8 := p7.below c8 z7
  have z68 : w5.heap.size < w8.heap.size := Nat.lt_of_lt_of_le z67 c8.size
  have z78 : w6.heap.size < w8.heap.size := Nat.lt_of_lt_of_le z7 c8.size
  clear c8 o7 p7 I z67 z7
  go_wp2_with fail
  refine (TN _ b8).mono ?_
  rintro e w9 ⟨rfl, c9, z9, o9⟩
  have b9 := b8.trans (c9.mono b8.size)
  have o89 := o8.below c9 z68
  have p9 := p8.below c9 z78
  have z79 : w6.heap.size < w9.heap.size := Nat.lt_of_lt_of_le z78 c9.size
  clear c9 o8 p8 z68 z78 TN
  go_wp2_with fail
  refine (EN _ _ _ o89 o9).mono ?_
  rintro e w10 ⟨rfl, c10⟩
  have b10 := b9.trans (c10.mono b9.size)
  have p10 := p9.below c10 z79
  have z710 : w6.heap.size < w10.heap.size := Nat.lt_of_lt_of_le z79 c10.size
  clear c10 o89 o9 p9 EN z9 z79
  go_wp2_with fail
  refine (TB _ b10).mono ?_
  rintro e w11 ⟨rfl, c11, z11, p11⟩
  have b11 := b10.trans (c11.mono b10.size)
  have p1011 := p10.below c11 z710
  clear c11 p10 z710 TB
  go_wp2_with fail
  refine (EB _ _ _ p1011 p11).mono ?_
  rintro e w12 ⟨rfl, c12⟩
  have b12 := b11.trans (c12.mono b11.size)
  clear c12 p1011 p11 EB z11
  go_wp2
  go_ret
  exact ⟨rfl, b12⟩

theorem door_met (os : Os) (args : Array Value) : laidMetH Tryd.prog Rows.fnExactGoodBoxesRow.laid ((World.doorLaid Tryd.prog 28 os).forCall (fun _ _ => 0) ⟨#[], args, []⟩).memory :=
  laidMetH_of_parts3 (fuel := 8) (laidMet_of_run' 8 (by kernel_rfl) (by kernel_rfl)) (by kernel_rfl) (by kernel_rfl)

set_option maxRecDepth 100000 in
theorem lifted (os : Os) (started : os.Started) (H : Type) (enc : TypeId × Value → H) :
    ReturnsInHanded {} Tryd.checked os 4 .any (fun w args => (Rows.fnExactGoodBoxesSpec.pre enc Tryd.prog Tryd.f4 [] false w args ∧ laidMetH Tryd.prog Rows.fnExactGoodBoxesRow.laid w) ∧ sizedMet enc Tryd.prog Tryd.f4 (OpenSpec.ofChange Rows.fnExactGoodBoxesSpec) false w args)
      (Rows.fnExactGoodBoxesSpec.post enc Tryd.prog Tryd.f4 false true false false) := by
  refine returnsInHanded_of_change_and (C := Tryd.checked) (X := fun w _ => laidMetH Tryd.prog Rows.fnExactGoodBoxesRow.laid w) (fun _ _ _ hh h => h.of_heap hh) own started (by kernel_rfl) Tryd.func4
    (ChangeSpec.witness_shaped (enc := enc) (C := Tryd.checked) (os := os) (X := fun w _ => laidMetH Tryd.prog Rows.fnExactGoodBoxesRow.laid w) false (World.doorLaid Tryd.prog 28 os) #[.slice none 0 0, .slice none 0 0] 8 rfl (World.shaped_of_RefB (by kernel_rfl) (by kernel_rfl)) (by kernel_rfl) (by kernel_rfl) (by kernel_rfl) (door_met os _)) ?_
  intro W base args ds gs before hval0 hW _ hsz0 hL _
  have hval : ∀ (j : Nat) t v, Tryd.f4.params[j]? = some t → args[j]? = some v → Value.okWide Tryd.prog W .any base t v := hval0
  have hW' := hW
  obtain ⟨p, q, hA0, hV, rfl, hfz, hnd⟩ := hW
  have hA : DataW.TrodAll enc Tryd.prog W 0 (fun _ => true) true Tryd.f4.params.toList args.toList ds p := hA0
  rw [Tryd.params4] at hA hval
  obtain ⟨v0, vs0, d0, ds0, p0, q0, hargs, rfl, rfl, h0, r0⟩ := trodAll_cons hA
  obtain ⟨v1, vs1, d1, ds1, p1, q1, rfl, rfl, rfl, h1, r1⟩ := trodAll_cons r0
  obtain ⟨rfl, rfl, rfl⟩ := trodAll_nil r1
  obtain rfl : args = #[v0, v1] := by cases args; simp_all
  have hVk := hV
  obtain ⟨gg, tt, cc, ff, dg, pg, rfl, _, _, _, _, _⟩ := trodVars_one hV
  obtain ⟨a0, cap0, ns0, rfl, r0r, l0r, s0r⟩ := open_nodes (hval 0 22 v0 rfl rfl) h0
  have lt0 : ∀ x ∈ p0, x.block < W.heap.size := by obtain ⟨m, hm⟩ := h0; exact DataW.trod_lt m _ _ _ hm
  obtain ⟨a1, cap1, ns1, rfl, r1r, l1r, s1r⟩ := open_boxes (hval 1 34 v1 rfl rfl) h1
  have lt1 : ∀ x ∈ p1, x.block < W.heap.size := by obtain ⟨m, hm⟩ := h1; exact DataW.trod_lt m _ _ _ hm
  clear hA0 hval0
  refine (walk a0 cap0 ns0 a1 cap1 ns1 W r0r l0r s0r r1r l1r s1r (beyond hL)).mono fun e W' ⟨he, bel⟩ => ?_
  subst he
  exact ⟨_, rfl, _, _, _, [], _, _, hW', trodAll_mk1 (shut_bool Tryd.underlying4 _), (trodAll_cons_mk (Below.trod laidOut (by kernel_rfl) (of_decide_eq_true (by kernel_rfl)) h0 bel lt0) (trodAll_cons_mk (Below.trod laidOut (by kernel_rfl) (of_decide_eq_true (by kernel_rfl)) h1 bel lt1) trodAll_mk0)), Below.trodVars laidOut bel (by kernel_rfl) hVk, bel.frame _, fun h => by cases h⟩

theorem said : Rows.FnExactGoodBoxesSaid :=
  OpenClaim.holds_of_wide 4 Tryd.f4 rfl rfl rfl rfl rfl rfl rfl ⟨rfl, rfl, rfl, rfl, rfl⟩ rfl rfl rfl rfl rfl (by kernel_rfl) Tryd.func4 (by kernel_rfl)
    (of_decide_eq_true (by kernel_rfl)) (by unfold Func.isWrapper; first | (rw [if_pos (by decide +kernel)]; kernel_rfl) | (rw [if_neg (by decide +kernel)]; exact ⟨rfl, rfl⟩))
    (fun os started H enc _ => lifted os started H enc)

theorem plain (f : FuncId) (fn : Func) (hf : Tryd.pinned.checked.prog.funcNamed "loop.example/g00164/laws.FnExactGoodBoxes" = some f) (hfn : Tryd.pinned.checked.prog.funcs[f]? = some fn) :
    false = Tryd.pinned.checked.prog.looks [] ∧ ∀ (j : Nat) t, fn.params[j]? = some t → Tryd.pinned.checked.prog.wantsStandIn t = false := by
  obtain rfl : f = 4 := Option.some.inj ((show Tryd.prog.funcNamed "loop.example/g00164/laws.FnExactGoodBoxes" = some 4 by kernel_rfl).symm.trans hf) |>.symm
  obtain rfl : fn = Tryd.f4 := (Option.some.inj (Tryd.func4.symm.trans hfn)).symm
  refine ⟨by kernel_rfl, fun j t ht => ?_⟩
  rw [Tryd.params4] at ht
  have hm := Array.mem_of_getElem? ht
  simp at hm
  rcases hm with rfl | rfl
  · exact (show Tryd.prog.wantsStandIn 22 = false by kernel_rfl)
  · exact (show Tryd.prog.wantsStandIn 34 = false by kernel_rfl)
end Go.Proofs.YtbphninknpfcmaaDoor.fnExactGoodBoxes
namespace Go.Proofs.YtbphninknpfcmaaDoor
open Go
/-- The given statement: the tied card. -/
theorem fnExactGoodBoxes_card : Rows.FnExactGoodBoxesCardSaid :=
  Claim7.holds_tied_plain_at .later [] _ _ _ _ fnExactGoodBoxes.said (fun _ h => by cases h) (by kernel_rfl) (fun _ h => by cases h) fnExactGoodBoxes_row_tie rfl ⟨rfl, rfl⟩ (by kernel_rfl) rfl fnExactGoodBoxes.plain (by kernel_rfl)
#print axioms fnExactGoodBoxes_card
end Go.Proofs.YtbphninknpfcmaaDoor
