/-
  The law's own copy of a node is that node; its size; its comparison with itself.
-/
import Derived.Test.YtddnphgpdnedbaaDoorStyTo
import Derived.Test.YtddnphgpdnedbaaDoorNdR
import Derived.OwnWalk
import Derived.WalkKit
import Derived.ProofKit
namespace Go.Proofs.YtddnphgpdnedbaaDoor
open Go.ChangeShapes Go.WideShapes Go.ChangeAt Go.RowKit
set_option linter.unusedVariables false

set_option maxRecDepth 100000 in
set_option maxHeartbeats 4000000 in
theorem toNode_any (n : Nd) (w : World) :
    Calls Tryd.prog 15 #[.agg #[.int .i64 n.up, .string n.tx, .int .i64 n.st.sh, .int .i64 n.st.fl, .int .i64 n.st.cl, .bool n.st.w.a, .bool n.st.w.p, .int .i64 n.st.w.n, .bool n.st.h.a, .bool n.st.h.p, .int .i64 n.st.h.n, .int .i64 n.st.mn, .int .i64 n.st.mx, .int .i64 n.st.mt, .bool n.st.mr.a, .bool n.st.mr.p, .int .i64 n.st.mr.n, .int .i64 n.st.mb, .bool n.st.ml.a, .bool n.st.ml.p, .int .i64 n.st.ml.n, .int .i64 n.st.bo, .int .i64 n.st.pa, .int .i64 n.st.wh, .int .i64 n.st.al, .int .i64 n.st.lh, .int .i64 n.st.ri, .int .i64 n.st.dn]] w fun e w' => e = .returned (.agg #[.int .i64 n.up, .string n.tx, .int .i64 n.st.sh, .int .i64 n.st.fl, .int .i64 n.st.cl, .bool n.st.w.a, .bool n.st.w.p, .int .i64 n.st.w.n, .bool n.st.h.a, .bool n.st.h.p, .int .i64 n.st.h.n, .int .i64 n.st.mn, .int .i64 n.st.mx, .int .i64 n.st.mt, .bool n.st.mr.a, .bool n.st.mr.p, .int .i64 n.st.mr.n, .int .i64 n.st.mb, .bool n.st.ml.a, .bool n.st.ml.p, .int .i64 n.st.ml.n, .int .i64 n.st.bo, .int .i64 n.st.pa, .int .i64 n.st.wh, .int .i64 n.st.al, .int .i64 n.st.lh, .int .i64 n.st.ri, .int .i64 n.st.dn]) ∧ Below w.heap.size w w' := by
  go_enter Tryd.func15, Tryd.ntmps15
  iterate 20 go_step
  refine wp_gen3 ?_
  intro W bel l0 l1 l2
  have hc := lies_cell l0
  have n1 : (#[.int .i64 0, .string ByteArray.empty, .int .i64 0, .int .i64 0, .int .i64 0, .bool false, .bool false, .int .i64 0, .bool false, .bool false, .int .i64 0, .int .i64 0, .int .i64 0, .int .i64 0, .bool false, .bool false, .int .i64 0, .int .i64 0, .bool false, .bool false, .int .i64 0, .int .i64 0, .int .i64 0, .int .i64 0, .int .i64 0, .int .i64 0, .int .i64 0, .int .i64 0] : Array Value).size = 28 := rfl
  have n2 := n1
  iterate 11 go_step
  refine wpList_putA rfl _ _ _ rfl rfl _ _ _ _ _ _ rfl rfl l2 n2 (by kernel_rfl) (by kernel_rfl) (by kernel_rfl) ?_
  clear n2; intro w1 p l2' n2; replace l2 := l2'; clear l2'; replace bel := p.below bel (by omega); replace l1 := p.lies l1 (by omega); replace l0 := p.lies l0 (by omega); clear p; replace hc := lies_cell l0
  iterate 3 go_step
  iterate 11 go_step
  refine wpList_putA rfl _ _ _ rfl rfl _ _ _ _ _ _ rfl rfl l2 n2 (by kernel_rfl) (by kernel_rfl) (by kernel_rfl) ?_
  clear n2; intro w1 p l2' n2; replace l2 := l2'; clear l2'; replace bel := p.below bel (by omega); replace l1 := p.lies l1 (by omega); replace l0 := p.lies l0 (by omega); clear p; replace hc := lies_cell l0
  iterate 3 go_step
  have R0 : w1.rangeAt w.heap.size 2 (#[.int .i64 n.st.sh, .int .i64 n.st.fl, .int .i64 n.st.cl, .bool n.st.w.a, .bool n.st.w.p, .int .i64 n.st.w.n, .bool n.st.h.a, .bool n.st.h.p, .int .i64 n.st.h.n, .int .i64 n.st.mn, .int .i64 n.st.mx, .int .i64 n.st.mt, .bool n.st.mr.a, .bool n.st.mr.p, .int .i64 n.st.mr.n, .int .i64 n.st.mb, .bool n.st.ml.a, .bool n.st.ml.p, .int .i64 n.st.ml.n, .int .i64 n.st.bo, .int .i64 n.st.pa, .int .i64 n.st.wh, .int .i64 n.st.al, .int .i64 n.st.lh, .int .i64 n.st.ri, .int .i64 n.st.dn] : Array Value).toList := fun j v hj => (hc (2 + j)).trans (by rw [← hj, show (#[.int .i64 n.st.sh, .int .i64 n.st.fl, .int .i64 n.st.cl, .bool n.st.w.a, .bool n.st.w.p, .int .i64 n.st.w.n, .bool n.st.h.a, .bool n.st.h.p, .int .i64 n.st.h.n, .int .i64 n.st.mn, .int .i64 n.st.mx, .int .i64 n.st.mt, .bool n.st.mr.a, .bool n.st.mr.p, .int .i64 n.st.mr.n, .int .i64 n.st.mb, .bool n.st.ml.a, .bool n.st.ml.p, .int .i64 n.st.ml.n, .int .i64 n.st.bo, .int .i64 n.st.pa, .int .i64 n.st.wh, .int .i64 n.st.al, .int .i64 n.st.lh, .int .i64 n.st.ri, .int .i64 n.st.dn] : Array Value).toList = (#[.int .i64 n.up, .string n.tx, .int .i64 n.st.sh, .int .i64 n.st.fl, .int .i64 n.st.cl, .bool n.st.w.a, .bool n.st.w.p, .int .i64 n.st.w.n, .bool n.st.h.a, .bool n.st.h.p, .int .i64 n.st.h.n, .int .i64 n.st.mn, .int .i64 n.st.mx, .int .i64 n.st.mt, .bool n.st.mr.a, .bool n.st.mr.p, .int .i64 n.st.mr.n, .int .i64 n.st.mb, .bool n.st.ml.a, .bool n.st.ml.p, .int .i64 n.st.ml.n, .int .i64 n.st.bo, .int .i64 n.st.pa, .int .i64 n.st.wh, .int .i64 n.st.al, .int .i64 n.st.lh, .int .i64 n.st.ri, .int .i64 n.st.dn] : Array Value).toList.drop 2 from rfl, List.getElem?_drop]; simp)
  go_wp2_with (with_reducible show wpList _ _ _ (⟨some 11, Op.load 34 _, _, _, _, _⟩ :: _) _ _; refine wpList_load_mid rfl 34 _ rfl w.heap.size 2 rfl (#[.int .i64 n.st.sh, .int .i64 n.st.fl, .int .i64 n.st.cl, .bool n.st.w.a, .bool n.st.w.p, .int .i64 n.st.w.n, .bool n.st.h.a, .bool n.st.h.p, .int .i64 n.st.h.n, .int .i64 n.st.mn, .int .i64 n.st.mx, .int .i64 n.st.mt, .bool n.st.mr.a, .bool n.st.mr.p, .int .i64 n.st.mr.n, .int .i64 n.st.mb, .bool n.st.ml.a, .bool n.st.ml.p, .int .i64 n.st.ml.n, .int .i64 n.st.bo, .int .i64 n.st.pa, .int .i64 n.st.wh, .int .i64 n.st.al, .int .i64 n.st.lh, .int .i64 n.st.ri, .int .i64 n.st.dn] : Array Value).toList _ R0 Tryd.underlying34 rfl (by kernel_rfl) ?_)
  refine (toStyle_any n.st _).mono ?_
  rintro e w2 ⟨rfl, hb⟩
  clear R0
  replace bel := bel.trans (hb.mono (Nat.le_of_lt (lies_lt l0))); replace l2 := below_lies hb l2 (lies_lt l2); replace l1 := below_lies hb l1 (lies_lt l1); replace l0 := below_lies hb l0 (lies_lt l0); clear hb; replace hc := lies_cell l0
  dsimp only
  iterate 4 go_step
  refine wpList_putA rfl _ _ _ rfl rfl _ _ _ _ _ _ rfl rfl l2 n2 (by kernel_rfl) (by kernel_rfl) (by kernel_rfl) ?_
  clear n2; intro w1 p l2' n2; replace l2 := l2'; clear l2'; replace bel := p.below bel (by omega); replace l1 := p.lies l1 (by omega); replace l0 := p.lies l0 (by omega); clear p; replace hc := lies_cell l0
  iterate 3 go_step
  iterate 2 go_step
  replace l2 := l2.trans (congrArg (fun c => some (Obj.cells c 42 (0, 0))) (show _ = #[.int .i64 n.up, .string n.tx, .int .i64 n.st.sh, .int .i64 n.st.fl, .int .i64 n.st.cl, .bool n.st.w.a, .bool n.st.w.p, .int .i64 n.st.w.n, .bool n.st.h.a, .bool n.st.h.p, .int .i64 n.st.h.n, .int .i64 n.st.mn, .int .i64 n.st.mx, .int .i64 n.st.mt, .bool n.st.mr.a, .bool n.st.mr.p, .int .i64 n.st.mr.n, .int .i64 n.st.mb, .bool n.st.ml.a, .bool n.st.ml.p, .int .i64 n.st.ml.n, .int .i64 n.st.bo, .int .i64 n.st.pa, .int .i64 n.st.wh, .int .i64 n.st.al, .int .i64 n.st.lh, .int .i64 n.st.ri, .int .i64 n.st.dn] by kernel_rfl))
  refine wpList_load_row rfl 42 _ rfl _ rfl _ (#[.int .i64 n.up, .string n.tx, .int .i64 n.st.sh, .int .i64 n.st.fl, .int .i64 n.st.cl, .bool n.st.w.a, .bool n.st.w.p, .int .i64 n.st.w.n, .bool n.st.h.a, .bool n.st.h.p, .int .i64 n.st.h.n, .int .i64 n.st.mn, .int .i64 n.st.mx, .int .i64 n.st.mt, .bool n.st.mr.a, .bool n.st.mr.p, .int .i64 n.st.mr.n, .int .i64 n.st.mb, .bool n.st.ml.a, .bool n.st.ml.p, .int .i64 n.st.ml.n, .int .i64 n.st.bo, .int .i64 n.st.pa, .int .i64 n.st.wh, .int .i64 n.st.al, .int .i64 n.st.lh, .int .i64 n.st.ri, .int .i64 n.st.dn]) _ _ l2 Tryd.underlying42 rfl (by kernel_rfl) ?_
  refine wpList_putA rfl _ _ _ rfl rfl _ _ _ _ _ _ rfl rfl l1 n1 (by kernel_rfl) (by kernel_rfl) (by kernel_rfl) ?_
  intro w2 p l3 n3
  replace l3 := l3.trans (congrArg (fun c => some (Obj.cells c 42 (0, 0))) (show _ = #[.int .i64 n.up, .string n.tx, .int .i64 n.st.sh, .int .i64 n.st.fl, .int .i64 n.st.cl, .bool n.st.w.a, .bool n.st.w.p, .int .i64 n.st.w.n, .bool n.st.h.a, .bool n.st.h.p, .int .i64 n.st.h.n, .int .i64 n.st.mn, .int .i64 n.st.mx, .int .i64 n.st.mt, .bool n.st.mr.a, .bool n.st.mr.p, .int .i64 n.st.mr.n, .int .i64 n.st.mb, .bool n.st.ml.a, .bool n.st.ml.p, .int .i64 n.st.ml.n, .int .i64 n.st.bo, .int .i64 n.st.pa, .int .i64 n.st.wh, .int .i64 n.st.al, .int .i64 n.st.lh, .int .i64 n.st.ri, .int .i64 n.st.dn] by kernel_rfl))
  replace bel := p.below bel (by omega)
  clear p hc l2 l1 l0 n1 n2 n3
  go_wp2
  exact bodyPost_ret (v := .agg #[.int .i64 n.up, .string n.tx, .int .i64 n.st.sh, .int .i64 n.st.fl, .int .i64 n.st.cl, .bool n.st.w.a, .bool n.st.w.p, .int .i64 n.st.w.n, .bool n.st.h.a, .bool n.st.h.p, .int .i64 n.st.h.n, .int .i64 n.st.mn, .int .i64 n.st.mx, .int .i64 n.st.mt, .bool n.st.mr.a, .bool n.st.mr.p, .int .i64 n.st.mr.n, .int .i64 n.st.mb, .bool n.st.ml.a, .bool n.st.ml.p, .int .i64 n.st.ml.n, .int .i64 n.st.bo, .int .i64 n.st.pa, .int .i64 n.st.wh, .int .i64 n.st.al, .int .i64 n.st.lh, .int .i64 n.st.ri, .int .i64 n.st.dn]) (results_cell_row Tryd.results15 _ _ _ _ (#[.int .i64 n.up, .string n.tx, .int .i64 n.st.sh, .int .i64 n.st.fl, .int .i64 n.st.cl, .bool n.st.w.a, .bool n.st.w.p, .int .i64 n.st.w.n, .bool n.st.h.a, .bool n.st.h.p, .int .i64 n.st.h.n, .int .i64 n.st.mn, .int .i64 n.st.mx, .int .i64 n.st.mt, .bool n.st.mr.a, .bool n.st.mr.p, .int .i64 n.st.mr.n, .int .i64 n.st.mb, .bool n.st.ml.a, .bool n.st.ml.p, .int .i64 n.st.ml.n, .int .i64 n.st.bo, .int .i64 n.st.pa, .int .i64 n.st.wh, .int .i64 n.st.al, .int .i64 n.st.lh, .int .i64 n.st.ri, .int .i64 n.st.dn]) _ _ rfl l3 Tryd.underlying42 rfl (by kernel_rfl)) rfl ⟨rfl, bel⟩

theorem infoNode : (Tryd.prog.info? 42).map (fun i => (i.zero, i.size, i.bytes)) = some (some (.agg #[.int .i64 0, .string ByteArray.empty, .int .i64 0, .int .i64 0, .int .i64 0, .bool false, .bool false, .int .i64 0, .bool false, .bool false, .int .i64 0, .int .i64 0, .int .i64 0, .int .i64 0, .bool false, .bool false, .int .i64 0, .int .i64 0, .bool false, .bool false, .int .i64 0, .int .i64 0, .int .i64 0, .int .i64 0, .int .i64 0, .int .i64 0, .int .i64 0, .int .i64 0]), 28, 200) := by kernel_rfl

set_option maxRecDepth 100000 in
set_option maxHeartbeats 2000000 in
theorem toNodes_some (b off n cap : Nat) (ns : List Nd) (w : World) (hn : ns.length = n) (hl : n ≤ 1048576)
    (hc : ∀ i x, ns[i]? = some x → w.rangeAt b (off + i * 28) (ndL x)) :
    Calls Tryd.prog 6 #[.slice (some ⟨b, off, none⟩) n cap] w fun e w' =>
      e = .returned (.slice (some ⟨w.heap.size, 0, none⟩) n n) ∧ Below w.heap.size w w' ∧ w.heap.size < w'.heap.size ∧ NdOwn w' w.heap.size n ns n := by
  obtain ⟨i0, hi, hz0, hz1, hz2⟩ := info_parts infoNode
  go_enter Tryd.func6, Tryd.ntmps6
  go_wp2_with (at_make; refine wpList_make_full _ rfl (.tmp 6) (.tmp 6) 26 rfl w.heap.size 42 i0 (.agg #[.int .i64 0, .string ByteArray.empty, .int .i64 0, .int .i64 0, .int .i64 0, .bool false, .bool false, .int .i64 0, .bool false, .bool false, .int .i64 0, .int .i64 0, .int .i64 0, .int .i64 0, .bool false, .bool false, .int .i64 0, .int .i64 0, .bool false, .bool false, .int .i64 0, .int .i64 0, .int .i64 0, .int .i64 0, .int .i64 0, .int .i64 0, .int .i64 0, .int .i64 0]) 28 Tryd.underlying26 hi hz0 hz1 .i64 .i64 n n n rfl rfl rfl rfl (by rw [hz2]; omega) (by unfold maxLen; omega) (Nat.le_refl _) ?_; intro w1 hown1 hgrow1)
  have hb1 := (Below.refl w.heap.size w).grown hgrow1 (Nat.le_refl _) (by intro k h; cases h)
  have own1 : NdOwn w1 w.heap.size n ns 0 := ⟨there_own hown1, fun i x h => absurd h (by omega)⟩
  have hsz1 : w.heap.size < w1.heap.size := by
    rcases hown1.2 with ⟨h', _⟩ | ⟨g', cap', cur, h', _, hg, _⟩
    · simp at h'
    · simp only [Value.slice.injEq, Option.some.injEq, Addr.mk.injEq, and_true, true_and] at h'
      obtain ⟨rfl, rfl⟩ := h'
      exact lies_lt hg
  clear hgrow1 hown1
  go_loopw [4] (fun i wr => ∃ k : Nat, k ≤ n ∧ i = .int .i64 k ∧ NdOwn wr w.heap.size n ns k ∧ w.heap.size < wr.heap.size ∧ Below w.heap.size w wr) (fun i _ => n - (intOf i).toNat)
  case atStart => exact ⟨0, Nat.zero_le _, rfl, own1, hsz1, hb1⟩
  case round =>
    obtain ⟨k, hk, rfl, hown, hsz, hbw⟩ := hrel
    clear own1 hb1 hsz1
    by_cases hlt : k < n
    · obtain ⟨x, hx⟩ : ∃ x, ns[k]? = some x := ⟨_, List.getElem?_eq_getElem (by omega)⟩
      have hr0 := hc k x hx
      have hr := range_below hr0 hbw (range_lt hr0)
      have H : Hid (Below w.heap.size w wr) := hbw
      have HO : Hid (NdOwn wr w.heap.size n ns k) := hown
      clear hr0 hc hbw hown
      go_wp2_with (with_reducible show wpList _ _ _ (⟨some 19, Op.load 36 _, _, _, _, _⟩ :: _) _ _; refine wpList_load_mid rfl 36 _ rfl b (off + k * 28) rfl (ndL x) _ hr Tryd.underlying36 rfl (by kernel_rfl) ?_)
      refine (toNode_any x _).mono ?_
      rintro e w2 ⟨rfl, hb⟩
      have O2 := HO.out.below hb hsz
      have B2 := H.out.trans (hb.mono (Nat.le_of_lt hsz))
      have Z2 : w.heap.size < w2.heap.size := Nat.lt_of_lt_of_le hsz hb.size
      clear hr hb HO H
      go_wp2_with (with_reducible show wpList _ _ _ (⟨none, Op.store 42 _ _, _, _, _, _⟩ :: _) _ _; refine wpList_store_mid rfl 42 _ _ rfl w.heap.size (k * 28) (ndL x).toArray ?q1 ?q2 ?q3 ?q4 ?q5 ?_)
      case q1 => rfl
      case q2 => rfl
      case q3 => exact there_at O2.there hlt
      case q4 => kernel_rfl
      case q5 => kernel_rfl

      have O3 := O2.put hlt hx
      have B3 := below_setCells (ndL x) w.heap.size (k * 28) _ B2 (Nat.le_refl _)
      have Z3 : w.heap.size < (w2.setCells w.heap.size (k * 28) (ndL x)).heap.size := Nat.lt_of_lt_of_le Z2 (below_setCells (ndL x) w.heap.size (k * 28) w2 (Below.refl 0 w2) (Nat.zero_le _)).size
      revert O3 B3 Z3
      generalize w2.setCells w.heap.size (k * 28) (ndL x) = w3
      intro O3 B3 Z3
      go_wp2
      go_roundw
      case rel => exact ⟨k + 1, by omega, by go_num, O3, Z3, B3⟩
      case measure => simp [intOf]; omega
    · go_wp2
      go_ret
      have : k = n := by omega
      subst this
      exact ⟨rfl, hbw, hsz, hown⟩
end Go.Proofs.YtddnphgpdnedbaaDoor
