/-
  The program's GoodTree, for every row of nodes: it says just what treeB says.
-/
import Derived.Test.YtdgagjnkbmckoaaDoorNdC
namespace Go.Proofs.YtdgagjnkbmckoaaDoor
open Go.ChangeShapes Go.WideShapes Go.ChangeAt Go.RowKit
set_option linter.unusedVariables false

theorem range_box {W : World} {g : Nat} {x : Nd} (l0 : W.heap[g]? = some (.cells (#[.int .i64 x.up, .string x.tx, .int .i64 x.st.sh, .int .i64 x.st.fl, .int .i64 x.st.cl, .bool x.st.w.a, .bool x.st.w.p, .int .i64 x.st.w.n, .bool x.st.h.a, .bool x.st.h.p, .int .i64 x.st.h.n, .int .i64 x.st.mn, .int .i64 x.st.mx, .int .i64 x.st.mt, .bool x.st.mr.a, .bool x.st.mr.p, .int .i64 x.st.mr.n, .int .i64 x.st.mb, .bool x.st.ml.a, .bool x.st.ml.p, .int .i64 x.st.ml.n, .int .i64 x.st.bo, .int .i64 x.st.pa, .int .i64 x.st.wh, .int .i64 x.st.al, .int .i64 x.st.lh, .int .i64 x.st.ri, .int .i64 x.st.dn]) 47 (0, 0))) : W.rangeAt g 0 (ndL x) := fun j v hj => (lies_cell l0 (0 + j)).trans (by rw [← hj, Nat.zero_add]; show (ndL x).toArray[j]? = _; simp)
theorem goodNode_b {n : Nd} {r : Bool} {w : World} (hr : okN (okB true) styleB n = r) (hs : n.tx.size ≤ maxLen) (et : TypeId) (ev : Value) (he : w.cell? ⟨0, 0, none⟩ = some (.iface et ev)) :
    Calls Tryd.prog 24 #[.agg #[.int .i64 n.up, .string n.tx, .int .i64 n.st.sh, .int .i64 n.st.fl, .int .i64 n.st.cl, .bool n.st.w.a, .bool n.st.w.p, .int .i64 n.st.w.n, .bool n.st.h.a, .bool n.st.h.p, .int .i64 n.st.h.n, .int .i64 n.st.mn, .int .i64 n.st.mx, .int .i64 n.st.mt, .bool n.st.mr.a, .bool n.st.mr.p, .int .i64 n.st.mr.n, .int .i64 n.st.mb, .bool n.st.ml.a, .bool n.st.ml.p, .int .i64 n.st.ml.n, .int .i64 n.st.bo, .int .i64 n.st.pa, .int .i64 n.st.wh, .int .i64 n.st.al, .int .i64 n.st.lh, .int .i64 n.st.ri, .int .i64 n.st.dn]] w fun e w' => e = .returned (.bool r) ∧ Below w.heap.size w w' := by
  rw [← hr]
  exact goodNode_any n w hs et ev he

set_option maxRecDepth 100000 in
set_option maxHeartbeats 8000000 in
theorem implTree_loop (b off n cap : Nat) (ns : List Nd) (w : World) (hn : ns.length = n) (h1 : 1 ≤ n) (h40 : n ≤ 40) (hs : ∀ x ∈ ns, x.tx.size ≤ 1048576)
    (hc : ∀ i x, ns[i]? = some x → w.rangeAt b (off + i * 28) (ndL x)) (hT0 : isT ns 0 = false) (hU0 : upL ns 0 = -1)
    (et : TypeId) (ev : Value) (he : w.cell? ⟨0, 0, none⟩ = some (.iface et ev)) :
    Calls Tryd.prog 8 #[.slice (some ⟨b, off, none⟩) n cap] w fun e w' => e = .returned (.bool (treeB (okB true) styleB ns)) ∧ Below w.heap.size w w' := by
  have lte : 0 < w.heap.size := World.block_lt_of_cell? _ ⟨0, 0, none⟩ he
  obtain ⟨i0, hi, hz0, hz1, hz2⟩ := info_parts Tryd.infoInt
  obtain ⟨x0, hx0⟩ : ∃ x, ns[0]? = some x := ⟨_, List.getElem?_eq_getElem (by omega)⟩
  have hr0 := hc 0 x0 hx0
  rw [Nat.zero_mul, Nat.add_zero] at hr0
  have hu0 : w.cell? ⟨b, off, none⟩ = some (.int .i64 (-1)) := by
    have := hr0 0 _ rfl
    rw [Nat.add_zero] at this
    rw [this]
    unfold upL at hU0
    rw [getD_of hx0] at hU0
    rw [hU0]
  have T0 := implIsText_any x0
  have hzx : zeroS x0.st = false := by unfold isT at hT0; rw [getD_of hx0] at hT0; exact hT0
  rw [hzx] at T0
  have HC : Hid (∀ i x, ns[i]? = some x → w.rangeAt b (off + i * 28) (ndL x)) := hc
  have HE : Hid (w.cell? ⟨0, 0, none⟩ = some (.iface et ev)) := he
  have HU : Hid (upL ns 0 = -1) := hU0
  have HT : Hid (isT ns 0 = false) := hT0
  have HS : Hid (∀ x ∈ ns, x.tx.size ≤ 1048576) := hs
  have hlb := range_lt hr0
  clear hc he hU0 hT0 hs hzx hx0
  have g1 : ¬ ((n : Int) < 1) := by omega
  have g2 : ¬ ((40 : Int) < (n : Int)) := by omega
  have g3 : (0 : Int) < (n : Int) := by omega
  go_enter Tryd.func8, Tryd.ntmps8
  go_wp2_with (with_reducible show wpList _ _ _ (⟨some 18, Op.load 47 _, _, _, _, _⟩ :: _) _ _; refine wpList_load_midG ?qa1 47 _ rfl b off ?qb1 (ndL x0) _ hr0 Tryd.underlying47 rfl (by kernel_rfl) ?_)
  refine (T0 _).mono ?_
  rintro e w0 ⟨rfl, hb0⟩
  have hu1 : w0.cell? ⟨b, off, none⟩ = some (.int .i64 (-1)) := (hb0.cell (p := ⟨b, off, none⟩) hlb).trans hu0
  clear T0 hu0 hr0
  go_wp2_with fail
  clear hu1 g1 g2 g3
  go_loopw [3, 30] (fun v i wr => ∃ k : Nat, k ≤ n ∧ i = .int .i64 k ∧ (∀ j, j < k → okAt (okB true) styleB ns j = true) ∧ (k = 0 → v = .slice none 0 0) ∧ OwnI wr w.heap.size v (aroundL ns k) ∧ Below w.heap.size w wr) (fun _ i _ => n - (intOf i).toNat)
  case atStart => exact ⟨0, Nat.zero_le _, rfl, fun j hj => absurd hj (by omega), fun _ => rfl, ownI_nil _ _, hb0⟩
  case round =>
    obtain ⟨k, hk, rfl, hp, hv0, hown, hbw⟩ := hrel
    clear hb0
    have HP : Hid (∀ j, j < k → okAt (okB true) styleB ns j = true) := hp
    clear hp
    by_cases hlt : k < n
    rotate_left
    · clear hown hv0
      go_wp2
      go_ret
      have e : k = n := by omega
      exact ⟨ret_bool (treeB_yes (by omega) (by omega) fun j hj => HP.out j (by omega)).symm, hbw⟩
    have HUp : Hid (∀ j, j < k → okUp ns j = true) := fun j hj => okAt_up (HP.out j hj)
    obtain ⟨x, hx⟩ : ∃ x, ns[k]? = some x := ⟨_, List.getElem?_eq_getElem (by omega)⟩
    have HX : Hid (ns.getD k nd0 = x) := getD_of hx
    have HXu : Hid (upL ns k = x.up) := by show upL ns k = x.up; unfold upL; rw [HX.out]
    have HXt : Hid (isT ns k = zeroS x.st) := by show isT ns k = _; unfold isT; rw [HX.out]
    have hr := range_below (HC.out k x hx) hbw (range_lt (HC.out k x hx))
    have hxs : x.tx.size ≤ maxLen := by have := HS.out x (List.mem_of_getElem? hx); unfold maxLen; omega
    clear hx HC HS
    have hal := around_len k HUp.out
    have IT := fun W => implIsText_any x W
    have hko : ∀ {r : Bool}, okN (okB true) styleB x = r → okN (okB true) styleB (ns.getD k nd0) = r := fun h => by rw [HX.out]; exact h
    by_cases hk0 : k = 0
    · subst hk0
      have hv := hv0 rfl
      subst hv
      rw [Nat.zero_mul, Nat.add_zero] at hr
      have IX := fun W => index_any none 0 0 x.up [] W rfl (by omega) (.inl rfl)
      rw [ixI_out (by simp)] at IX
      have HOk : Hid (okUp ns 0 = true) := by show okUp ns 0 = true; rw [okUp, if_pos rfl, HU.out, HT.out]; rfl
      cases hG : okN (okB true) styleB x
      · have GN := fun (W : World) (h : Below w.heap.size w W) => goodNode_b hG hxs et ev ((h.cell (p := ⟨0, 0, none⟩) lte).trans HE.out)
        have HF : Hid (treeB (okB true) styleB ns = false) := treeB_no (k := 0) (by omega) (by rw [okAt, hko hG, Bool.and_false])
        clear IT hko
        go_wp2_with (first
          | (with_reducible show wpList _ _ _ (⟨some 34, Op.load 47 _, _, _, _, _⟩ :: _) _ _; refine wpList_load_mid rfl 47 _ rfl b off rfl (ndL x) _ hr Tryd.underlying47 rfl (by kernel_rfl) ?_)
          | (with_reducible show wpList _ _ _ (⟨none, Op.store 47 _ _, _, _, _, _⟩ :: _) _ _; refine wpList_store_box rfl 47 _ _ rfl rfl (#[.int .i64 x.up, .string x.tx, .int .i64 x.st.sh, .int .i64 x.st.fl, .int .i64 x.st.cl, .bool x.st.w.a, .bool x.st.w.p, .int .i64 x.st.w.n, .bool x.st.h.a, .bool x.st.h.p, .int .i64 x.st.h.n, .int .i64 x.st.mn, .int .i64 x.st.mx, .int .i64 x.st.mt, .bool x.st.mr.a, .bool x.st.mr.p, .int .i64 x.st.mr.n, .int .i64 x.st.mb, .bool x.st.ml.a, .bool x.st.ml.p, .int .i64 x.st.ml.n, .int .i64 x.st.bo, .int .i64 x.st.pa, .int .i64 x.st.wh, .int .i64 x.st.al, .int .i64 x.st.lh, .int .i64 x.st.ri, .int .i64 x.st.dn]) rfl rfl (by kernel_rfl) rfl (by kernel_rfl) ?_; intro W bel l0 hsz; refine stay ?_))
        have hc0 : W.cell? ⟨wr.heap.size, 0, none⟩ = some (.int .i64 x.up) := (lies_cell l0 0).trans rfl
        have l0 : Hid (W.heap[wr.heap.size]? = some (.cells (#[.int .i64 x.up, .string x.tx, .int .i64 x.st.sh, .int .i64 x.st.fl, .int .i64 x.st.cl, .bool x.st.w.a, .bool x.st.w.p, .int .i64 x.st.w.n, .bool x.st.h.a, .bool x.st.h.p, .int .i64 x.st.h.n, .int .i64 x.st.mn, .int .i64 x.st.mx, .int .i64 x.st.mt, .bool x.st.mr.a, .bool x.st.mr.p, .int .i64 x.st.mr.n, .int .i64 x.st.mb, .bool x.st.ml.a, .bool x.st.ml.p, .int .i64 x.st.ml.n, .int .i64 x.st.bo, .int .i64 x.st.pa, .int .i64 x.st.wh, .int .i64 x.st.al, .int .i64 x.st.lh, .int .i64 x.st.ri, .int .i64 x.st.dn]) 47 (0, 0))) := l0
        unfold Stay
        go_wp2_with fail
        have bW := hbw.trans (bel.mono hbw.size)
        have oW := hown.keep bel
        have ltW : wr.heap.size < W.heap.size := by omega
        clear hr bel hown hbw
        refine (IX _).mono ?_
        rintro e w' ⟨rfl, hw⟩
        have hw := hw.symm
        subst hw
        have rb := range_box l0.out
        have G1 := GN W bW
        go_wp2_with (with_reducible show wpList _ _ _ (⟨some 46, Op.load 47 _, _, _, _, _⟩ :: _) _ _; refine wpList_load_midG ?qa2 47 _ rfl wr.heap.size 0 ?qb2 (ndL x) _ rb Tryd.underlying47 rfl (by kernel_rfl) ?_)
        case qb2 => rfl
        go_wp2_with fail
        refine G1.mono ?_
        rintro e w1 ⟨rfl, hb1⟩
        have b1 := bW.trans (hb1.mono bW.size)
        have o1 := oW.keep hb1
        have l1 : Hid (w1.heap[wr.heap.size]? = some (.cells (#[.int .i64 x.up, .string x.tx, .int .i64 x.st.sh, .int .i64 x.st.fl, .int .i64 x.st.cl, .bool x.st.w.a, .bool x.st.w.p, .int .i64 x.st.w.n, .bool x.st.h.a, .bool x.st.h.p, .int .i64 x.st.h.n, .int .i64 x.st.mn, .int .i64 x.st.mx, .int .i64 x.st.mt, .bool x.st.mr.a, .bool x.st.mr.p, .int .i64 x.st.mr.n, .int .i64 x.st.mb, .bool x.st.ml.a, .bool x.st.ml.p, .int .i64 x.st.ml.n, .int .i64 x.st.bo, .int .i64 x.st.pa, .int .i64 x.st.wh, .int .i64 x.st.al, .int .i64 x.st.lh, .int .i64 x.st.ri, .int .i64 x.st.dn]) 47 (0, 0))) := below_lies hb1 l0.out ltW
        have lt1 : wr.heap.size < w1.heap.size := lies_lt l1.out
        clear hb1 bW oW l0 rb G1 GN hc0 ltW
        go_wp2
        go_ret
        exact ⟨ret_bool HF.out.symm, b1⟩
      · have GN := fun (W : World) (h : Below w.heap.size w W) => goodNode_b hG hxs et ev ((h.cell (p := ⟨0, 0, none⟩) lte).trans HE.out)
        have HA : Hid (okAt (okB true) styleB ns 0 = true) := by show okAt _ _ ns 0 = true; rw [okAt, hko hG, HOk.out]; rfl
        have hz : zeroS x.st = false := HXt.out.symm.trans HT.out
        rw [hz] at IT
        have HN : Hid (aroundL ns 1 = [] ++ [(0 : Int)]) := by
          show aroundL ns (0 + 1) = _
          rw [cut_next HOk.out (fun j hj => absurd hj (by omega)), HT.out]
          simp [cutL, aroundL]
        clear hko hz
        go_wp2_with (first
          | (with_reducible show wpList _ _ _ (⟨some 34, Op.load 47 _, _, _, _, _⟩ :: _) _ _; refine wpList_load_mid rfl 47 _ rfl b off rfl (ndL x) _ hr Tryd.underlying47 rfl (by kernel_rfl) ?_)
          | (with_reducible show wpList _ _ _ (⟨none, Op.store 47 _ _, _, _, _, _⟩ :: _) _ _; refine wpList_store_box rfl 47 _ _ rfl rfl (#[.int .i64 x.up, .string x.tx, .int .i64 x.st.sh, .int .i64 x.st.fl, .int .i64 x.st.cl, .bool x.st.w.a, .bool x.st.w.p, .int .i64 x.st.w.n, .bool x.st.h.a, .bool x.st.h.p, .int .i64 x.st.h.n, .int .i64 x.st.mn, .int .i64 x.st.mx, .int .i64 x.st.mt, .bool x.st.mr.a, .bool x.st.mr.p, .int .i64 x.st.mr.n, .int .i64 x.st.mb, .bool x.st.ml.a, .bool x.st.ml.p, .int .i64 x.st.ml.n, .int .i64 x.st.bo, .int .i64 x.st.pa, .int .i64 x.st.wh, .int .i64 x.st.al, .int .i64 x.st.lh, .int .i64 x.st.ri, .int .i64 x.st.dn]) rfl rfl (by kernel_rfl) rfl (by kernel_rfl) ?_; intro W bel l0 hsz; refine stay ?_))
        have hc0 : W.cell? ⟨wr.heap.size, 0, none⟩ = some (.int .i64 x.up) := (lies_cell l0 0).trans rfl
        have l0 : Hid (W.heap[wr.heap.size]? = some (.cells (#[.int .i64 x.up, .string x.tx, .int .i64 x.st.sh, .int .i64 x.st.fl, .int .i64 x.st.cl, .bool x.st.w.a, .bool x.st.w.p, .int .i64 x.st.w.n, .bool x.st.h.a, .bool x.st.h.p, .int .i64 x.st.h.n, .int .i64 x.st.mn, .int .i64 x.st.mx, .int .i64 x.st.mt, .bool x.st.mr.a, .bool x.st.mr.p, .int .i64 x.st.mr.n, .int .i64 x.st.mb, .bool x.st.ml.a, .bool x.st.ml.p, .int .i64 x.st.ml.n, .int .i64 x.st.bo, .int .i64 x.st.pa, .int .i64 x.st.wh, .int .i64 x.st.al, .int .i64 x.st.lh, .int .i64 x.st.ri, .int .i64 x.st.dn]) 47 (0, 0))) := l0
        unfold Stay
        go_wp2_with fail
        have bW := hbw.trans (bel.mono hbw.size)
        have oW := hown.keep bel
        have ltW : wr.heap.size < W.heap.size := by omega
        clear hr bel hown hbw
        refine (IX _).mono ?_
        rintro e w' ⟨rfl, hw⟩
        have hw := hw.symm
        subst hw
        have rb := range_box l0.out
        have G1 := GN W bW
        go_wp2_with (with_reducible show wpList _ _ _ (⟨some 46, Op.load 47 _, _, _, _, _⟩ :: _) _ _; refine wpList_load_midG ?qa3 47 _ rfl wr.heap.size 0 ?qb3 (ndL x) _ rb Tryd.underlying47 rfl (by kernel_rfl) ?_)
        case qb3 => rfl
        go_wp2_with fail
        refine G1.mono ?_
        rintro e w1 ⟨rfl, hb1⟩
        have b1 := bW.trans (hb1.mono bW.size)
        have o1 := oW.keep hb1
        have l1 : Hid (w1.heap[wr.heap.size]? = some (.cells (#[.int .i64 x.up, .string x.tx, .int .i64 x.st.sh, .int .i64 x.st.fl, .int .i64 x.st.cl, .bool x.st.w.a, .bool x.st.w.p, .int .i64 x.st.w.n, .bool x.st.h.a, .bool x.st.h.p, .int .i64 x.st.h.n, .int .i64 x.st.mn, .int .i64 x.st.mx, .int .i64 x.st.mt, .bool x.st.mr.a, .bool x.st.mr.p, .int .i64 x.st.mr.n, .int .i64 x.st.mb, .bool x.st.ml.a, .bool x.st.ml.p, .int .i64 x.st.ml.n, .int .i64 x.st.bo, .int .i64 x.st.pa, .int .i64 x.st.wh, .int .i64 x.st.al, .int .i64 x.st.lh, .int .i64 x.st.ri, .int .i64 x.st.dn]) 47 (0, 0))) := below_lies hb1 l0.out ltW
        have lt1 : wr.heap.size < w1.heap.size := lies_lt l1.out
        clear hb1 bW oW l0 rb G1 GN hc0 ltW
        have OC := o1
        clear o1
        have rb := range_box l1.out
        go_wp2_with (with_reducible show wpList _ _ _ (⟨some 57, Op.load 47 _, _, _, _, _⟩ :: _) _ _; refine wpList_load_mid rfl 47 _ rfl wr.heap.size 0 rfl (ndL x) _ rb Tryd.underlying47 rfl (by kernel_rfl) ?_)
        refine (IT _).mono ?_
        rintro e w2 ⟨rfl, hb2⟩
        have b2 := b1.trans (hb2.mono b1.size)
        have o2 := OC.keep hb2
        clear hb2 b1 l1 rb OC
        have o2' : w2.ownsRow w.heap.size 3 1 _ 0 ((([] : List Int)).map (Value.int .i64)) := o2
        go_wp2_with (at_builtin; refine wpList_append_own _ rfl (.tmp 60) (.tmp 62) 29 rfl w.heap.size 3 i0 (.int .i64 0) 1 8 Tryd.underlying29 hi hz0 hz1 hz2 rfl (by decide) _ _ _ rfl (o2'.alloc _) ⟨w2.heap.size, 0, none⟩ 1 1 [.int .i64 0] rfl rfl (cell_one_new _ _ _) (one_i64 _) (by unfold maxLen; omega) (by omega) (by have := b2.size; simp; omega) ?_)
        intro v' w3 hown3 hgrow3 _
        have b3 : Below w.heap.size w w3 := (b2.alloc b2.size _).grown hgrow3 (by have := b2.size; simp; omega) (fun j hj => o2.base j hj)
        have o3 : OwnI w3 w.heap.size v' (aroundL ns 1) := by rw [HN.out]; exact OwnI.snoc rfl hown3
        clear hown3 hgrow3 o2' o2 b2
        go_wp2
        go_roundw
        case rel => exact ⟨1, by omega, by go_num, snocB (f := okAt (okB true) styleB) HP.out HA.out, fun h => absurd h (by omega), o3, b3⟩
        case measure => simp [intOf]; omega
    have hkp : (0 : Int) < (k : Int) := by omega
    clear hv0 HU HT
    by_cases hin : x.up ∈ aroundL ns k
    rotate_left
    · have HF : Hid (treeB (okB true) styleB ns = false) := treeB_no (k := k) (by omega) (by rw [okAt, okUp, if_neg hk0, HXu.out, decide_eq_false hin]; rfl)
      obtain ⟨a3, c3, hv, hrow⟩ := hown.row
      obtain ⟨L, hL⟩ : ∃ L, L = (aroundL ns k).length := ⟨_, rfl⟩
      have IX := fun W h => index_any a3 L c3 x.up (aroundL ns k) W hL (by omega) h
      rw [ixI_out hin] at IX
      rw [← hL] at hv
      subst hv
      have ROW : ∀ W, OwnI W w.heap.size (.slice a3 L c3) (aroundL ns k) → Row W a3 (aroundL ns k) := fun W h => by
        obtain ⟨_, _, q1, q2⟩ := h.row
        cases q1
        exact q2
      clear hL hrow IT hko hin
      go_wp2_with (first
        | (with_reducible show wpList _ _ _ (⟨some 34, Op.load 47 _, _, _, _, _⟩ :: _) _ _; refine wpList_load_mid rfl 47 _ rfl b (off + k * 28) rfl (ndL x) _ hr Tryd.underlying47 rfl (by kernel_rfl) ?_)
        | (with_reducible show wpList _ _ _ (⟨none, Op.store 47 _ _, _, _, _, _⟩ :: _) _ _; refine wpList_store_box rfl 47 _ _ rfl rfl (#[.int .i64 x.up, .string x.tx, .int .i64 x.st.sh, .int .i64 x.st.fl, .int .i64 x.st.cl, .bool x.st.w.a, .bool x.st.w.p, .int .i64 x.st.w.n, .bool x.st.h.a, .bool x.st.h.p, .int .i64 x.st.h.n, .int .i64 x.st.mn, .int .i64 x.st.mx, .int .i64 x.st.mt, .bool x.st.mr.a, .bool x.st.mr.p, .int .i64 x.st.mr.n, .int .i64 x.st.mb, .bool x.st.ml.a, .bool x.st.ml.p, .int .i64 x.st.ml.n, .int .i64 x.st.bo, .int .i64 x.st.pa, .int .i64 x.st.wh, .int .i64 x.st.al, .int .i64 x.st.lh, .int .i64 x.st.ri, .int .i64 x.st.dn]) rfl rfl (by kernel_rfl) rfl (by kernel_rfl) ?_; intro W bel l0 hsz; refine stay ?_))
      have hc0 : W.cell? ⟨wr.heap.size, 0, none⟩ = some (.int .i64 x.up) := (lies_cell l0 0).trans rfl
      have l0 : Hid (W.heap[wr.heap.size]? = some (.cells (#[.int .i64 x.up, .string x.tx, .int .i64 x.st.sh, .int .i64 x.st.fl, .int .i64 x.st.cl, .bool x.st.w.a, .bool x.st.w.p, .int .i64 x.st.w.n, .bool x.st.h.a, .bool x.st.h.p, .int .i64 x.st.h.n, .int .i64 x.st.mn, .int .i64 x.st.mx, .int .i64 x.st.mt, .bool x.st.mr.a, .bool x.st.mr.p, .int .i64 x.st.mr.n, .int .i64 x.st.mb, .bool x.st.ml.a, .bool x.st.ml.p, .int .i64 x.st.ml.n, .int .i64 x.st.bo, .int .i64 x.st.pa, .int .i64 x.st.wh, .int .i64 x.st.al, .int .i64 x.st.lh, .int .i64 x.st.ri, .int .i64 x.st.dn]) 47 (0, 0))) := l0
      unfold Stay
      go_wp2_with fail
      have bW := hbw.trans (bel.mono hbw.size)
      have oW := hown.keep bel
      have ltW : wr.heap.size < W.heap.size := by omega
      clear hr bel hown hbw
      refine (IX _ (ROW _ oW)).mono ?_
      rintro e w' ⟨rfl, hw⟩
      have hw := hw.symm
      subst hw
      go_wp2
      go_ret
      exact ⟨ret_bool HF.out.symm, bW⟩
    obtain ⟨i, hi'⟩ : ∃ i, i = idxL x.up (aroundL ns k) := ⟨_, rfl⟩
    have HI : Hid (i = idxL x.up (aroundL ns k)) := hi'
    have hil := idx_lt hin
    rw [← hi'] at hil
    clear hi'
    obtain ⟨a3, c3, hv, hrow⟩ := hown.row
    obtain ⟨L, hL⟩ : ∃ L, L = (aroundL ns k).length := ⟨_, rfl⟩
    have IX := fun W h => index_any a3 L c3 x.up (aroundL ns k) W hL (by omega) h
    rw [ixI_in hin, ← HI.out] at IX
    have HL : Hid (L = (aroundL ns k).length) := hL
    rw [← hL] at hv hil hal
    subst hv
    clear hL hrow
    obtain ⟨g, rfl, hcap⟩ : ∃ g, a3 = some ⟨g, 0, none⟩ ∧ L ≤ c3 := by
      have h' : wr.ownsRow w.heap.size 3 1 (.slice a3 L c3) _ _ := hown
      rcases h'.2 with ⟨q, h0⟩ | ⟨g, cap', cur, q, _, _, q1, _⟩
      · have := HL.out; omega
      · simp only [Value.slice.injEq] at q
        obtain ⟨rfl, q2, rfl⟩ := q
        exact ⟨g, rfl, by rw [q2]; exact q1⟩
    have ROW : ∀ W, OwnI W w.heap.size (.slice (some ⟨g, 0, none⟩) L c3) (aroundL ns k) → Row W (some ⟨g, 0, none⟩) (aroundL ns k) := fun W h => by
      obtain ⟨_, _, q1, q2⟩ := h.row
      cases q1
      exact q2
    have HCut : Hid ((aroundL ns k).take (i + 1) = cutL ns k) := by
      show _ = _
      rw [cutL, HXu.out, ixI_in hin, ← HI.out, show ((i : Int) + 1).toNat = i + 1 by omega]
    have OCUT : ∀ W, OwnI W w.heap.size (.slice (some ⟨g, 0, none⟩) L c3) (aroundL ns k) → OwnI W w.heap.size (.slice (some ⟨g, 0, none⟩) (i + 1) c3) (cutL ns k) := fun W h => by
      rw [← HCut.out]
      exact h.cut (i + 1) (by omega) HL.out
    have HIn : Hid (x.up ∈ aroundL ns k) := hin
    have b1i : (0 : Int) ≤ (i : Int) + 1 := by omega
    have b2i : (i : Int) + 1 ≤ (c3 : Int) := by omega
    have b3i : ¬ ((i : Int) < 0) := by omega
    have hcl : (cutL ns k).length = i + 1 := by rw [cut_len (by omega) (by rw [HXu.out]; exact HIn.out), HXu.out, ← HI.out]
    clear hin
    cases hG : okN (okB true) styleB x
    · have GN := fun (W : World) (h : Below w.heap.size w W) => goodNode_b hG hxs et ev ((h.cell (p := ⟨0, 0, none⟩) lte).trans HE.out)
      have HF : Hid (treeB (okB true) styleB ns = false) := treeB_no (k := k) (by omega) (by rw [okAt, hko hG, Bool.and_false])
      clear IT hko OCUT hcl
      go_wp2_with (first
        | (with_reducible show wpList _ _ _ (⟨some 34, Op.load 47 _, _, _, _, _⟩ :: _) _ _; refine wpList_load_mid rfl 47 _ rfl b (off + k * 28) rfl (ndL x) _ hr Tryd.underlying47 rfl (by kernel_rfl) ?_)
        | (with_reducible show wpList _ _ _ (⟨none, Op.store 47 _ _, _, _, _, _⟩ :: _) _ _; refine wpList_store_box rfl 47 _ _ rfl rfl (#[.int .i64 x.up, .string x.tx, .int .i64 x.st.sh, .int .i64 x.st.fl, .int .i64 x.st.cl, .bool x.st.w.a, .bool x.st.w.p, .int .i64 x.st.w.n, .bool x.st.h.a, .bool x.st.h.p, .int .i64 x.st.h.n, .int .i64 x.st.mn, .int .i64 x.st.mx, .int .i64 x.st.mt, .bool x.st.mr.a, .bool x.st.mr.p, .int .i64 x.st.mr.n, .int .i64 x.st.mb, .bool x.st.ml.a, .bool x.st.ml.p, .int .i64 x.st.ml.n, .int .i64 x.st.bo, .int .i64 x.st.pa, .int .i64 x.st.wh, .int .i64 x.st.al, .int .i64 x.st.lh, .int .i64 x.st.ri, .int .i64 x.st.dn]) rfl rfl (by kernel_rfl) rfl (by kernel_rfl) ?_; intro W bel l0 hsz; refine stay ?_))
      have hc0 : W.cell? ⟨wr.heap.size, 0, none⟩ = some (.int .i64 x.up) := (lies_cell l0 0).trans rfl
      have l0 : Hid (W.heap[wr.heap.size]? = some (.cells (#[.int .i64 x.up, .string x.tx, .int .i64 x.st.sh, .int .i64 x.st.fl, .int .i64 x.st.cl, .bool x.st.w.a, .bool x.st.w.p, .int .i64 x.st.w.n, .bool x.st.h.a, .bool x.st.h.p, .int .i64 x.st.h.n, .int .i64 x.st.mn, .int .i64 x.st.mx, .int .i64 x.st.mt, .bool x.st.mr.a, .bool x.st.mr.p, .int .i64 x.st.mr.n, .int .i64 x.st.mb, .bool x.st.ml.a, .bool x.st.ml.p, .int .i64 x.st.ml.n, .int .i64 x.st.bo, .int .i64 x.st.pa, .int .i64 x.st.wh, .int .i64 x.st.al, .int .i64 x.st.lh, .int .i64 x.st.ri, .int .i64 x.st.dn]) 47 (0, 0))) := l0
      unfold Stay
      go_wp2_with fail
      have bW := hbw.trans (bel.mono hbw.size)
      have oW := hown.keep bel
      have ltW : wr.heap.size < W.heap.size := by omega
      clear hr bel hown hbw
      refine (IX _ (ROW _ oW)).mono ?_
      rintro e w' ⟨rfl, hw⟩
      have hw := hw.symm
      subst hw
      have rb := range_box l0.out
      have G1 := GN W bW
      go_wp2_with (with_reducible show wpList _ _ _ (⟨some 46, Op.load 47 _, _, _, _, _⟩ :: _) _ _; refine wpList_load_midG ?qa4 47 _ rfl wr.heap.size 0 ?qb4 (ndL x) _ rb Tryd.underlying47 rfl (by kernel_rfl) ?_)
      case qb4 => rfl
      go_wp2_with fail
      refine G1.mono ?_
      rintro e w1 ⟨rfl, hb1⟩
      have b1 := bW.trans (hb1.mono bW.size)
      have o1 := oW.keep hb1
      have l1 : Hid (w1.heap[wr.heap.size]? = some (.cells (#[.int .i64 x.up, .string x.tx, .int .i64 x.st.sh, .int .i64 x.st.fl, .int .i64 x.st.cl, .bool x.st.w.a, .bool x.st.w.p, .int .i64 x.st.w.n, .bool x.st.h.a, .bool x.st.h.p, .int .i64 x.st.h.n, .int .i64 x.st.mn, .int .i64 x.st.mx, .int .i64 x.st.mt, .bool x.st.mr.a, .bool x.st.mr.p, .int .i64 x.st.mr.n, .int .i64 x.st.mb, .bool x.st.ml.a, .bool x.st.ml.p, .int .i64 x.st.ml.n, .int .i64 x.st.bo, .int .i64 x.st.pa, .int .i64 x.st.wh, .int .i64 x.st.al, .int .i64 x.st.lh, .int .i64 x.st.ri, .int .i64 x.st.dn]) 47 (0, 0))) := below_lies hb1 l0.out ltW
      have lt1 : wr.heap.size < w1.heap.size := lies_lt l1.out
      clear hb1 bW oW l0 rb G1 GN hc0 ltW
      go_wp2
      go_ret
      exact ⟨ret_bool HF.out.symm, b1⟩
    have GN := fun (W : World) (h : Below w.heap.size w W) => goodNode_b hG hxs et ev ((h.cell (p := ⟨0, 0, none⟩) lte).trans HE.out)
    by_cases h8 : 8 ≤ i + 1
    · have HF : Hid (treeB (okB true) styleB ns = false) := treeB_no (k := k) (by omega) (by
        rw [okAt, okUp, if_neg hk0, HXu.out, ← HI.out, decide_eq_false (p := i + 1 < 8) (by omega), Bool.and_false]; rfl)
      have h8' : (8 : Int) ≤ (i : Int) + 1 := by omega
      clear IT hko OCUT hcl
      go_wp2_with (first
        | (with_reducible show wpList _ _ _ (⟨some 34, Op.load 47 _, _, _, _, _⟩ :: _) _ _; refine wpList_load_mid rfl 47 _ rfl b (off + k * 28) rfl (ndL x) _ hr Tryd.underlying47 rfl (by kernel_rfl) ?_)
        | (with_reducible show wpList _ _ _ (⟨none, Op.store 47 _ _, _, _, _, _⟩ :: _) _ _; refine wpList_store_box rfl 47 _ _ rfl rfl (#[.int .i64 x.up, .string x.tx, .int .i64 x.st.sh, .int .i64 x.st.fl, .int .i64 x.st.cl, .bool x.st.w.a, .bool x.st.w.p, .int .i64 x.st.w.n, .bool x.st.h.a, .bool x.st.h.p, .int .i64 x.st.h.n, .int .i64 x.st.mn, .int .i64 x.st.mx, .int .i64 x.st.mt, .bool x.st.mr.a, .bool x.st.mr.p, .int .i64 x.st.mr.n, .int .i64 x.st.mb, .bool x.st.ml.a, .bool x.st.ml.p, .int .i64 x.st.ml.n, .int .i64 x.st.bo, .int .i64 x.st.pa, .int .i64 x.st.wh, .int .i64 x.st.al, .int .i64 x.st.lh, .int .i64 x.st.ri, .int .i64 x.st.dn]) rfl rfl (by kernel_rfl) rfl (by kernel_rfl) ?_; intro W bel l0 hsz; refine stay ?_))
      have hc0 : W.cell? ⟨wr.heap.size, 0, none⟩ = some (.int .i64 x.up) := (lies_cell l0 0).trans rfl
      have l0 : Hid (W.heap[wr.heap.size]? = some (.cells (#[.int .i64 x.up, .string x.tx, .int .i64 x.st.sh, .int .i64 x.st.fl, .int .i64 x.st.cl, .bool x.st.w.a, .bool x.st.w.p, .int .i64 x.st.w.n, .bool x.st.h.a, .bool x.st.h.p, .int .i64 x.st.h.n, .int .i64 x.st.mn, .int .i64 x.st.mx, .int .i64 x.st.mt, .bool x.st.mr.a, .bool x.st.mr.p, .int .i64 x.st.mr.n, .int .i64 x.st.mb, .bool x.st.ml.a, .bool x.st.ml.p, .int .i64 x.st.ml.n, .int .i64 x.st.bo, .int .i64 x.st.pa, .int .i64 x.st.wh, .int .i64 x.st.al, .int .i64 x.st.lh, .int .i64 x.st.ri, .int .i64 x.st.dn]) 47 (0, 0))) := l0
      unfold Stay
      go_wp2_with fail
      have bW := hbw.trans (bel.mono hbw.size)
      have oW := hown.keep bel
      have ltW : wr.heap.size < W.heap.size := by omega
      clear hr bel hown hbw
      refine (IX _ (ROW _ oW)).mono ?_
      rintro e w' ⟨rfl, hw⟩
      have hw := hw.symm
      subst hw
      have rb := range_box l0.out
      have G1 := GN W bW
      go_wp2_with (with_reducible show wpList _ _ _ (⟨some 46, Op.load 47 _, _, _, _, _⟩ :: _) _ _; refine wpList_load_midG ?qa5 47 _ rfl wr.heap.size 0 ?qb5 (ndL x) _ rb Tryd.underlying47 rfl (by kernel_rfl) ?_)
      case qb5 => rfl
      go_wp2_with fail
      refine G1.mono ?_
      rintro e w1 ⟨rfl, hb1⟩
      have b1 := bW.trans (hb1.mono bW.size)
      have o1 := oW.keep hb1
      have l1 : Hid (w1.heap[wr.heap.size]? = some (.cells (#[.int .i64 x.up, .string x.tx, .int .i64 x.st.sh, .int .i64 x.st.fl, .int .i64 x.st.cl, .bool x.st.w.a, .bool x.st.w.p, .int .i64 x.st.w.n, .bool x.st.h.a, .bool x.st.h.p, .int .i64 x.st.h.n, .int .i64 x.st.mn, .int .i64 x.st.mx, .int .i64 x.st.mt, .bool x.st.mr.a, .bool x.st.mr.p, .int .i64 x.st.mr.n, .int .i64 x.st.mb, .bool x.st.ml.a, .bool x.st.ml.p, .int .i64 x.st.ml.n, .int .i64 x.st.bo, .int .i64 x.st.pa, .int .i64 x.st.wh, .int .i64 x.st.al, .int .i64 x.st.lh, .int .i64 x.st.ri, .int .i64 x.st.dn]) 47 (0, 0))) := below_lies hb1 l0.out ltW
      have lt1 : wr.heap.size < w1.heap.size := lies_lt l1.out
      clear hb1 bW oW l0 rb G1 GN hc0 ltW
      go_wp2
      go_ret
      exact ⟨ret_bool HF.out.symm, b1⟩
    have h8' : ¬ ((8 : Int) ≤ (i : Int) + 1) := by omega
    have HO : Hid (okUp ns k = true) := by
      show okUp ns k = true
      rw [okUp, if_neg hk0, HXu.out, ← HI.out, decide_eq_true HIn.out, decide_eq_true (p := i + 1 < 8) (by omega)]; rfl
    have HA : Hid (okAt (okB true) styleB ns k = true) := by show okAt _ _ ns k = true; rw [okAt, hko hG, HO.out]; rfl
    have HN : Hid (aroundL ns (k + 1) = if zeroS x.st = true then cutL ns k else cutL ns k ++ [(k : Int)]) := by
      show _ = _
      rw [cut_next HO.out HUp.out, HXt.out]
    clear hko
    cases hz : zeroS x.st
    · rw [hz] at IT HN
      rw [if_neg (by decide)] at HN
      go_wp2_with (first
        | (with_reducible show wpList _ _ _ (⟨some 34, Op.load 47 _, _, _, _, _⟩ :: _) _ _; refine wpList_load_mid rfl 47 _ rfl b (off + k * 28) rfl (ndL x) _ hr Tryd.underlying47 rfl (by kernel_rfl) ?_)
        | (with_reducible show wpList _ _ _ (⟨none, Op.store 47 _ _, _, _, _, _⟩ :: _) _ _; refine wpList_store_box rfl 47 _ _ rfl rfl (#[.int .i64 x.up, .string x.tx, .int .i64 x.st.sh, .int .i64 x.st.fl, .int .i64 x.st.cl, .bool x.st.w.a, .bool x.st.w.p, .int .i64 x.st.w.n, .bool x.st.h.a, .bool x.st.h.p, .int .i64 x.st.h.n, .int .i64 x.st.mn, .int .i64 x.st.mx, .int .i64 x.st.mt, .bool x.st.mr.a, .bool x.st.mr.p, .int .i64 x.st.mr.n, .int .i64 x.st.mb, .bool x.st.ml.a, .bool x.st.ml.p, .int .i64 x.st.ml.n, .int .i64 x.st.bo, .int .i64 x.st.pa, .int .i64 x.st.wh, .int .i64 x.st.al, .int .i64 x.st.lh, .int .i64 x.st.ri, .int .i64 x.st.dn]) rfl rfl (by kernel_rfl) rfl (by kernel_rfl) ?_; intro W bel l0 hsz; refine stay ?_))
      have hc0 : W.cell? ⟨wr.heap.size, 0, none⟩ = some (.int .i64 x.up) := (lies_cell l0 0).trans rfl
      have l0 : Hid (W.heap[wr.heap.size]? = some (.cells (#[.int .i64 x.up, .string x.tx, .int .i64 x.st.sh, .int .i64 x.st.fl, .int .i64 x.st.cl, .bool x.st.w.a, .bool x.st.w.p, .int .i64 x.st.w.n, .bool x.st.h.a, .bool x.st.h.p, .int .i64 x.st.h.n, .int .i64 x.st.mn, .int .i64 x.st.mx, .int .i64 x.st.mt, .bool x.st.mr.a, .bool x.st.mr.p, .int .i64 x.st.mr.n, .int .i64 x.st.mb, .bool x.st.ml.a, .bool x.st.ml.p, .int .i64 x.st.ml.n, .int .i64 x.st.bo, .int .i64 x.st.pa, .int .i64 x.st.wh, .int .i64 x.st.al, .int .i64 x.st.lh, .int .i64 x.st.ri, .int .i64 x.st.dn]) 47 (0, 0))) := l0
      unfold Stay
      go_wp2_with fail
      have bW := hbw.trans (bel.mono hbw.size)
      have oW := hown.keep bel
      have ltW : wr.heap.size < W.heap.size := by omega
      clear hr bel hown hbw
      refine (IX _ (ROW _ oW)).mono ?_
      rintro e w' ⟨rfl, hw⟩
      have hw := hw.symm
      subst hw
      have rb := range_box l0.out
      have G1 := GN W bW
      go_wp2_with (with_reducible show wpList _ _ _ (⟨some 46, Op.load 47 _, _, _, _, _⟩ :: _) _ _; refine wpList_load_midG ?qa6 47 _ rfl wr.heap.size 0 ?qb6 (ndL x) _ rb Tryd.underlying47 rfl (by kernel_rfl) ?_)
      case qb6 => rfl
      go_wp2_with fail
      refine G1.mono ?_
      rintro e w1 ⟨rfl, hb1⟩
      have b1 := bW.trans (hb1.mono bW.size)
      have o1 := oW.keep hb1
      have l1 : Hid (w1.heap[wr.heap.size]? = some (.cells (#[.int .i64 x.up, .string x.tx, .int .i64 x.st.sh, .int .i64 x.st.fl, .int .i64 x.st.cl, .bool x.st.w.a, .bool x.st.w.p, .int .i64 x.st.w.n, .bool x.st.h.a, .bool x.st.h.p, .int .i64 x.st.h.n, .int .i64 x.st.mn, .int .i64 x.st.mx, .int .i64 x.st.mt, .bool x.st.mr.a, .bool x.st.mr.p, .int .i64 x.st.mr.n, .int .i64 x.st.mb, .bool x.st.ml.a, .bool x.st.ml.p, .int .i64 x.st.ml.n, .int .i64 x.st.bo, .int .i64 x.st.pa, .int .i64 x.st.wh, .int .i64 x.st.al, .int .i64 x.st.lh, .int .i64 x.st.ri, .int .i64 x.st.dn]) 47 (0, 0))) := below_lies hb1 l0.out ltW
      have lt1 : wr.heap.size < w1.heap.size := lies_lt l1.out
      clear hb1 bW oW l0 rb G1 GN hc0 ltW
      have OC := OCUT _ o1
      clear o1 OCUT
      have rb := range_box l1.out
      go_wp2_with (with_reducible show wpList _ _ _ (⟨some 57, Op.load 47 _, _, _, _, _⟩ :: _) _ _; refine wpList_load_mid rfl 47 _ rfl wr.heap.size 0 rfl (ndL x) _ rb Tryd.underlying47 rfl (by kernel_rfl) ?_)
      refine (IT _).mono ?_
      rintro e w2 ⟨rfl, hb2⟩
      have b2 := b1.trans (hb2.mono b1.size)
      have o2 := OC.keep hb2
      clear hb2 b1 l1 rb OC
      generalize cutL ns k = cs at o2 HN hcl
      have o2' : w2.ownsRow w.heap.size 3 1 (.slice (some ⟨g, 0, none⟩) (i + 1) c3) (i + 1) ((cs).map (Value.int .i64)) := by have h := o2; unfold OwnI at h; rw [hcl] at h; exact h
      go_wp2_with (at_builtin; refine wpList_append_own _ rfl (.tmp 60) (.tmp 62) 29 rfl w.heap.size 3 i0 (.int .i64 0) 1 8 Tryd.underlying29 hi hz0 hz1 hz2 rfl (by decide) _ _ _ rfl (o2'.alloc _) ⟨w2.heap.size, 0, none⟩ 1 1 [.int .i64 (k : Int)] rfl rfl (cell_one_new _ _ _) (one_i64 _) (by unfold maxLen; omega) (by omega) (by have := b2.size; simp; omega) ?_)
      intro v' w3 hown3 hgrow3 _
      have b3 : Below w.heap.size w w3 := (b2.alloc b2.size _).grown hgrow3 (by have := b2.size; simp; omega) (fun j hj => o2.base j hj)
      have o3 : OwnI w3 w.heap.size v' (aroundL ns (k + 1)) := by rw [HN.out]; exact OwnI.snoc hcl.symm hown3
      clear hown3 hgrow3 o2' o2 b2
      go_wp2
      go_roundw
      case rel => exact ⟨k + 1, by omega, by go_num, snocB (f := okAt (okB true) styleB) HP.out HA.out, fun h => absurd h (by omega), o3, b3⟩
      case measure => simp [intOf]; omega
    · rw [hz] at IT HN
      rw [if_pos rfl] at HN
      go_wp2_with (first
        | (with_reducible show wpList _ _ _ (⟨some 34, Op.load 47 _, _, _, _, _⟩ :: _) _ _; refine wpList_load_mid rfl 47 _ rfl b (off + k * 28) rfl (ndL x) _ hr Tryd.underlying47 rfl (by kernel_rfl) ?_)
        | (with_reducible show wpList _ _ _ (⟨none, Op.store 47 _ _, _, _, _, _⟩ :: _) _ _; refine wpList_store_box rfl 47 _ _ rfl rfl (#[.int .i64 x.up, .string x.tx, .int .i64 x.st.sh, .int .i64 x.st.fl, .int .i64 x.st.cl, .bool x.st.w.a, .bool x.st.w.p, .int .i64 x.st.w.n, .bool x.st.h.a, .bool x.st.h.p, .int .i64 x.st.h.n, .int .i64 x.st.mn, .int .i64 x.st.mx, .int .i64 x.st.mt, .bool x.st.mr.a, .bool x.st.mr.p, .int .i64 x.st.mr.n, .int .i64 x.st.mb, .bool x.st.ml.a, .bool x.st.ml.p, .int .i64 x.st.ml.n, .int .i64 x.st.bo, .int .i64 x.st.pa, .int .i64 x.st.wh, .int .i64 x.st.al, .int .i64 x.st.lh, .int .i64 x.st.ri, .int .i64 x.st.dn]) rfl rfl (by kernel_rfl) rfl (by kernel_rfl) ?_; intro W bel l0 hsz; refine stay ?_))
      have hc0 : W.cell? ⟨wr.heap.size, 0, none⟩ = some (.int .i64 x.up) := (lies_cell l0 0).trans rfl
      have l0 : Hid (W.heap[wr.heap.size]? = some (.cells (#[.int .i64 x.up, .string x.tx, .int .i64 x.st.sh, .int .i64 x.st.fl, .int .i64 x.st.cl, .bool x.st.w.a, .bool x.st.w.p, .int .i64 x.st.w.n, .bool x.st.h.a, .bool x.st.h.p, .int .i64 x.st.h.n, .int .i64 x.st.mn, .int .i64 x.st.mx, .int .i64 x.st.mt, .bool x.st.mr.a, .bool x.st.mr.p, .int .i64 x.st.mr.n, .int .i64 x.st.mb, .bool x.st.ml.a, .bool x.st.ml.p, .int .i64 x.st.ml.n, .int .i64 x.st.bo, .int .i64 x.st.pa, .int .i64 x.st.wh, .int .i64 x.st.al, .int .i64 x.st.lh, .int .i64 x.st.ri, .int .i64 x.st.dn]) 47 (0, 0))) := l0
      unfold Stay
      go_wp2_with fail
      have bW := hbw.trans (bel.mono hbw.size)
      have oW := hown.keep bel
      have ltW : wr.heap.size < W.heap.size := by omega
      clear hr bel hown hbw
      refine (IX _ (ROW _ oW)).mono ?_
      rintro e w' ⟨rfl, hw⟩
      have hw := hw.symm
      subst hw
      have rb := range_box l0.out
      have G1 := GN W bW
      go_wp2_with (with_reducible show wpList _ _ _ (⟨some 46, Op.load 47 _, _, _, _, _⟩ :: _) _ _; refine wpList_load_midG ?qa7 47 _ rfl wr.heap.size 0 ?qb7 (ndL x) _ rb Tryd.underlying47 rfl (by kernel_rfl) ?_)
      case qb7 => rfl
      go_wp2_with fail
      refine G1.mono ?_
      rintro e w1 ⟨rfl, hb1⟩
      have b1 := bW.trans (hb1.mono bW.size)
      have o1 := oW.keep hb1
      have l1 : Hid (w1.heap[wr.heap.size]? = some (.cells (#[.int .i64 x.up, .string x.tx, .int .i64 x.st.sh, .int .i64 x.st.fl, .int .i64 x.st.cl, .bool x.st.w.a, .bool x.st.w.p, .int .i64 x.st.w.n, .bool x.st.h.a, .bool x.st.h.p, .int .i64 x.st.h.n, .int .i64 x.st.mn, .int .i64 x.st.mx, .int .i64 x.st.mt, .bool x.st.mr.a, .bool x.st.mr.p, .int .i64 x.st.mr.n, .int .i64 x.st.mb, .bool x.st.ml.a, .bool x.st.ml.p, .int .i64 x.st.ml.n, .int .i64 x.st.bo, .int .i64 x.st.pa, .int .i64 x.st.wh, .int .i64 x.st.al, .int .i64 x.st.lh, .int .i64 x.st.ri, .int .i64 x.st.dn]) 47 (0, 0))) := below_lies hb1 l0.out ltW
      have lt1 : wr.heap.size < w1.heap.size := lies_lt l1.out
      clear hb1 bW oW l0 rb G1 GN hc0 ltW
      have OC := OCUT _ o1
      clear o1 OCUT
      have rb := range_box l1.out
      go_wp2_with (with_reducible show wpList _ _ _ (⟨some 57, Op.load 47 _, _, _, _, _⟩ :: _) _ _; refine wpList_load_mid rfl 47 _ rfl wr.heap.size 0 rfl (ndL x) _ rb Tryd.underlying47 rfl (by kernel_rfl) ?_)
      refine (IT _).mono ?_
      rintro e w2 ⟨rfl, hb2⟩
      have b2 := b1.trans (hb2.mono b1.size)
      have o2 := OC.keep hb2
      clear hb2 b1 l1 rb OC
      rw [← HN.out] at o2
      go_wp2
      go_roundw
      case rel => exact ⟨k + 1, by omega, by go_num, snocB (f := okAt (okB true) styleB) HP.out HA.out, fun h => absurd h (by omega), o2, b2⟩
      case measure => simp [intOf]; omega
end Go.Proofs.YtdgagjnkbmckoaaDoor
