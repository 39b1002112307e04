/-
  The program's GoodTree, for every row of nodes: it says just what treeB says.
  The program's GoodTree, for every row of nodes: it says just what treeB says.
  The program's GoodTree, for every row of nodes: its first tests, and the whole.
  The model's GoodTree, for every row of nodes: it says just what treeB says.
  The model's GoodTree, for every row of nodes: it says just what treeB says.
-/
import Derived.Test.YtddnphgpdnedbaaDoorNdN
import Derived.Test.YtddnphgpdnedbaaDoorNdI
import Derived.Test.YtddnphgpdnedbaaDoorOwnI
import Derived.Test.YtddnphgpdnedbaaDoorStyR
namespace Go.Proofs.YtddnphgpdnedbaaDoor
open Go.ChangeShapes Go.WideShapes Go.ChangeAt Go.RowKit
set_option linter.unusedVariables false

/-- Here the walk stands still. -/
def Stay (p : Prop) : Prop := p
theorem stay {p : Prop} (h : Stay p) : p := h
theorem wpList_gen1 {P : Program} {ops : Array Oper} {rest : List Oper} {Q : Exit → Act → World → Prop} {a : Act} {w : World} {A : Obj}
    (h : ∀ W, Below w.heap.size w W → W.heap[w.heap.size]? = some A → W.heap.size = w.heap.size + 1 → wpList P ops Q rest a W) : wpList P ops Q rest a (w.alloc A) :=
  h _ ((Below.refl _ _).alloc (Nat.le_refl _) _) (heap_at _ _ _ rfl) (by simp)
/-- A whole struct stored into the block that was laid last: the world is a new letter. -/
theorem wpList_store_box {P : Program} {ops : Array Oper} {rest : List Oper} {o : Oper} {a : Act} {w : World} {Q : Exit → Act → World → Prop} {t : TypeId} {old : Array Value} (hgd : o.guard = none) (ty : TypeId) (x y : Operand) (ho : o.op = .store ty x y)
    (hd : o.dst = none) (cells : Array Value) (hx : a.eval x = .pointer (some ⟨w.heap.size, 0, none⟩)) (hy : a.eval y = .agg cells)
    (hi : (P.info? ty).map (·.size) = some cells.size) (hold : old.size = cells.size) (h1 : cells.all (·.oneCell') = true)
    (h : ∀ W, Below w.heap.size w W → W.heap[w.heap.size]? = some (.cells cells t (0, 0)) → W.heap.size = w.heap.size + 1 → wpList P ops Q rest a W) : wpList P ops Q (o :: rest) a (w.alloc (.cells old t)) :=
  wpList_store_new hgd ty x y ho hd cells t old w.heap.size rfl hx hy hi hold h1 (wpList_gen1 h)
theorem OwnI.cut {w : World} {B n cap : Nat} {a : Option Addr} {zs : List Int} (h : OwnI w B (.slice a n cap) zs) (m : Nat) (hm : m ≤ n) (hn : n = zs.length) : OwnI w B (.slice a m cap) (zs.take m) := by
  have h' : w.ownsRow B 3 1 (.slice a n cap) zs.length (zs.map (Value.int .i64)) := h
  have hl : (zs.take m).length = m := by rw [List.length_take]; omega
  unfold OwnI
  rw [hl]
  refine ⟨by rw [List.length_map, hl]; omega, ?_⟩
  rcases h'.2 with ⟨hv, h0⟩ | ⟨g, c, cur, hv, hb, hg, h1, h2, h3, h4⟩
  · left
    simp only [Value.slice.injEq] at hv
    obtain ⟨rfl, h5, rfl⟩ := hv
    have : m = 0 := by omega
    subst this
    exact ⟨rfl, rfl⟩
  · right
    simp only [Value.slice.injEq] at hv
    obtain ⟨rfl, h5, rfl⟩ := hv
    refine ⟨g, _, cur, rfl, hb, hg, by omega, h2, h3, ?_⟩
    have : cur.toList.take (m * 1) = (cur.toList.take (zs.length * 1)).take (m * 1) := by rw [List.take_take]; congr 1; omega
    rw [this, h4, Nat.mul_one, List.map_take]

/-- What one round does to what is around. -/
def cutL (ns : List Nd) (k : Nat) : List Int := (aroundL ns k).take (ixI (upL ns k) (aroundL ns k) + 1).toNat
theorem cut_next {ns : List Nd} {k : Nat} (h : okUp ns k = true) (hs : ∀ j, j < k → okUp ns j = true) : aroundL ns (k + 1) = if isT ns k = true then cutL ns k else cutL ns k ++ [(k : Int)] := by
  rw [aroundL]
  by_cases h0 : k = 0
  · subst h0
    rw [okUp, if_pos rfl, Bool.and_eq_true] at h
    have hT : isT ns 0 = false := by simpa using h.2
    have hu := of_decide_eq_true h.1
    have hc : chainL ns 0 = [(0 : Int)] := chain_top (k := 0) (by omega)
    simp [hT, hc, cutL, aroundL]
  · rw [okUp, if_neg h0, Bool.and_eq_true] at h
    have hin := of_decide_eq_true h.1
    have hT0 : isT ns 0 = false := by
      have := hs 0 (by omega)
      rw [okUp, if_pos rfl, Bool.and_eq_true] at this
      simpa using this.2
    obtain ⟨u, hu, e, hc, ht⟩ := (around_in (by omega) hT0 (stands_of k hs) _).1 hin
    have hcut : cutL ns k = chainL ns u := by
      rw [cutL, ixI_in hin, show ((idxL (upL ns k) (aroundL ns k) : Int) + 1).toNat = idxL (upL ns k) (aroundL ns k) + 1 by omega]
      rw [e] at hin ⊢
      exact around_take u hin
    rw [hcut, if_neg h0, e, chain_in e hu]
    rfl
theorem cut_len {ns : List Nd} {k : Nat} (h0 : 0 < k) (hin : upL ns k ∈ aroundL ns k) : (cutL ns k).length = idxL (upL ns k) (aroundL ns k) + 1 := by
  rw [cutL, ixI_in hin, List.length_take]
  have := idx_lt hin
  omega
theorem around_len {ns : List Nd} : ∀ (k : Nat), (∀ j, j < k → okUp ns j = true) → (aroundL ns k).length ≤ 8
  | 0, _ => by simp [aroundL]
  | k + 1, hs => by
    have hk := hs k (by omega)
    rw [cut_next hk (fun j hj => hs j (by omega))]
    have : (cutL ns k).length < 8 := by
      by_cases h0 : k = 0
      · subst h0; simp [cutL, aroundL]
      · rw [okUp, if_neg h0, Bool.and_eq_true] at hk
        rw [cut_len (by omega) (of_decide_eq_true hk.1)]
        exact of_decide_eq_true hk.2
    split
    · omega
    · rw [List.length_append, List.length_singleton]; omega
theorem getD_of {ns : List Nd} {k : Nat} {x : Nd} (h : ns[k]? = some x) : ns.getD k nd0 = x := by rw [List.getD_eq_getElem?_getD, h]; rfl
theorem snocB {ns : List Nd} {f : List Nd → Nat → Bool} {k : Nat} (h : ∀ j, j < k → f ns j = true) (hk : f ns k = true) : ∀ j, j < k + 1 → f ns j = true := fun j hj => by
  by_cases e : j = k
  · rw [e]; exact hk
  · exact h j (by omega)
theorem okAt_up {tB : ByteArray → Bool} {sB : St → Bool} {ns : List Nd} {j : Nat} (h : okAt tB sB ns j = true) : okUp ns j = true := by
  rw [okAt, Bool.and_eq_true] at h
  exact h.1
end Go.Proofs.YtddnphgpdnedbaaDoor

namespace Go.Proofs.YtddnphgpdnedbaaDoor
open Go.ChangeShapes Go.WideShapes Go.ChangeAt Go.RowKit
set_option linter.unusedVariables false

theorem range_box {W : World} {g : Nat} {x : Nd} (l0 : W.heap[g]? = some (.cells (#[.int .i64 x.up, .string x.tx, .int .i64 x.st.sh, .int .i64 x.st.fl, .int .i64 x.st.cl, .bool x.st.w.a, .bool x.st.w.p, .int .i64 x.st.w.n, .bool x.st.h.a, .bool x.st.h.p, .int .i64 x.st.h.n, .int .i64 x.st.mn, .int .i64 x.st.mx, .int .i64 x.st.mt, .bool x.st.mr.a, .bool x.st.mr.p, .int .i64 x.st.mr.n, .int .i64 x.st.mb, .bool x.st.ml.a, .bool x.st.ml.p, .int .i64 x.st.ml.n, .int .i64 x.st.bo, .int .i64 x.st.pa, .int .i64 x.st.wh, .int .i64 x.st.al, .int .i64 x.st.lh, .int .i64 x.st.ri, .int .i64 x.st.dn]) 42 (0, 0))) : W.rangeAt g 0 (ndL x) := fun j v hj => (lies_cell l0 (0 + j)).trans (by rw [← hj, Nat.zero_add]; show (ndL x).toArray[j]? = _; simp)
theorem goodNode_b {n : Nd} {r : Bool} {w : World} (hr : okN (okB true) styleB n = r) (hs : n.tx.size ≤ maxLen) (et : TypeId) (ev : Value) (he : w.cell? ⟨0, 0, none⟩ = some (.iface et ev)) :
    Calls Tryd.prog 32 #[.agg #[.int .i64 n.up, .string n.tx, .int .i64 n.st.sh, .int .i64 n.st.fl, .int .i64 n.st.cl, .bool n.st.w.a, .bool n.st.w.p, .int .i64 n.st.w.n, .bool n.st.h.a, .bool n.st.h.p, .int .i64 n.st.h.n, .int .i64 n.st.mn, .int .i64 n.st.mx, .int .i64 n.st.mt, .bool n.st.mr.a, .bool n.st.mr.p, .int .i64 n.st.mr.n, .int .i64 n.st.mb, .bool n.st.ml.a, .bool n.st.ml.p, .int .i64 n.st.ml.n, .int .i64 n.st.bo, .int .i64 n.st.pa, .int .i64 n.st.wh, .int .i64 n.st.al, .int .i64 n.st.lh, .int .i64 n.st.ri, .int .i64 n.st.dn]] w fun e w' => e = .returned (.bool r) ∧ Below w.heap.size w w' := by
  rw [← hr]
  exact goodNode_any n w hs et ev he

set_option maxRecDepth 100000 in
set_option maxHeartbeats 8000000 in
theorem implTree_loop (b off n cap : Nat) (ns : List Nd) (w : World) (hn : ns.length = n) (h1 : 1 ≤ n) (h40 : n ≤ 40) (hs : ∀ x ∈ ns, x.tx.size ≤ 1048576)
    (hc : ∀ i x, ns[i]? = some x → w.rangeAt b (off + i * 28) (ndL x)) (hT0 : isT ns 0 = false) (hU0 : upL ns 0 = -1)
    (et : TypeId) (ev : Value) (he : w.cell? ⟨0, 0, none⟩ = some (.iface et ev)) :
    Calls Tryd.prog 16 #[.slice (some ⟨b, off, none⟩) n cap] w fun e w' => e = .returned (.bool (treeB (okB true) styleB ns)) ∧ Below w.heap.size w w' := by
  have lte : 0 < w.heap.size := World.block_lt_of_cell? _ ⟨0, 0, none⟩ he
  obtain ⟨i0, hi, hz0, hz1, hz2⟩ := info_parts Tryd.infoInt
  obtain ⟨x0, hx0⟩ : ∃ x, ns[0]? = some x := ⟨_, List.getElem?_eq_getElem (by omega)⟩
  have hr0 := hc 0 x0 hx0
  rw [Nat.zero_mul, Nat.add_zero] at hr0
  have hu0 : w.cell? ⟨b, off, none⟩ = some (.int .i64 (-1)) := by
    have := hr0 0 _ rfl
    rw [Nat.add_zero] at this
    rw [this]
    unfold upL at hU0
    rw [getD_of hx0] at hU0
    rw [hU0]
  have T0 := implIsText_any x0
  have hzx : zeroS x0.st = false := by unfold isT at hT0; rw [getD_of hx0] at hT0; exact hT0
  rw [hzx] at T0
  have HC : Hid (∀ i x, ns[i]? = some x → w.rangeAt b (off + i * 28) (ndL x)) := hc
  have HE : Hid (w.cell? ⟨0, 0, none⟩ = some (.iface et ev)) := he
  have HU : Hid (upL ns 0 = -1) := hU0
  have HT : Hid (isT ns 0 = false) := hT0
  have HS : Hid (∀ x ∈ ns, x.tx.size ≤ 1048576) := hs
  have hlb := range_lt hr0
  clear hc he hU0 hT0 hs hzx hx0
  have g1 : ¬ ((n : Int) < 1) := by omega
  have g2 : ¬ ((40 : Int) < (n : Int)) := by omega
  have g3 : (0 : Int) < (n : Int) := by omega
  go_enter Tryd.func16, Tryd.ntmps16
  go_wp2_with (with_reducible show wpList _ _ _ (⟨some 18, Op.load 42 _, _, _, _, _⟩ :: _) _ _; refine wpList_load_midG ?qa1 42 _ rfl b off ?qb1 (ndL x0) _ hr0 Tryd.underlying42 rfl (by kernel_rfl) ?_)
  refine (T0 _).mono ?_
  rintro e w0 ⟨rfl, hb0⟩
  have hu1 : w0.cell? ⟨b, off, none⟩ = some (.int .i64 (-1)) := (hb0.cell (p := ⟨b, off, none⟩) hlb).trans hu0
  clear T0 hu0 hr0
  go_wp2_with fail
  clear hu1 g1 g2 g3
  go_loopw [3, 30] (fun v i wr => ∃ k : Nat, k ≤ n ∧ i = .int .i64 k ∧ (∀ j, j < k → okAt (okB true) styleB ns j = true) ∧ (k = 0 → v = .slice none 0 0) ∧ OwnI wr w.heap.size v (aroundL ns k) ∧ Below w.heap.size w wr) (fun _ i _ => n - (intOf i).toNat)
  case atStart => exact ⟨0, Nat.zero_le _, rfl, fun j hj => absurd hj (by omega), fun _ => rfl, ownI_nil _ _, hb0⟩
  case round =>
    obtain ⟨k, hk, rfl, hp, hv0, hown, hbw⟩ := hrel
    clear hb0
    have HP : Hid (∀ j, j < k → okAt (okB true) styleB ns j = true) := hp
    clear hp
    by_cases hlt : k < n
    rotate_left
    · clear hown hv0
      go_wp2
      go_ret
      have e : k = n := by omega
      exact ⟨ret_bool (treeB_yes (by omega) (by omega) fun j hj => HP.out j (by omega)).symm, hbw⟩
    have HUp : Hid (∀ j, j < k → okUp ns j = true) := fun j hj => okAt_up (HP.out j hj)
    obtain ⟨x, hx⟩ : ∃ x, ns[k]? = some x := ⟨_, List.getElem?_eq_getElem (by omega)⟩
    have HX : Hid (ns.getD k nd0 = x) := getD_of hx
    have HXu : Hid (upL ns k = x.up) := by show upL ns k = x.up; unfold upL; rw [HX.out]
    have HXt : Hid (isT ns k = zeroS x.st) := by show isT ns k = _; unfold isT; rw [HX.out]
    have hr := range_below (HC.out k x hx) hbw (range_lt (HC.out k x hx))
    have hxs : x.tx.size ≤ maxLen := by have := HS.out x (List.mem_of_getElem? hx); unfold maxLen; omega
    clear hx HC HS
    have hal := around_len k HUp.out
    have IT := fun W => implIsText_any x W
    have hko : ∀ {r : Bool}, okN (okB true) styleB x = r → okN (okB true) styleB (ns.getD k nd0) = r := fun h => by rw [HX.out]; exact h
    by_cases hk0 : k = 0
    · subst hk0
      have hv := hv0 rfl
      subst hv
      rw [Nat.zero_mul, Nat.add_zero] at hr
      have IX := fun W => index_any none 0 0 x.up [] W rfl (by omega) (.inl rfl)
      rw [ixI_out (by simp)] at IX
      have HOk : Hid (okUp ns 0 = true) := by show okUp ns 0 = true; rw [okUp, if_pos rfl, HU.out, HT.out]; rfl
      cases hG : okN (okB true) styleB x
      · have GN := fun (W : World) (h : Below w.heap.size w W) => goodNode_b hG hxs et ev ((h.cell (p := ⟨0, 0, none⟩) lte).trans HE.out)
        have HF : Hid (treeB (okB true) styleB ns = false) := treeB_no (k := 0) (by omega) (by rw [okAt, hko hG, Bool.and_false])
        clear IT hko
        go_wp2_with (first
          | (with_reducible show wpList _ _ _ (⟨some 34, Op.load 42 _, _, _, _, _⟩ :: _) _ _; refine wpList_load_mid rfl 42 _ rfl b off rfl (ndL x) _ hr Tryd.underlying42 rfl (by kernel_rfl) ?_)
          | (with_reducible show wpList _ _ _ (⟨none, Op.store 42 _ _, _, _, _, _⟩ :: _) _ _; refine wpList_store_box rfl 42 _ _ rfl rfl (#[.int .i64 x.up, .string x.tx, .int .i64 x.st.sh, .int .i64 x.st.fl, .int .i64 x.st.cl, .bool x.st.w.a, .bool x.st.w.p, .int .i64 x.st.w.n, .bool x.st.h.a, .bool x.st.h.p, .int .i64 x.st.h.n, .int .i64 x.st.mn, .int .i64 x.st.mx, .int .i64 x.st.mt, .bool x.st.mr.a, .bool x.st.mr.p, .int .i64 x.st.mr.n, .int .i64 x.st.mb, .bool x.st.ml.a, .bool x.st.ml.p, .int .i64 x.st.ml.n, .int .i64 x.st.bo, .int .i64 x.st.pa, .int .i64 x.st.wh, .int .i64 x.st.al, .int .i64 x.st.lh, .int .i64 x.st.ri, .int .i64 x.st.dn]) rfl rfl (by kernel_rfl) rfl (by kernel_rfl) ?_; intro W bel l0 hsz; refine stay ?_))
        have hc0 : W.cell? ⟨wr.heap.size, 0, none⟩ = some (.int .i64 x.up) := (lies_cell l0 0).trans rfl
        have l0 : Hid (W.heap[wr.heap.size]? = some (.cells (#[.int .i64 x.up, .string x.tx, .int .i64 x.st.sh, .int .i64 x.st.fl, .int .i64 x.st.cl, .bool x.st.w.a, .bool x.st.w.p, .int .i64 x.st.w.n, .bool x.st.h.a, .bool x.st.h.p, .int .i64 x.st.h.n, .int .i64 x.st.mn, .int .i64 x.st.mx, .int .i64 x.st.mt, .bool x.st.mr.a, .bool x.st.mr.p, .int .i64 x.st.mr.n, .int .i64 x.st.mb, .bool x.st.ml.a, .bool x.st.ml.p, .int .i64 x.st.ml.n, .int .i64 x.st.bo, .int .i64 x.st.pa, .int .i64 x.st.wh, .int .i64 x.st.al, .int .i64 x.st.lh, .int .i64 x.st.ri, .int .i64 x.st.dn]) 42 (0, 0))) := l0
        unfold Stay
        go_wp2_with fail
        have bW := hbw.trans (bel.mono hbw.size)
        have oW := hown.keep bel
        have ltW : wr.heap.size < W.heap.size := by omega
        clear hr bel hown hbw
        refine (IX _).mono ?_
        rintro e w' ⟨rfl, hw⟩
        have hw := hw.symm
        subst hw
        have rb := range_box l0.out
        have G1 := GN W bW
        go_wp2_with (with_reducible show wpList _ _ _ (⟨some 46, Op.load 42 _, _, _, _, _⟩ :: _) _ _; refine wpList_load_midG ?qa2 42 _ rfl wr.heap.size 0 ?qb2 (ndL x) _ rb Tryd.underlying42 rfl (by kernel_rfl) ?_)
        case qb2 => rfl
        go_wp2_with fail
        refine G1.mono ?_
        rintro e w1 ⟨rfl, hb1⟩
        have b1 := bW.trans (hb1.mono bW.size)
        have o1 := oW.keep hb1
        have l1 : Hid (w1.heap[wr.heap.size]? = some (.cells (#[.int .i64 x.up, .string x.tx, .int .i64 x.st.sh, .int .i64 x.st.fl, .int .i64 x.st.cl, .bool x.st.w.a, .bool x.st.w.p, .int .i64 x.st.w.n, .bool x.st.h.a, .bool x.st.h.p, .int .i64 x.st.h.n, .int .i64 x.st.mn, .int .i64 x.st.mx, .int .i64 x.st.mt, .bool x.st.mr.a, .bool x.st.mr.p, .int .i64 x.st.mr.n, .int .i64 x.st.mb, .bool x.st.ml.a, .bool x.st.ml.p, .int .i64 x.st.ml.n, .int .i64 x.st.bo, .int .i64 x.st.pa, .int .i64 x.st.wh, .int .i64 x.st.al, .int .i64 x.st.lh, .int .i64 x.st.ri, .int .i64 x.st.dn]) 42 (0, 0))) := below_lies hb1 l0.out ltW
        have lt1 : wr.heap.size < w1.heap.size := lies_lt l1.out
        clear hb1 bW oW l0 rb G1 GN hc0 ltW
        go_wp2
        go_ret
        exact ⟨ret_bool HF.out.symm, b1⟩
      · have GN := fun (W : World) (h : Below w.heap.size w W) => goodNode_b hG hxs et ev ((h.cell (p := ⟨0, 0, none⟩) lte).trans HE.out)
        have HA : Hid (okAt (okB true) styleB ns 0 = true) := by show okAt _ _ ns 0 = true; rw [okAt, hko hG, HOk.out]; rfl
        have hz : zeroS x.st = false := HXt.out.symm.trans HT.out
        rw [hz] at IT
        have HN : Hid (aroundL ns 1 = [] ++ [(0 : Int)]) := by
          show aroundL ns (0 + 1) = _
          rw [cut_next HOk.out (fun j hj => absurd hj (by omega)), HT.out]
          simp [cutL, aroundL]
        clear hko hz
        go_wp2_with (first
          | (with_reducible show wpList _ _ _ (⟨some 34, Op.load 42 _, _, _, _, _⟩ :: _) _ _; refine wpList_load_mid rfl 42 _ rfl b off rfl (ndL x) _ hr Tryd.underlying42 rfl (by kernel_rfl) ?_)
          | (with_reducible show wpList _ _ _ (⟨none, Op.store 42 _ _, _, _, _, _⟩ :: _) _ _; refine wpList_store_box rfl 42 _ _ rfl rfl (#[.int .i64 x.up, .string x.tx, .int .i64 x.st.sh, .int .i64 x.st.fl, .int .i64 x.st.cl, .bool x.st.w.a, .bool x.st.w.p, .int .i64 x.st.w.n, .bool x.st.h.a, .bool x.st.h.p, .int .i64 x.st.h.n, .int .i64 x.st.mn, .int .i64 x.st.mx, .int .i64 x.st.mt, .bool x.st.mr.a, .bool x.st.mr.p, .int .i64 x.st.mr.n, .int .i64 x.st.mb, .bool x.st.ml.a, .bool x.st.ml.p, .int .i64 x.st.ml.n, .int .i64 x.st.bo, .int .i64 x.st.pa, .int .i64 x.st.wh, .int .i64 x.st.al, .int .i64 x.st.lh, .int .i64 x.st.ri, .int .i64 x.st.dn]) rfl rfl (by kernel_rfl) rfl (by kernel_rfl) ?_; intro W bel l0 hsz; refine stay ?_))
        have hc0 : W.cell? ⟨wr.heap.size, 0, none⟩ = some (.int .i64 x.up) := (lies_cell l0 0).trans rfl
        have l0 : Hid (W.heap[wr.heap.size]? = some (.cells (#[.int .i64 x.up, .string x.tx, .int .i64 x.st.sh, .int .i64 x.st.fl, .int .i64 x.st.cl, .bool x.st.w.a, .bool x.st.w.p, .int .i64 x.st.w.n, .bool x.st.h.a, .bool x.st.h.p, .int .i64 x.st.h.n, .int .i64 x.st.mn, .int .i64 x.st.mx, .int .i64 x.st.mt, .bool x.st.mr.a, .bool x.st.mr.p, .int .i64 x.st.mr.n, .int .i64 x.st.mb, .bool x.st.ml.a, .bool x.st.ml.p, .int .i64 x.st.ml.n, .int .i64 x.st.bo, .int .i64 x.st.pa, .int .i64 x.st.wh, .int .i64 x.st.al, .int .i64 x.st.lh, .int .i64 x.st.ri, .int .i64 x.st.dn]) 42 (0, 0))) := l0
        unfold Stay
        go_wp2_with fail
        have bW := hbw.trans (bel.mono hbw.size)
        have oW := hown.keep bel
        have ltW : wr.heap.size < W.heap.size := by omega
        clear hr bel hown hbw
        refine (IX _).mono ?_
        rintro e w' ⟨rfl, hw⟩
        have hw := hw.symm
        subst hw
        have rb := range_box l0.out
        have G1 := GN W bW
        go_wp2_with (with_reducible show wpList _ _ _ (⟨some 46, Op.load 42 _, _, _, _, _⟩ :: _) _ _; refine wpList_load_midG ?qa3 42 _ rfl wr.heap.size 0 ?qb3 (ndL x) _ rb Tryd.underlying42 rfl (by kernel_rfl) ?_)
        case qb3 => rfl
        go_wp2_with fail
        refine G1.mono ?_
        rintro e w1 ⟨rfl, hb1⟩
        have b1 := bW.trans (hb1.mono bW.size)
        have o1 := oW.keep hb1
        have l1 : Hid (w1.heap[wr.heap.size]? = some (.cells (#[.int .i64 x.up, .string x.tx, .int .i64 x.st.sh, .int .i64 x.st.fl, .int .i64 x.st.cl, .bool x.st.w.a, .bool x.st.w.p, .int .i64 x.st.w.n, .bool x.st.h.a, .bool x.st.h.p, .int .i64 x.st.h.n, .int .i64 x.st.mn, .int .i64 x.st.mx, .int .i64 x.st.mt, .bool x.st.mr.a, .bool x.st.mr.p, .int .i64 x.st.mr.n, .int .i64 x.st.mb, .bool x.st.ml.a, .bool x.st.ml.p, .int .i64 x.st.ml.n, .int .i64 x.st.bo, .int .i64 x.st.pa, .int .i64 x.st.wh, .int .i64 x.st.al, .int .i64 x.st.lh, .int .i64 x.st.ri, .int .i64 x.st.dn]) 42 (0, 0))) := below_lies hb1 l0.out ltW
        have lt1 : wr.heap.size < w1.heap.size := lies_lt l1.out
        clear hb1 bW oW l0 rb G1 GN hc0 ltW
        have OC := o1
        clear o1
        have rb := range_box l1.out
        go_wp2_with (with_reducible show wpList _ _ _ (⟨some 57, Op.load 42 _, _, _, _, _⟩ :: _) _ _; refine wpList_load_mid rfl 42 _ rfl wr.heap.size 0 rfl (ndL x) _ rb Tryd.underlying42 rfl (by kernel_rfl) ?_)
        refine (IT _).mono ?_
        rintro e w2 ⟨rfl, hb2⟩
        have b2 := b1.trans (hb2.mono b1.size)
        have o2 := OC.keep hb2
        clear hb2 b1 l1 rb OC
        have o2' : w2.ownsRow w.heap.size 3 1 _ 0 ((([] : List Int)).map (Value.int .i64)) := o2
        go_wp2_with (at_builtin; refine wpList_append_own _ rfl (.tmp 60) (.tmp 62) 45 rfl w.heap.size 3 i0 (.int .i64 0) 1 8 Tryd.underlying45 hi hz0 hz1 hz2 rfl (by decide) _ _ _ rfl (o2'.alloc _) ⟨w2.heap.size, 0, none⟩ 1 1 [.int .i64 0] rfl rfl (cell_one_new _ _ _) (one_i64 _) (by unfold maxLen; omega) (by omega) (by have := b2.size; simp; omega) ?_)
        intro v' w3 hown3 hgrow3 _
        have b3 : Below w.heap.size w w3 := (b2.alloc b2.size _).grown hgrow3 (by have := b2.size; simp; omega) (fun j hj => o2.base j hj)
        have o3 : OwnI w3 w.heap.size v' (aroundL ns 1) := by rw [HN.out]; exact OwnI.snoc rfl hown3
        clear hown3 hgrow3 o2' o2 b2
        go_wp2
        go_roundw
        case rel => exact ⟨1, by omega, by go_num, snocB (f := okAt (okB true) styleB) HP.out HA.out, fun h => absurd h (by omega), o3, b3⟩
        case measure => simp [intOf]; omega
    have hkp : (0 : Int) < (k : Int) := by omega
    clear hv0 HU HT
    by_cases hin : x.up ∈ aroundL ns k
    rotate_left
    · have HF : Hid (treeB (okB true) styleB ns = false) := treeB_no (k := k) (by omega) (by rw [okAt, okUp, if_neg hk0, HXu.out, decide_eq_false hin]; rfl)
      obtain ⟨a3, c3, hv, hrow⟩ := hown.row
      obtain ⟨L, hL⟩ : ∃ L, L = (aroundL ns k).length := ⟨_, rfl⟩
      have IX := fun W h => index_any a3 L c3 x.up (aroundL ns k) W hL (by omega) h
      rw [ixI_out hin] at IX
      rw [← hL] at hv
      subst hv
      have ROW : ∀ W, OwnI W w.heap.size (.slice a3 L c3) (aroundL ns k) → Row W a3 (aroundL ns k) := fun W h => by
        obtain ⟨_, _, q1, q2⟩ := h.row
        cases q1
        exact q2
      clear hL hrow IT hko hin
      go_wp2_with (first
        | (with_reducible show wpList _ _ _ (⟨some 34, Op.load 42 _, _, _, _, _⟩ :: _) _ _; refine wpList_load_mid rfl 42 _ rfl b (off + k * 28) rfl (ndL x) _ hr Tryd.underlying42 rfl (by kernel_rfl) ?_)
        | (with_reducible show wpList _ _ _ (⟨none, Op.store 42 _ _, _, _, _, _⟩ :: _) _ _; refine wpList_store_box rfl 42 _ _ rfl rfl (#[.int .i64 x.up, .string x.tx, .int .i64 x.st.sh, .int .i64 x.st.fl, .int .i64 x.st.cl, .bool x.st.w.a, .bool x.st.w.p, .int .i64 x.st.w.n, .bool x.st.h.a, .bool x.st.h.p, .int .i64 x.st.h.n, .int .i64 x.st.mn, .int .i64 x.st.mx, .int .i64 x.st.mt, .bool x.st.mr.a, .bool x.st.mr.p, .int .i64 x.st.mr.n, .int .i64 x.st.mb, .bool x.st.ml.a, .bool x.st.ml.p, .int .i64 x.st.ml.n, .int .i64 x.st.bo, .int .i64 x.st.pa, .int .i64 x.st.wh, .int .i64 x.st.al, .int .i64 x.st.lh, .int .i64 x.st.ri, .int .i64 x.st.dn]) rfl rfl (by kernel_rfl) rfl (by kernel_rfl) ?_; intro W bel l0 hsz; refine stay ?_))
      have hc0 : W.cell? ⟨wr.heap.size, 0, none⟩ = some (.int .i64 x.up) := (lies_cell l0 0).trans rfl
      have l0 : Hid (W.heap[wr.heap.size]? = some (.cells (#[.int .i64 x.up, .string x.tx, .int .i64 x.st.sh, .int .i64 x.st.fl, .int .i64 x.st.cl, .bool x.st.w.a, .bool x.st.w.p, .int .i64 x.st.w.n, .bool x.st.h.a, .bool x.st.h.p, .int .i64 x.st.h.n, .int .i64 x.st.mn, .int .i64 x.st.mx, .int .i64 x.st.mt, .bool x.st.mr.a, .bool x.st.mr.p, .int .i64 x.st.mr.n, .int .i64 x.st.mb, .bool x.st.ml.a, .bool x.st.ml.p, .int .i64 x.st.ml.n, .int .i64 x.st.bo, .int .i64 x.st.pa, .int .i64 x.st.wh, .int .i64 x.st.al, .int .i64 x.st.lh, .int .i64 x.st.ri, .int .i64 x.st.dn]) 42 (0, 0))) := l0
      unfold Stay
      go_wp2_with fail
      have bW := hbw.trans (bel.mono hbw.size)
      have oW := hown.keep bel
      have ltW : wr.heap.size < W.heap.size := by omega
      clear hr bel hown hbw
      refine (IX _ (ROW _ oW)).mono ?_
      rintro e w' ⟨rfl, hw⟩
      have hw := hw.symm
      subst hw
      go_wp2
      go_ret
      exact ⟨ret_bool HF.out.symm, bW⟩
    obtain ⟨i, hi'⟩ : ∃ i, i = idxL x.up (aroundL ns k) := ⟨_, rfl⟩
    have HI : Hid (i = idxL x.up (aroundL ns k)) := hi'
    have hil := idx_lt hin
    rw [← hi'] at hil
    clear hi'
    obtain ⟨a3, c3, hv, hrow⟩ := hown.row
    obtain ⟨L, hL⟩ : ∃ L, L = (aroundL ns k).length := ⟨_, rfl⟩
    have IX := fun W h => index_any a3 L c3 x.up (aroundL ns k) W hL (by omega) h
    rw [ixI_in hin, ← HI.out] at IX
    have HL : Hid (L = (aroundL ns k).length) := hL
    rw [← hL] at hv hil hal
    subst hv
    clear hL hrow
    obtain ⟨g, rfl, hcap⟩ : ∃ g, a3 = some ⟨g, 0, none⟩ ∧ L ≤ c3 := by
      have h' : wr.ownsRow w.heap.size 3 1 (.slice a3 L c3) _ _ := hown
      rcases h'.2 with ⟨q, h0⟩ | ⟨g, cap', cur, q, _, _, q1, _⟩
      · have := HL.out; omega
      · simp only [Value.slice.injEq] at q
        obtain ⟨rfl, q2, rfl⟩ := q
        exact ⟨g, rfl, by rw [q2]; exact q1⟩
    have ROW : ∀ W, OwnI W w.heap.size (.slice (some ⟨g, 0, none⟩) L c3) (aroundL ns k) → Row W (some ⟨g, 0, none⟩) (aroundL ns k) := fun W h => by
      obtain ⟨_, _, q1, q2⟩ := h.row
      cases q1
      exact q2
    have HCut : Hid ((aroundL ns k).take (i + 1) = cutL ns k) := by
      show _ = _
      rw [cutL, HXu.out, ixI_in hin, ← HI.out, show ((i : Int) + 1).toNat = i + 1 by omega]
    have OCUT : ∀ W, OwnI W w.heap.size (.slice (some ⟨g, 0, none⟩) L c3) (aroundL ns k) → OwnI W w.heap.size (.slice (some ⟨g, 0, none⟩) (i + 1) c3) (cutL ns k) := fun W h => by
      rw [← HCut.out]
      exact h.cut (i + 1) (by omega) HL.out
    have HIn : Hid (x.up ∈ aroundL ns k) := hin
    have b1i : (0 : Int) ≤ (i : Int) + 1 := by omega
    have b2i : (i : Int) + 1 ≤ (c3 : Int) := by omega
    have b3i : ¬ ((i : Int) < 0) := by omega
    have hcl : (cutL ns k).length = i + 1 := by rw [cut_len (by omega) (by rw [HXu.out]; exact HIn.out), HXu.out, ← HI.out]
    clear hin
    cases hG : okN (okB true) styleB x
    · have GN := fun (W : World) (h : Below w.heap.size w W) => goodNode_b hG hxs et ev ((h.cell (p := ⟨0, 0, none⟩) lte).trans HE.out)
      have HF : Hid (treeB (okB true) styleB ns = false) := treeB_no (k := k) (by omega) (by rw [okAt, hko hG, Bool.and_false])
      clear IT hko OCUT hcl
      go_wp2_with (first
        | (with_reducible show wpList _ _ _ (⟨some 34, Op.load 42 _, _, _, _, _⟩ :: _) _ _; refine wpList_load_mid rfl 42 _ rfl b (off + k * 28) rfl (ndL x) _ hr Tryd.underlying42 rfl (by kernel_rfl) ?_)
        | (with_reducible show wpList _ _ _ (⟨none, Op.store 42 _ _, _, _, _, _⟩ :: _) _ _; refine wpList_store_box rfl 42 _ _ rfl rfl (#[.int .i64 x.up, .string x.tx, .int .i64 x.st.sh, .int .i64 x.st.fl, .int .i64 x.st.cl, .bool x.st.w.a, .bool x.st.w.p, .int .i64 x.st.w.n, .bool x.st.h.a, .bool x.st.h.p, .int .i64 x.st.h.n, .int .i64 x.st.mn, .int .i64 x.st.mx, .int .i64 x.st.mt, .bool x.st.mr.a, .bool x.st.mr.p, .int .i64 x.st.mr.n, .int .i64 x.st.mb, .bool x.st.ml.a, .bool x.st.ml.p, .int .i64 x.st.ml.n, .int .i64 x.st.bo, .int .i64 x.st.pa, .int .i64 x.st.wh, .int .i64 x.st.al, .int .i64 x.st.lh, .int .i64 x.st.ri, .int .i64 x.st.dn]) rfl rfl (by kernel_rfl) rfl (by kernel_rfl) ?_; intro W bel l0 hsz; refine stay ?_))
      have hc0 : W.cell? ⟨wr.heap.size, 0, none⟩ = some (.int .i64 x.up) := (lies_cell l0 0).trans rfl
      have l0 : Hid (W.heap[wr.heap.size]? = some (.cells (#[.int .i64 x.up, .string x.tx, .int .i64 x.st.sh, .int .i64 x.st.fl, .int .i64 x.st.cl, .bool x.st.w.a, .bool x.st.w.p, .int .i64 x.st.w.n, .bool x.st.h.a, .bool x.st.h.p, .int .i64 x.st.h.n, .int .i64 x.st.mn, .int .i64 x.st.mx, .int .i64 x.st.mt, .bool x.st.mr.a, .bool x.st.mr.p, .int .i64 x.st.mr.n, .int .i64 x.st.mb, .bool x.st.ml.a, .bool x.st.ml.p, .int .i64 x.st.ml.n, .int .i64 x.st.bo, .int .i64 x.st.pa, .int .i64 x.st.wh, .int .i64 x.st.al, .int .i64 x.st.lh, .int .i64 x.st.ri, .int .i64 x.st.dn]) 42 (0, 0))) := l0
      unfold Stay
      go_wp2_with fail
      have bW := hbw.trans (bel.mono hbw.size)
      have oW := hown.keep bel
      have ltW : wr.heap.size < W.heap.size := by omega
      clear hr bel hown hbw
      refine (IX _ (ROW _ oW)).mono ?_
      rintro e w' ⟨rfl, hw⟩
      have hw := hw.symm
      subst hw
      have rb := range_box l0.out
      have G1 := GN W bW
      go_wp2_with (with_reducible show wpList _ _ _ (⟨some 46, Op.load 42 _, _, _, _, _⟩ :: _) _ _; refine wpList_load_midG ?qa4 42 _ rfl wr.heap.size 0 ?qb4 (ndL x) _ rb Tryd.underlying42 rfl (by kernel_rfl) ?_)
      case qb4 => rfl
      go_wp2_with fail
      refine G1.mono ?_
      rintro e w1 ⟨rfl, hb1⟩
      have b1 := bW.trans (hb1.mono bW.size)
      have o1 := oW.keep hb1
      have l1 : Hid (w1.heap[wr.heap.size]? = some (.cells (#[.int .i64 x.up, .string x.tx, .int .i64 x.st.sh, .int .i64 x.st.fl, .int .i64 x.st.cl, .bool x.st.w.a, .bool x.st.w.p, .int .i64 x.st.w.n, .bool x.st.h.a, .bool x.st.h.p, .int .i64 x.st.h.n, .int .i64 x.st.mn, .int .i64 x.st.mx, .int .i64 x.st.mt, .bool x.st.mr.a, .bool x.st.mr.p, .int .i64 x.st.mr.n, .int .i64 x.st.mb, .bool x.st.ml.a, .bool x.st.ml.p, .int .i64 x.st.ml.n, .int .i64 x.st.bo, .int .i64 x.st.pa, .int .i64 x.st.wh, .int .i64 x.st.al, .int .i64 x.st.lh, .int .i64 x.st.ri, .int .i64 x.st.dn]) 42 (0, 0))) := below_lies hb1 l0.out ltW
      have lt1 : wr.heap.size < w1.heap.size := lies_lt l1.out
      clear hb1 bW oW l0 rb G1 GN hc0 ltW
      go_wp2
      go_ret
      exact ⟨ret_bool HF.out.symm, b1⟩
    have GN := fun (W : World) (h : Below w.heap.size w W) => goodNode_b hG hxs et ev ((h.cell (p := ⟨0, 0, none⟩) lte).trans HE.out)
    by_cases h8 : 8 ≤ i + 1
    · have HF : Hid (treeB (okB true) styleB ns = false) := treeB_no (k := k) (by omega) (by
        rw [okAt, okUp, if_neg hk0, HXu.out, ← HI.out, decide_eq_false (p := i + 1 < 8) (by omega), Bool.and_false]; rfl)
      have h8' : (8 : Int) ≤ (i : Int) + 1 := by omega
      clear IT hko OCUT hcl
      go_wp2_with (first
        | (with_reducible show wpList _ _ _ (⟨some 34, Op.load 42 _, _, _, _, _⟩ :: _) _ _; refine wpList_load_mid rfl 42 _ rfl b (off + k * 28) rfl (ndL x) _ hr Tryd.underlying42 rfl (by kernel_rfl) ?_)
        | (with_reducible show wpList _ _ _ (⟨none, Op.store 42 _ _, _, _, _, _⟩ :: _) _ _; refine wpList_store_box rfl 42 _ _ rfl rfl (#[.int .i64 x.up, .string x.tx, .int .i64 x.st.sh, .int .i64 x.st.fl, .int .i64 x.st.cl, .bool x.st.w.a, .bool x.st.w.p, .int .i64 x.st.w.n, .bool x.st.h.a, .bool x.st.h.p, .int .i64 x.st.h.n, .int .i64 x.st.mn, .int .i64 x.st.mx, .int .i64 x.st.mt, .bool x.st.mr.a, .bool x.st.mr.p, .int .i64 x.st.mr.n, .int .i64 x.st.mb, .bool x.st.ml.a, .bool x.st.ml.p, .int .i64 x.st.ml.n, .int .i64 x.st.bo, .int .i64 x.st.pa, .int .i64 x.st.wh, .int .i64 x.st.al, .int .i64 x.st.lh, .int .i64 x.st.ri, .int .i64 x.st.dn]) rfl rfl (by kernel_rfl) rfl (by kernel_rfl) ?_; intro W bel l0 hsz; refine stay ?_))
      have hc0 : W.cell? ⟨wr.heap.size, 0, none⟩ = some (.int .i64 x.up) := (lies_cell l0 0).trans rfl
      have l0 : Hid (W.heap[wr.heap.size]? = some (.cells (#[.int .i64 x.up, .string x.tx, .int .i64 x.st.sh, .int .i64 x.st.fl, .int .i64 x.st.cl, .bool x.st.w.a, .bool x.st.w.p, .int .i64 x.st.w.n, .bool x.st.h.a, .bool x.st.h.p, .int .i64 x.st.h.n, .int .i64 x.st.mn, .int .i64 x.st.mx, .int .i64 x.st.mt, .bool x.st.mr.a, .bool x.st.mr.p, .int .i64 x.st.mr.n, .int .i64 x.st.mb, .bool x.st.ml.a, .bool x.st.ml.p, .int .i64 x.st.ml.n, .int .i64 x.st.bo, .int .i64 x.st.pa, .int .i64 x.st.wh, .int .i64 x.st.al, .int .i64 x.st.lh, .int .i64 x.st.ri, .int .i64 x.st.dn]) 42 (0, 0))) := l0
      unfold Stay
      go_wp2_with fail
      have bW := hbw.trans (bel.mono hbw.size)
      have oW := hown.keep bel
      have ltW : wr.heap.size < W.heap.size := by omega
      clear hr bel hown hbw
      refine (IX _ (ROW _ oW)).mono ?_
      rintro e w' ⟨rfl, hw⟩
      have hw := hw.symm
      subst hw
      have rb := range_box l0.out
      have G1 := GN W bW
      go_wp2_with (with_reducible show wpList _ _ _ (⟨some 46, Op.load 42 _, _, _, _, _⟩ :: _) _ _; refine wpList_load_midG ?qa5 42 _ rfl wr.heap.size 0 ?qb5 (ndL x) _ rb Tryd.underlying42 rfl (by kernel_rfl) ?_)
      case qb5 => rfl
      go_wp2_with fail
      refine G1.mono ?_
      rintro e w1 ⟨rfl, hb1⟩
      have b1 := bW.trans (hb1.mono bW.size)
      have o1 := oW.keep hb1
      have l1 : Hid (w1.heap[wr.heap.size]? = some (.cells (#[.int .i64 x.up, .string x.tx, .int .i64 x.st.sh, .int .i64 x.st.fl, .int .i64 x.st.cl, .bool x.st.w.a, .bool x.st.w.p, .int .i64 x.st.w.n, .bool x.st.h.a, .bool x.st.h.p, .int .i64 x.st.h.n, .int .i64 x.st.mn, .int .i64 x.st.mx, .int .i64 x.st.mt, .bool x.st.mr.a, .bool x.st.mr.p, .int .i64 x.st.mr.n, .int .i64 x.st.mb, .bool x.st.ml.a, .bool x.st.ml.p, .int .i64 x.st.ml.n, .int .i64 x.st.bo, .int .i64 x.st.pa, .int .i64 x.st.wh, .int .i64 x.st.al, .int .i64 x.st.lh, .int .i64 x.st.ri, .int .i64 x.st.dn]) 42 (0, 0))) := below_lies hb1 l0.out ltW
      have lt1 : wr.heap.size < w1.heap.size := lies_lt l1.out
      clear hb1 bW oW l0 rb G1 GN hc0 ltW
      go_wp2
      go_ret
      exact ⟨ret_bool HF.out.symm, b1⟩
    have h8' : ¬ ((8 : Int) ≤ (i : Int) + 1) := by omega
    have HO : Hid (okUp ns k = true) := by
      show okUp ns k = true
      rw [okUp, if_neg hk0, HXu.out, ← HI.out, decide_eq_true HIn.out, decide_eq_true (p := i + 1 < 8) (by omega)]; rfl
    have HA : Hid (okAt (okB true) styleB ns k = true) := by show okAt _ _ ns k = true; rw [okAt, hko hG, HO.out]; rfl
    have HN : Hid (aroundL ns (k + 1) = if zeroS x.st = true then cutL ns k else cutL ns k ++ [(k : Int)]) := by
      show _ = _
      rw [cut_next HO.out HUp.out, HXt.out]
    clear hko
    cases hz : zeroS x.st
    · rw [hz] at IT HN
      rw [if_neg (by decide)] at HN
      go_wp2_with (first
        | (with_reducible show wpList _ _ _ (⟨some 34, Op.load 42 _, _, _, _, _⟩ :: _) _ _; refine wpList_load_mid rfl 42 _ rfl b (off + k * 28) rfl (ndL x) _ hr Tryd.underlying42 rfl (by kernel_rfl) ?_)
        | (with_reducible show wpList _ _ _ (⟨none, Op.store 42 _ _, _, _, _, _⟩ :: _) _ _; refine wpList_store_box rfl 42 _ _ rfl rfl (#[.int .i64 x.up, .string x.tx, .int .i64 x.st.sh, .int .i64 x.st.fl, .int .i64 x.st.cl, .bool x.st.w.a, .bool x.st.w.p, .int .i64 x.st.w.n, .bool x.st.h.a, .bool x.st.h.p, .int .i64 x.st.h.n, .int .i64 x.st.mn, .int .i64 x.st.mx, .int .i64 x.st.mt, .bool x.st.mr.a, .bool x.st.mr.p, .int .i64 x.st.mr.n, .int .i64 x.st.mb, .bool x.st.ml.a, .bool x.st.ml.p, .int .i64 x.st.ml.n, .int .i64 x.st.bo, .int .i64 x.st.pa, .int .i64 x.st.wh, .int .i64 x.st.al, .int .i64 x.st.lh, .int .i64 x.st.ri, .int .i64 x.st.dn]) rfl rfl (by kernel_rfl) rfl (by kernel_rfl) ?_; intro W bel l0 hsz; refine stay ?_))
      have hc0 : W.cell? ⟨wr.heap.size, 0, none⟩ = some (.int .i64 x.up) := (lies_cell l0 0).trans rfl
      have l0 : Hid (W.heap[wr.heap.size]? = some (.cells (#[.int .i64 x.up, .string x.tx, .int .i64 x.st.sh, .int .i64 x.st.fl, .int .i64 x.st.cl, .bool x.st.w.a, .bool x.st.w.p, .int .i64 x.st.w.n, .bool x.st.h.a, .bool x.st.h.p, .int .i64 x.st.h.n, .int .i64 x.st.mn, .int .i64 x.st.mx, .int .i64 x.st.mt, .bool x.st.mr.a, .bool x.st.mr.p, .int .i64 x.st.mr.n, .int .i64 x.st.mb, .bool x.st.ml.a, .bool x.st.ml.p, .int .i64 x.st.ml.n, .int .i64 x.st.bo, .int .i64 x.st.pa, .int .i64 x.st.wh, .int .i64 x.st.al, .int .i64 x.st.lh, .int .i64 x.st.ri, .int .i64 x.st.dn]) 42 (0, 0))) := l0
      unfold Stay
      go_wp2_with fail
      have bW := hbw.trans (bel.mono hbw.size)
      have oW := hown.keep bel
      have ltW : wr.heap.size < W.heap.size := by omega
      clear hr bel hown hbw
      refine (IX _ (ROW _ oW)).mono ?_
      rintro e w' ⟨rfl, hw⟩
      have hw := hw.symm
      subst hw
      have rb := range_box l0.out
      have G1 := GN W bW
      go_wp2_with (with_reducible show wpList _ _ _ (⟨some 46, Op.load 42 _, _, _, _, _⟩ :: _) _ _; refine wpList_load_midG ?qa6 42 _ rfl wr.heap.size 0 ?qb6 (ndL x) _ rb Tryd.underlying42 rfl (by kernel_rfl) ?_)
      case qb6 => rfl
      go_wp2_with fail
      refine G1.mono ?_
      rintro e w1 ⟨rfl, hb1⟩
      have b1 := bW.trans (hb1.mono bW.size)
      have o1 := oW.keep hb1
      have l1 : Hid (w1.heap[wr.heap.size]? = some (.cells (#[.int .i64 x.up, .string x.tx, .int .i64 x.st.sh, .int .i64 x.st.fl, .int .i64 x.st.cl, .bool x.st.w.a, .bool x.st.w.p, .int .i64 x.st.w.n, .bool x.st.h.a, .bool x.st.h.p, .int .i64 x.st.h.n, .int .i64 x.st.mn, .int .i64 x.st.mx, .int .i64 x.st.mt, .bool x.st.mr.a, .bool x.st.mr.p, .int .i64 x.st.mr.n, .int .i64 x.st.mb, .bool x.st.ml.a, .bool x.st.ml.p, .int .i64 x.st.ml.n, .int .i64 x.st.bo, .int .i64 x.st.pa, .int .i64 x.st.wh, .int .i64 x.st.al, .int .i64 x.st.lh, .int .i64 x.st.ri, .int .i64 x.st.dn]) 42 (0, 0))) := below_lies hb1 l0.out ltW
      have lt1 : wr.heap.size < w1.heap.size := lies_lt l1.out
      clear hb1 bW oW l0 rb G1 GN hc0 ltW
      have OC := OCUT _ o1
      clear o1 OCUT
      have rb := range_box l1.out
      go_wp2_with (with_reducible show wpList _ _ _ (⟨some 57, Op.load 42 _, _, _, _, _⟩ :: _) _ _; refine wpList_load_mid rfl 42 _ rfl wr.heap.size 0 rfl (ndL x) _ rb Tryd.underlying42 rfl (by kernel_rfl) ?_)
      refine (IT _).mono ?_
      rintro e w2 ⟨rfl, hb2⟩
      have b2 := b1.trans (hb2.mono b1.size)
      have o2 := OC.keep hb2
      clear hb2 b1 l1 rb OC
      generalize cutL ns k = cs at o2 HN hcl
      have o2' : w2.ownsRow w.heap.size 3 1 (.slice (some ⟨g, 0, none⟩) (i + 1) c3) (i + 1) ((cs).map (Value.int .i64)) := by have h := o2; unfold OwnI at h; rw [hcl] at h; exact h
      go_wp2_with (at_builtin; refine wpList_append_own _ rfl (.tmp 60) (.tmp 62) 45 rfl w.heap.size 3 i0 (.int .i64 0) 1 8 Tryd.underlying45 hi hz0 hz1 hz2 rfl (by decide) _ _ _ rfl (o2'.alloc _) ⟨w2.heap.size, 0, none⟩ 1 1 [.int .i64 (k : Int)] rfl rfl (cell_one_new _ _ _) (one_i64 _) (by unfold maxLen; omega) (by omega) (by have := b2.size; simp; omega) ?_)
      intro v' w3 hown3 hgrow3 _
      have b3 : Below w.heap.size w w3 := (b2.alloc b2.size _).grown hgrow3 (by have := b2.size; simp; omega) (fun j hj => o2.base j hj)
      have o3 : OwnI w3 w.heap.size v' (aroundL ns (k + 1)) := by rw [HN.out]; exact OwnI.snoc hcl.symm hown3
      clear hown3 hgrow3 o2' o2 b2
      go_wp2
      go_roundw
      case rel => exact ⟨k + 1, by omega, by go_num, snocB (f := okAt (okB true) styleB) HP.out HA.out, fun h => absurd h (by omega), o3, b3⟩
      case measure => simp [intOf]; omega
    · rw [hz] at IT HN
      rw [if_pos rfl] at HN
      go_wp2_with (first
        | (with_reducible show wpList _ _ _ (⟨some 34, Op.load 42 _, _, _, _, _⟩ :: _) _ _; refine wpList_load_mid rfl 42 _ rfl b (off + k * 28) rfl (ndL x) _ hr Tryd.underlying42 rfl (by kernel_rfl) ?_)
        | (with_reducible show wpList _ _ _ (⟨none, Op.store 42 _ _, _, _, _, _⟩ :: _) _ _; refine wpList_store_box rfl 42 _ _ rfl rfl (#[.int .i64 x.up, .string x.tx, .int .i64 x.st.sh, .int .i64 x.st.fl, .int .i64 x.st.cl, .bool x.st.w.a, .bool x.st.w.p, .int .i64 x.st.w.n, .bool x.st.h.a, .bool x.st.h.p, .int .i64 x.st.h.n, .int .i64 x.st.mn, .int .i64 x.st.mx, .int .i64 x.st.mt, .bool x.st.mr.a, .bool x.st.mr.p, .int .i64 x.st.mr.n, .int .i64 x.st.mb, .bool x.st.ml.a, .bool x.st.ml.p, .int .i64 x.st.ml.n, .int .i64 x.st.bo, .int .i64 x.st.pa, .int .i64 x.st.wh, .int .i64 x.st.al, .int .i64 x.st.lh, .int .i64 x.st.ri, .int .i64 x.st.dn]) rfl rfl (by kernel_rfl) rfl (by kernel_rfl) ?_; intro W bel l0 hsz; refine stay ?_))
      have hc0 : W.cell? ⟨wr.heap.size, 0, none⟩ = some (.int .i64 x.up) := (lies_cell l0 0).trans rfl
      have l0 : Hid (W.heap[wr.heap.size]? = some (.cells (#[.int .i64 x.up, .string x.tx, .int .i64 x.st.sh, .int .i64 x.st.fl, .int .i64 x.st.cl, .bool x.st.w.a, .bool x.st.w.p, .int .i64 x.st.w.n, .bool x.st.h.a, .bool x.st.h.p, .int .i64 x.st.h.n, .int .i64 x.st.mn, .int .i64 x.st.mx, .int .i64 x.st.mt, .bool x.st.mr.a, .bool x.st.mr.p, .int .i64 x.st.mr.n, .int .i64 x.st.mb, .bool x.st.ml.a, .bool x.st.ml.p, .int .i64 x.st.ml.n, .int .i64 x.st.bo, .int .i64 x.st.pa, .int .i64 x.st.wh, .int .i64 x.st.al, .int .i64 x.st.lh, .int .i64 x.st.ri, .int .i64 x.st.dn]) 42 (0, 0))) := l0
      unfold Stay
      go_wp2_with fail
      have bW := hbw.trans (bel.mono hbw.size)
      have oW := hown.keep bel
      have ltW : wr.heap.size < W.heap.size := by omega
      clear hr bel hown hbw
      refine (IX _ (ROW _ oW)).mono ?_
      rintro e w' ⟨rfl, hw⟩
      have hw := hw.symm
      subst hw
      have rb := range_box l0.out
      have G1 := GN W bW
      go_wp2_with (with_reducible show wpList _ _ _ (⟨some 46, Op.load 42 _, _, _, _, _⟩ :: _) _ _; refine wpList_load_midG ?qa7 42 _ rfl wr.heap.size 0 ?qb7 (ndL x) _ rb Tryd.underlying42 rfl (by kernel_rfl) ?_)
      case qb7 => rfl
      go_wp2_with fail
      refine G1.mono ?_
      rintro e w1 ⟨rfl, hb1⟩
      have b1 := bW.trans (hb1.mono bW.size)
      have o1 := oW.keep hb1
      have l1 : Hid (w1.heap[wr.heap.size]? = some (.cells (#[.int .i64 x.up, .string x.tx, .int .i64 x.st.sh, .int .i64 x.st.fl, .int .i64 x.st.cl, .bool x.st.w.a, .bool x.st.w.p, .int .i64 x.st.w.n, .bool x.st.h.a, .bool x.st.h.p, .int .i64 x.st.h.n, .int .i64 x.st.mn, .int .i64 x.st.mx, .int .i64 x.st.mt, .bool x.st.mr.a, .bool x.st.mr.p, .int .i64 x.st.mr.n, .int .i64 x.st.mb, .bool x.st.ml.a, .bool x.st.ml.p, .int .i64 x.st.ml.n, .int .i64 x.st.bo, .int .i64 x.st.pa, .int .i64 x.st.wh, .int .i64 x.st.al, .int .i64 x.st.lh, .int .i64 x.st.ri, .int .i64 x.st.dn]) 42 (0, 0))) := below_lies hb1 l0.out ltW
      have lt1 : wr.heap.size < w1.heap.size := lies_lt l1.out
      clear hb1 bW oW l0 rb G1 GN hc0 ltW
      have OC := OCUT _ o1
      clear o1 OCUT
      have rb := range_box l1.out
      go_wp2_with (with_reducible show wpList _ _ _ (⟨some 57, Op.load 42 _, _, _, _, _⟩ :: _) _ _; refine wpList_load_mid rfl 42 _ rfl wr.heap.size 0 rfl (ndL x) _ rb Tryd.underlying42 rfl (by kernel_rfl) ?_)
      refine (IT _).mono ?_
      rintro e w2 ⟨rfl, hb2⟩
      have b2 := b1.trans (hb2.mono b1.size)
      have o2 := OC.keep hb2
      clear hb2 b1 l1 rb OC
      rw [← HN.out] at o2
      go_wp2
      go_roundw
      case rel => exact ⟨k + 1, by omega, by go_num, snocB (f := okAt (okB true) styleB) HP.out HA.out, fun h => absurd h (by omega), o2, b2⟩
      case measure => simp [intOf]; omega
end Go.Proofs.YtddnphgpdnedbaaDoor

namespace Go.Proofs.YtddnphgpdnedbaaDoor
open Go.ChangeShapes Go.WideShapes Go.ChangeAt Go.RowKit
set_option linter.unusedVariables false

set_option maxHeartbeats 2000000 in
theorem implTree_len (a : Option Addr) (n cap : Nat) (w : World) (h : ¬ (1 ≤ n ∧ n ≤ 40)) (hl : n ≤ 1048576) :
    Calls Tryd.prog 16 #[.slice a n cap] w fun e w' => e = .returned (.bool false) ∧ Below w.heap.size w w' := by
  by_cases h1 : (n : Int) < 1
  · go_enter Tryd.func16, Tryd.ntmps16
    go_wp2
    go_ret
    exact ⟨rfl, Below.refl _ _⟩
  · have h2 : (40 : Int) < (n : Int) := by omega
    go_enter Tryd.func16, Tryd.ntmps16
    go_wp2
    go_ret
    exact ⟨rfl, Below.refl _ _⟩
set_option maxRecDepth 100000 in
set_option maxHeartbeats 2000000 in
theorem implTree_first (b off n cap : Nat) (x : Nd) (w : World) (h1 : 1 ≤ n) (h40 : n ≤ 40) (hr : w.rangeAt b off (ndL x)) (h : zeroS x.st = true ∨ x.up ≠ -1) :
    Calls Tryd.prog 16 #[.slice (some ⟨b, off, none⟩) n cap] w fun e w' => e = .returned (.bool false) ∧ Below w.heap.size w w' := by
  have T0 := implIsText_any x
  have hu0 : w.cell? ⟨b, off, none⟩ = some (.int .i64 x.up) := hr 0 _ rfl
  have hlb := range_lt hr
  have g1 : ¬ ((n : Int) < 1) := by omega
  have g2 : ¬ ((40 : Int) < (n : Int)) := by omega
  have g3 : (0 : Int) < (n : Int) := by omega
  cases hz : zeroS x.st
  · rw [hz] at T0 h
    have hne : ¬ x.up = -1 := by simpa using h
    have hq : (x.up == -1) = false := by simpa using hne
    clear h
    go_enter Tryd.func16, Tryd.ntmps16
    go_wp2_with (with_reducible show wpList _ _ _ (⟨some 18, Op.load 42 _, _, _, _, _⟩ :: _) _ _; refine wpList_load_midG ?q0 42 _ rfl b off ?q1 (ndL x) _ hr Tryd.underlying42 rfl (by kernel_rfl) ?_)
    refine (T0 _).mono ?_
    rintro e w0 ⟨rfl, hb0⟩
    have hu1 : w0.cell? ⟨b, off, none⟩ = some (.int .i64 x.up) := (hb0.cell (p := ⟨b, off, none⟩) hlb).trans hu0
    clear T0 hu0 hr
    go_wp2
    go_ret
    exact ⟨rfl, hb0⟩
  · rw [hz] at T0
    clear h
    go_enter Tryd.func16, Tryd.ntmps16
    go_wp2_with (with_reducible show wpList _ _ _ (⟨some 18, Op.load 42 _, _, _, _, _⟩ :: _) _ _; refine wpList_load_midG ?q2 42 _ rfl b off ?q3 (ndL x) _ hr Tryd.underlying42 rfl (by kernel_rfl) ?_)
    refine (T0 _).mono ?_
    rintro e w0 ⟨rfl, hb0⟩
    clear T0 hu0 hr
    go_wp2
    go_ret
    exact ⟨rfl, hb0⟩

theorem implTree_any (a : Option Addr) (cap : Nat) (ns : List Nd) (w : World) (hr : NdRow w a ns) (hl : ns.length ≤ 1048576) (hs : ∀ x ∈ ns, x.tx.size ≤ 1048576)
    (et : TypeId) (ev : Value) (he : w.cell? ⟨0, 0, none⟩ = some (.iface et ev)) :
    Calls Tryd.prog 16 #[.slice a ns.length cap] w fun e w' => e = .returned (.bool (treeB (okB true) styleB ns)) ∧ Below w.heap.size w w' := by
  by_cases hlen : 1 ≤ ns.length ∧ ns.length ≤ 40
  rotate_left
  · rw [treeB_len hlen]
    exact implTree_len a _ cap w hlen hl
  obtain ⟨b, off, rfl, hc⟩ : ∃ b off, a = some ⟨b, off, none⟩ ∧ ∀ i n, ns[i]? = some n → w.rangeAt b (off + i * 28) (ndL n) := by
    rcases hr with h | h
    · rw [h] at hlen; simp at hlen
    · exact h
  obtain ⟨x, hx⟩ : ∃ x, ns[0]? = some x := ⟨_, List.getElem?_eq_getElem (by omega)⟩
  by_cases h0 : zeroS x.st = true ∨ x.up ≠ -1
  · have hT : treeB (okB true) styleB ns = false := treeB_no (k := 0) (by omega) (by
      rw [okAt, okUp, if_pos rfl]
      unfold upL isT
      rw [getD_of hx]
      rcases h0 with h | h
      · simp [h]
      · simp [h])
    rw [hT]
    have := hc 0 x hx
    rw [Nat.zero_mul, Nat.add_zero] at this
    exact implTree_first b off _ cap x w hlen.1 hlen.2 this h0
  · have h1 : zeroS x.st = false := by
      cases h : zeroS x.st
      · rfl
      · exact absurd (.inl h) h0
    have h2 : x.up = -1 := Classical.byContradiction fun h => h0 (.inr h)
    exact implTree_loop b off _ cap ns w rfl hlen.1 hlen.2 hs hc (by unfold isT; rw [getD_of hx]; exact h1) (by unfold upL; rw [getD_of hx]; exact h2) et ev he
end Go.Proofs.YtddnphgpdnedbaaDoor

namespace Go.Proofs.YtddnphgpdnedbaaDoor
open Go.ChangeShapes Go.WideShapes Go.ChangeAt Go.RowKit
set_option linter.unusedVariables false

theorem chain_len (ns : List Nd) (k : Nat) : (chainL ns k).length ≤ k + 1 := by
  induction k using Nat.strongRecOn with
  | _ k ih =>
    rw [chainL]
    split
    · rename_i h
      have := ih _ h.2
      rw [List.length_append, List.length_singleton]
      omega
    · simp
theorem okUp_mk {ns : List Nd} {k u : Nat} (h0 : 0 < k) (hT0 : isT ns 0 = false) (hs : ∀ j, j < k → okUp ns j = true) (hu : u < k) (e : upL ns k = (u : Int)) (hc : (u : Int) ∈ chainL ns (k - 1)) (ht : isT ns u = false) (hd : (chainL ns u).length < 8) : okUp ns k = true := by
  have hin : upL ns k ∈ aroundL ns k := (around_in h0 hT0 (stands_of k hs) _).2 ⟨u, hu, e, hc, ht⟩
  rw [okUp, if_neg (by omega), decide_eq_true hin]
  have hin' := hin
  rw [e] at hin'
  have hl := congrArg List.length (around_take u hin')
  rw [List.length_take] at hl
  have := idx_lt hin'
  rw [e, decide_eq_true (by omega)]
  rfl
theorem okUp_un {ns : List Nd} {k : Nat} (h0 : 0 < k) (hs : ∀ j, j < k → okUp ns j = true) (h : okUp ns k = true) : ∃ u : Nat, u < k ∧ upL ns k = (u : Int) ∧ (u : Int) ∈ chainL ns (k - 1) ∧ isT ns u = false ∧ (chainL ns u).length < 8 := by
  have st := stands_of (k + 1) (snocB (f := okUp) hs h) k (by omega)
  obtain ⟨u, hu, e, hc, ht⟩ := st.ups h0
  have hd := st.deep h0
  rw [e] at hd
  exact ⟨u, hu, e, hc, ht, by simpa using hd⟩
theorem okUp_not {ns : List Nd} {k u : Nat} (h0 : 0 < k) (hs : ∀ j, j < k → okUp ns j = true) (e : upL ns k = (u : Int)) (h : ¬ ((u : Int) ∈ chainL ns (k - 1) ∧ isT ns u = false ∧ (chainL ns u).length < 8)) : okUp ns k = false := by
  cases hq : okUp ns k
  · rfl
  · obtain ⟨u', _, e', h1, h2, h3⟩ := okUp_un h0 hs hq
    have : u' = u := by omega
    subst this
    exact absurd ⟨h1, h2, h3⟩ h
theorem okUp_far {ns : List Nd} {k : Nat} (h0 : 0 < k) (hs : ∀ j, j < k → okUp ns j = true) (h : ¬ (0 ≤ upL ns k ∧ upL ns k < (k : Int))) : okUp ns k = false := by
  cases hq : okUp ns k
  · rfl
  · obtain ⟨u', h1, e', _⟩ := okUp_un h0 hs hq
    exact absurd ⟨by omega, by omega⟩ h
theorem tree_not_up {tB : ByteArray → Bool} {sB : St → Bool} {ns : List Nd} {k : Nat} (h : k < ns.length) (hk : okUp ns k = false) : treeB tB sB ns = false := treeB_no h (by rw [okAt, hk]; rfl)
theorem tree_not_node {tB : ByteArray → Bool} {sB : St → Bool} {ns : List Nd} {k : Nat} {x : Nd} (h : k < ns.length) (hx : ns.getD k nd0 = x) (hk : okN tB sB x = false) : treeB tB sB ns = false := treeB_no h (by rw [okAt, hx, hk, Bool.and_false])
theorem okAt_mk {tB : ByteArray → Bool} {sB : St → Bool} {ns : List Nd} {k : Nat} {x : Nd} (hu : okUp ns k = true) (hx : ns.getD k nd0 = x) (hk : okN tB sB x = true) : okAt tB sB ns k = true := by rw [okAt, hx, hk, hu]; rfl
/-- One step up a chain. -/
theorem chain_up {ns : List Nd} {v : Nat} {y : Int} (st : Stands ns v) (hne : y ≠ (v : Int)) : (upL ns v = -1 ∧ y ∉ chainL ns v) ∨ ∃ p : Nat, p < v ∧ upL ns v = (p : Int) ∧ (y ∈ chainL ns v ↔ y ∈ chainL ns p) := by
  by_cases h0 : v = 0
  · left
    have e := st.top h0
    refine ⟨e, ?_⟩
    rw [chain_top (by omega), List.mem_singleton]
    exact hne
  · right
    obtain ⟨p, hp, e, _⟩ := st.ups (by omega)
    refine ⟨p, hp, e, ?_⟩
    rw [chain_in e hp, List.mem_append, List.mem_singleton]
    exact ⟨fun h => h.resolve_right hne, .inl⟩
theorem chain_up_len {ns : List Nd} {v : Nat} (st : Stands ns v) : (upL ns v = -1 ∧ (chainL ns v).length = 1) ∨ ∃ p : Nat, p < v ∧ upL ns v = (p : Int) ∧ (chainL ns v).length = (chainL ns p).length + 1 := by
  by_cases h0 : v = 0
  · left
    have e := st.top h0
    exact ⟨e, by rw [chain_top (by omega)]; rfl⟩
  · right
    obtain ⟨p, hp, e, _⟩ := st.ups (by omega)
    exact ⟨p, hp, e, by rw [chain_in e hp, List.length_append, List.length_singleton]⟩
/-- What the first inner loop holds: z is where it stands, q whether it has met u. -/
def metI (ns : List Nd) (k u : Nat) (q : Bool) (z : Int) : Prop :=
  (q = true ∧ (u : Int) ∈ chainL ns (k - 1) ∧ -1 ≤ z ∧ z < (k : Int)) ∨ (q = false ∧ z = -1 ∧ (u : Int) ∉ chainL ns (k - 1)) ∨ (q = false ∧ ∃ v : Nat, v < k ∧ z = (v : Int) ∧ ((u : Int) ∈ chainL ns (k - 1) ↔ (u : Int) ∈ chainL ns v))
theorem metI_hit {ns : List Nd} {k u : Nat} {z : Int} (h : (u : Int) ∈ chainL ns (k - 1) ↔ (u : Int) ∈ chainL ns u) (h1 : -1 ≤ z) (h2 : z < (k : Int)) : metI ns k u true z := .inl ⟨rfl, h.2 (chain_last ns u), h1, h2⟩
theorem metI_step {ns : List Nd} {k u v : Nat} (hv : v < k) (st : Stands ns v) (h : (u : Int) ∈ chainL ns (k - 1) ↔ (u : Int) ∈ chainL ns v) (hne : u ≠ v) : metI ns k u false (upL ns v) := by
  rcases chain_up st (y := (u : Int)) (by omega) with ⟨e, hn⟩ | ⟨p, hp, e, hi⟩
  · exact .inr (.inl ⟨rfl, e, fun hh => hn (h.1 hh)⟩)
  · exact .inr (.inr ⟨rfl, p, by omega, e, h.trans hi⟩)
/-- What the second one holds: d nodes are counted, z is where it stands. -/
def cntI (ns : List Nd) (k u : Nat) (d z : Int) : Prop :=
  (z = -1 ∧ d = 1 + ((chainL ns u).length : Int)) ∨ ∃ v : Nat, v < k ∧ z = (v : Int) ∧ 1 ≤ d ∧ d + ((chainL ns v).length : Int) = 1 + ((chainL ns u).length : Int)
theorem cntI_step {ns : List Nd} {k u v : Nat} {d : Int} (hv : v < k) (st : Stands ns v) (hd : 1 ≤ d) (h : d + ((chainL ns v).length : Int) = 1 + ((chainL ns u).length : Int)) : cntI ns k u (d + 1) (upL ns v) := by
  rcases chain_up_len st with ⟨e, hl⟩ | ⟨p, hp, e, hl⟩
  · exact .inl ⟨e, by omega⟩
  · exact .inr ⟨p, by omega, e, by omega, by omega⟩
theorem up_bound {ns : List Nd} {v : Nat} (st : Stands ns v) : -1 ≤ upL ns v ∧ upL ns v < (v : Int) := by
  by_cases h0 : v = 0
  · have := st.top h0; omega
  · obtain ⟨p, hp, e, _⟩ := st.ups (by omega); omega
end Go.Proofs.YtddnphgpdnedbaaDoor

namespace Go.Proofs.YtddnphgpdnedbaaDoor
open Go.ChangeShapes Go.WideShapes Go.ChangeAt Go.RowKit
set_option linter.unusedVariables false

set_option maxRecDepth 100000 in
set_option maxHeartbeats 8000000 in
theorem specTree_loop (b off n cap : Nat) (ns : List Nd) (w : World) (hn : ns.length = n) (h1 : 1 ≤ n) (h40 : n ≤ 40) (hs : ∀ x ∈ ns, x.tx.size ≤ 1048576)
    (hc : ∀ i x, ns[i]? = some x → w.rangeAt b (off + i * 28) (ndL x)) :
    Calls Tryd.prog 10 #[.slice (some ⟨b, off, none⟩) n cap] w fun e w' => e = .returned (.bool (treeB (okB true) styleB ns)) ∧ Below w.heap.size w w' := by
  have IN := l1In_any (n : Int) 1 40
  rw [show inB 1 40 (n : Int) = true by simp [inB]; omega] at IN
  have HC : Hid (∀ i x, ns[i]? = some x → w.rangeAt b (off + i * 28) (ndL x)) := hc
  have HS : Hid (∀ x ∈ ns, x.tx.size ≤ 1048576) := hs
  clear hc hs
  go_enter Tryd.func10, Tryd.ntmps10
  go_wp2_with fail
  refine (IN _).mono ?_
  rintro e w' ⟨rfl, hw⟩
  have hw := hw.symm
  subst hw
  clear IN
  go_wp2_with fail
  go_loopw [15] (fun i wr => ∃ k : Nat, k ≤ n ∧ i = .int .i64 k ∧ (∀ j, j < k → okAt (okB true) styleB ns j = true) ∧ Below w.heap.size w wr) (fun i _ => n - (intOf i).toNat)
  case atStart => exact ⟨0, Nat.zero_le _, rfl, fun j hj => absurd hj (by omega), Below.refl _ _⟩
  case round =>
    obtain ⟨k, hk, rfl, hp, hbw⟩ := hrel
    have HP : Hid (∀ j, j < k → okAt (okB true) styleB ns j = true) := hp
    clear hp
    by_cases hlt : k < n
    rotate_left
    · go_wp2
      go_ret
      have e : k = n := by omega
      exact ⟨ret_bool (treeB_yes (by omega) (by omega) fun j hj => HP.out j (by omega)).symm, hbw⟩
    have HUp : Hid (∀ j, j < k → okUp ns j = true) := fun j hj => okAt_up (HP.out j hj)
    obtain ⟨x, hx⟩ : ∃ x, ns[k]? = some x := ⟨_, List.getElem?_eq_getElem (by omega)⟩
    have HX : Hid (ns.getD k nd0 = x) := getD_of hx
    have HXu : Hid (upL ns k = x.up) := by show upL ns k = x.up; unfold upL; rw [HX.out]
    have HXt : Hid (isT ns k = zeroS x.st) := by show isT ns k = _; unfold isT; rw [HX.out]
    have hr := range_below (HC.out k x hx) hbw (range_lt (HC.out k x hx))
    have hxs : x.tx.size ≤ maxLen := by have := HS.out x (List.mem_of_getElem? hx); unfold maxLen; omega
    have TX := fun W => specIsText_any x W
    clear hx HS
    by_cases hk0 : k = 0
    · subst hk0
      rw [Nat.zero_mul, Nat.add_zero] at hr
      by_cases hu : x.up = -1
      rotate_left
      · have HF : Hid (treeB (okB true) styleB ns = false) := tree_not_up (k := 0) (by omega) (by rw [okUp, if_pos rfl, HXu.out, decide_eq_false hu]; rfl)
        have hq : (x.up == -1) = false := by simpa using hu
        go_wp2_with (first
          | (with_reducible show wpList _ _ _ (⟨some 19, Op.load 42 _, _, _, _, _⟩ :: _) _ _; refine wpList_load_mid rfl 42 _ rfl b off rfl (ndL x) _ hr Tryd.underlying42 rfl (by kernel_rfl) ?_)
          | (with_reducible show wpList _ _ _ (⟨none, Op.store 42 _ _, _, _, _, _⟩ :: _) _ _; refine wpList_store_box rfl 42 _ _ rfl rfl (#[.int .i64 x.up, .string x.tx, .int .i64 x.st.sh, .int .i64 x.st.fl, .int .i64 x.st.cl, .bool x.st.w.a, .bool x.st.w.p, .int .i64 x.st.w.n, .bool x.st.h.a, .bool x.st.h.p, .int .i64 x.st.h.n, .int .i64 x.st.mn, .int .i64 x.st.mx, .int .i64 x.st.mt, .bool x.st.mr.a, .bool x.st.mr.p, .int .i64 x.st.mr.n, .int .i64 x.st.mb, .bool x.st.ml.a, .bool x.st.ml.p, .int .i64 x.st.ml.n, .int .i64 x.st.bo, .int .i64 x.st.pa, .int .i64 x.st.wh, .int .i64 x.st.al, .int .i64 x.st.lh, .int .i64 x.st.ri, .int .i64 x.st.dn]) rfl rfl (by kernel_rfl) rfl (by kernel_rfl) ?_; intro W bel l0 hsz; refine stay ?_))
        have hc0 : W.cell? ⟨wr.heap.size, 0, none⟩ = some (.int .i64 x.up) := (lies_cell l0 0).trans rfl
        have hc1 : W.cell? ⟨wr.heap.size, 1, none⟩ = some (.string x.tx) := (lies_cell l0 1).trans rfl
        have l0 : Hid (W.heap[wr.heap.size]? = some (.cells (#[.int .i64 x.up, .string x.tx, .int .i64 x.st.sh, .int .i64 x.st.fl, .int .i64 x.st.cl, .bool x.st.w.a, .bool x.st.w.p, .int .i64 x.st.w.n, .bool x.st.h.a, .bool x.st.h.p, .int .i64 x.st.h.n, .int .i64 x.st.mn, .int .i64 x.st.mx, .int .i64 x.st.mt, .bool x.st.mr.a, .bool x.st.mr.p, .int .i64 x.st.mr.n, .int .i64 x.st.mb, .bool x.st.ml.a, .bool x.st.ml.p, .int .i64 x.st.ml.n, .int .i64 x.st.bo, .int .i64 x.st.pa, .int .i64 x.st.wh, .int .i64 x.st.al, .int .i64 x.st.lh, .int .i64 x.st.ri, .int .i64 x.st.dn]) 42 (0, 0))) := l0
        have bW := hbw.trans (bel.mono hbw.size)
        have ltW : wr.heap.size < W.heap.size := by omega
        unfold Stay
        clear hr bel hbw
        clear TX HC
        go_wp2
        go_ret
        exact ⟨ret_bool HF.out.symm, bW⟩
      have HU : Hid (x.up = -1) := hu
      go_wp2_with (first
        | (with_reducible show wpList _ _ _ (⟨some 19, Op.load 42 _, _, _, _, _⟩ :: _) _ _; refine wpList_load_mid rfl 42 _ rfl b off rfl (ndL x) _ hr Tryd.underlying42 rfl (by kernel_rfl) ?_)
        | (with_reducible show wpList _ _ _ (⟨none, Op.store 42 _ _, _, _, _, _⟩ :: _) _ _; refine wpList_store_box rfl 42 _ _ rfl rfl (#[.int .i64 x.up, .string x.tx, .int .i64 x.st.sh, .int .i64 x.st.fl, .int .i64 x.st.cl, .bool x.st.w.a, .bool x.st.w.p, .int .i64 x.st.w.n, .bool x.st.h.a, .bool x.st.h.p, .int .i64 x.st.h.n, .int .i64 x.st.mn, .int .i64 x.st.mx, .int .i64 x.st.mt, .bool x.st.mr.a, .bool x.st.mr.p, .int .i64 x.st.mr.n, .int .i64 x.st.mb, .bool x.st.ml.a, .bool x.st.ml.p, .int .i64 x.st.ml.n, .int .i64 x.st.bo, .int .i64 x.st.pa, .int .i64 x.st.wh, .int .i64 x.st.al, .int .i64 x.st.lh, .int .i64 x.st.ri, .int .i64 x.st.dn]) rfl rfl (by kernel_rfl) rfl (by kernel_rfl) ?_; intro W bel l0 hsz; refine stay ?_))
      have hc0 : W.cell? ⟨wr.heap.size, 0, none⟩ = some (.int .i64 x.up) := (lies_cell l0 0).trans rfl
      have hc1 : W.cell? ⟨wr.heap.size, 1, none⟩ = some (.string x.tx) := (lies_cell l0 1).trans rfl
      have l0 : Hid (W.heap[wr.heap.size]? = some (.cells (#[.int .i64 x.up, .string x.tx, .int .i64 x.st.sh, .int .i64 x.st.fl, .int .i64 x.st.cl, .bool x.st.w.a, .bool x.st.w.p, .int .i64 x.st.w.n, .bool x.st.h.a, .bool x.st.h.p, .int .i64 x.st.h.n, .int .i64 x.st.mn, .int .i64 x.st.mx, .int .i64 x.st.mt, .bool x.st.mr.a, .bool x.st.mr.p, .int .i64 x.st.mr.n, .int .i64 x.st.mb, .bool x.st.ml.a, .bool x.st.ml.p, .int .i64 x.st.ml.n, .int .i64 x.st.bo, .int .i64 x.st.pa, .int .i64 x.st.wh, .int .i64 x.st.al, .int .i64 x.st.lh, .int .i64 x.st.ri, .int .i64 x.st.dn]) 42 (0, 0))) := l0
      have bW := hbw.trans (bel.mono hbw.size)
      have ltW : wr.heap.size < W.heap.size := by omega
      unfold Stay
      clear hr bel hbw
      rw [HU.out] at hc0
      clear HC
      have IN := l1In_any (-1 : Int) (-1) (-1)
      rw [show inB (-1) (-1) (-1 : Int) = true by simp [inB]] at IN
      go_wp2_with (go_at_call 23; refine (IN _).mono ?_; rintro e w' ⟨rfl, hw⟩; have hw := hw.symm; subst hw)
      refine wp_loop_rounds 1 ?_
      rw [rounds_succ]
      go_wp2
      refine wp_loop_rounds 1 ?_
      rw [rounds_succ]
      have b1 := bW
      have l1 := l0
      clear bW l0 IN hc0 hc1
      have rb := range_box l1.out
      go_wp2_with (with_reducible show wpList _ _ _ (⟨some 82, Op.load 42 _, _, _, _, _⟩ :: _) _ _; refine wpList_load_mid rfl 42 _ rfl wr.heap.size 0 rfl (ndL x) _ rb Tryd.underlying42 rfl (by kernel_rfl) ?_)
      refine (TX _).mono ?_
      rintro e w2 ⟨rfl, hb2⟩
      have b2 := b1.trans (hb2.mono b1.size)
      have l2 : Hid (w2.heap[wr.heap.size]? = some (.cells (#[.int .i64 x.up, .string x.tx, .int .i64 x.st.sh, .int .i64 x.st.fl, .int .i64 x.st.cl, .bool x.st.w.a, .bool x.st.w.p, .int .i64 x.st.w.n, .bool x.st.h.a, .bool x.st.h.p, .int .i64 x.st.h.n, .int .i64 x.st.mn, .int .i64 x.st.mx, .int .i64 x.st.mt, .bool x.st.mr.a, .bool x.st.mr.p, .int .i64 x.st.mr.n, .int .i64 x.st.mb, .bool x.st.ml.a, .bool x.st.ml.p, .int .i64 x.st.ml.n, .int .i64 x.st.bo, .int .i64 x.st.pa, .int .i64 x.st.wh, .int .i64 x.st.al, .int .i64 x.st.lh, .int .i64 x.st.ri, .int .i64 x.st.dn]) 42 (0, 0))) := below_lies hb2 l1.out (lies_lt l1.out)
      have hd1 : w2.cell? ⟨wr.heap.size, 1, none⟩ = some (.string x.tx) := (lies_cell l2.out 1).trans rfl
      clear hb2 b1 l1 rb
      cases hz : zeroS x.st
      · skip
        by_cases hx0 : x.tx.size = 0
        rotate_left
        · have HF : Hid (treeB (okB true) styleB ns = false) := tree_not_node (k := 0) (by omega) HX.out (by show okN _ _ x = false; simp [okN, hz, hx0])
          have e1 := tx_not_nil hx0
          go_wp2
          go_ret
          exact ⟨ret_bool HF.out.symm, b2⟩
        have e1 := tx_nil hx0
        have R2 : w2.rangeAt wr.heap.size 2 (#[.int .i64 x.st.sh, .int .i64 x.st.fl, .int .i64 x.st.cl, .bool x.st.w.a, .bool x.st.w.p, .int .i64 x.st.w.n, .bool x.st.h.a, .bool x.st.h.p, .int .i64 x.st.h.n, .int .i64 x.st.mn, .int .i64 x.st.mx, .int .i64 x.st.mt, .bool x.st.mr.a, .bool x.st.mr.p, .int .i64 x.st.mr.n, .int .i64 x.st.mb, .bool x.st.ml.a, .bool x.st.ml.p, .int .i64 x.st.ml.n, .int .i64 x.st.bo, .int .i64 x.st.pa, .int .i64 x.st.wh, .int .i64 x.st.al, .int .i64 x.st.lh, .int .i64 x.st.ri, .int .i64 x.st.dn] : Array Value).toList := fun j v hj => (lies_cell l2.out (2 + j)).trans (by rw [← hj, show (#[.int .i64 x.st.sh, .int .i64 x.st.fl, .int .i64 x.st.cl, .bool x.st.w.a, .bool x.st.w.p, .int .i64 x.st.w.n, .bool x.st.h.a, .bool x.st.h.p, .int .i64 x.st.h.n, .int .i64 x.st.mn, .int .i64 x.st.mx, .int .i64 x.st.mt, .bool x.st.mr.a, .bool x.st.mr.p, .int .i64 x.st.mr.n, .int .i64 x.st.mb, .bool x.st.ml.a, .bool x.st.ml.p, .int .i64 x.st.ml.n, .int .i64 x.st.bo, .int .i64 x.st.pa, .int .i64 x.st.wh, .int .i64 x.st.al, .int .i64 x.st.lh, .int .i64 x.st.ri, .int .i64 x.st.dn] : Array Value).toList = (#[.int .i64 x.up, .string x.tx, .int .i64 x.st.sh, .int .i64 x.st.fl, .int .i64 x.st.cl, .bool x.st.w.a, .bool x.st.w.p, .int .i64 x.st.w.n, .bool x.st.h.a, .bool x.st.h.p, .int .i64 x.st.h.n, .int .i64 x.st.mn, .int .i64 x.st.mx, .int .i64 x.st.mt, .bool x.st.mr.a, .bool x.st.mr.p, .int .i64 x.st.mr.n, .int .i64 x.st.mb, .bool x.st.ml.a, .bool x.st.ml.p, .int .i64 x.st.ml.n, .int .i64 x.st.bo, .int .i64 x.st.pa, .int .i64 x.st.wh, .int .i64 x.st.al, .int .i64 x.st.lh, .int .i64 x.st.ri, .int .i64 x.st.dn] : Array Value).toList.drop 2 from rfl, List.getElem?_drop]; simp)
        cases hG : styleB x.st
        · have HF : Hid (treeB (okB true) styleB ns = false) := tree_not_node (k := 0) (by omega) HX.out (by show okN _ _ x = false; simp [okN, hz, hx0, hG])
          have GS := fun W => specGoodStyle_any x.st W
          rw [hG] at GS
          go_wp2_with (with_reducible show wpList _ _ _ (⟨some 102, Op.load 40 _, _, _, _, _⟩ :: _) _ _; refine wpList_load_midG ?qa1 40 _ rfl wr.heap.size 2 ?qb1 (#[.int .i64 x.st.sh, .int .i64 x.st.fl, .int .i64 x.st.cl, .bool x.st.w.a, .bool x.st.w.p, .int .i64 x.st.w.n, .bool x.st.h.a, .bool x.st.h.p, .int .i64 x.st.h.n, .int .i64 x.st.mn, .int .i64 x.st.mx, .int .i64 x.st.mt, .bool x.st.mr.a, .bool x.st.mr.p, .int .i64 x.st.mr.n, .int .i64 x.st.mb, .bool x.st.ml.a, .bool x.st.ml.p, .int .i64 x.st.ml.n, .int .i64 x.st.bo, .int .i64 x.st.pa, .int .i64 x.st.wh, .int .i64 x.st.al, .int .i64 x.st.lh, .int .i64 x.st.ri, .int .i64 x.st.dn] : Array Value).toList _ R2 Tryd.underlying40 rfl (by kernel_rfl) ?_)
          try (case qb1 => rfl)
          go_wp2_with fail
          refine (GS _).mono ?_
          rintro e w3 ⟨rfl, hb3⟩
          have b3 := b2.trans (hb3.mono b2.size)
          go_wp2
          go_ret
          exact ⟨ret_bool HF.out.symm, b3⟩
        · have HN : Hid (okN (okB true) styleB x = true) := by show okN _ _ x = true; simp [okN, hz, hx0, hG]
          have GS := fun W => specGoodStyle_any x.st W
          rw [hG] at GS
          go_wp2_with (with_reducible show wpList _ _ _ (⟨some 102, Op.load 40 _, _, _, _, _⟩ :: _) _ _; refine wpList_load_midG ?qa2 40 _ rfl wr.heap.size 2 ?qb2 (#[.int .i64 x.st.sh, .int .i64 x.st.fl, .int .i64 x.st.cl, .bool x.st.w.a, .bool x.st.w.p, .int .i64 x.st.w.n, .bool x.st.h.a, .bool x.st.h.p, .int .i64 x.st.h.n, .int .i64 x.st.mn, .int .i64 x.st.mx, .int .i64 x.st.mt, .bool x.st.mr.a, .bool x.st.mr.p, .int .i64 x.st.mr.n, .int .i64 x.st.mb, .bool x.st.ml.a, .bool x.st.ml.p, .int .i64 x.st.ml.n, .int .i64 x.st.bo, .int .i64 x.st.pa, .int .i64 x.st.wh, .int .i64 x.st.al, .int .i64 x.st.lh, .int .i64 x.st.ri, .int .i64 x.st.dn] : Array Value).toList _ R2 Tryd.underlying40 rfl (by kernel_rfl) ?_)
          try (case qb2 => rfl)
          go_wp2_with fail
          refine (GS _).mono ?_
          rintro e w3 ⟨rfl, hb3⟩
          have b3 := b2.trans (hb3.mono b2.size)
          clear hb3 R2 GS b2
          go_wp2
          go_roundw
          case rel => exact ⟨0 + 1, by omega, by go_num, snocB (f := okAt (okB true) styleB) HP.out (okAt_mk (by rw [okUp, if_pos rfl, HXu.out, HU.out, HXt.out, hz]; rfl) HX.out HN.out), b3⟩
          case measure => simp [intOf]; omega
      · have HF : Hid (treeB (okB true) styleB ns = false) := tree_not_up (k := 0) (by omega) (by rw [okUp, if_pos rfl, HXt.out, hz]; simp)
        go_wp2
        go_ret
        exact ⟨ret_bool HF.out.symm, b2⟩
    have hkp : 0 < k := by omega
    have hq0 : ((k : Int) == 0) = false := by simp; omega
    have hk1 : (0 : Int) < (k : Int) := by omega
    have IN := l1In_any x.up (-1) ((k : Int) - 1)
    by_cases hu : x.up = -1
    · have HF : Hid (treeB (okB true) styleB ns = false) := tree_not_up (k := k) (by omega) (okUp_far hkp HUp.out (by rw [HXu.out]; omega))
      go_wp2_with (first
        | (with_reducible show wpList _ _ _ (⟨some 19, Op.load 42 _, _, _, _, _⟩ :: _) _ _; refine wpList_load_mid rfl 42 _ rfl b (off + k * 28) rfl (ndL x) _ hr Tryd.underlying42 rfl (by kernel_rfl) ?_)
        | (with_reducible show wpList _ _ _ (⟨none, Op.store 42 _ _, _, _, _, _⟩ :: _) _ _; refine wpList_store_box rfl 42 _ _ rfl rfl (#[.int .i64 x.up, .string x.tx, .int .i64 x.st.sh, .int .i64 x.st.fl, .int .i64 x.st.cl, .bool x.st.w.a, .bool x.st.w.p, .int .i64 x.st.w.n, .bool x.st.h.a, .bool x.st.h.p, .int .i64 x.st.h.n, .int .i64 x.st.mn, .int .i64 x.st.mx, .int .i64 x.st.mt, .bool x.st.mr.a, .bool x.st.mr.p, .int .i64 x.st.mr.n, .int .i64 x.st.mb, .bool x.st.ml.a, .bool x.st.ml.p, .int .i64 x.st.ml.n, .int .i64 x.st.bo, .int .i64 x.st.pa, .int .i64 x.st.wh, .int .i64 x.st.al, .int .i64 x.st.lh, .int .i64 x.st.ri, .int .i64 x.st.dn]) rfl rfl (by kernel_rfl) rfl (by kernel_rfl) ?_; intro W bel l0 hsz; refine stay ?_))
      have hc0 : W.cell? ⟨wr.heap.size, 0, none⟩ = some (.int .i64 x.up) := (lies_cell l0 0).trans rfl
      have hc1 : W.cell? ⟨wr.heap.size, 1, none⟩ = some (.string x.tx) := (lies_cell l0 1).trans rfl
      have l0 : Hid (W.heap[wr.heap.size]? = some (.cells (#[.int .i64 x.up, .string x.tx, .int .i64 x.st.sh, .int .i64 x.st.fl, .int .i64 x.st.cl, .bool x.st.w.a, .bool x.st.w.p, .int .i64 x.st.w.n, .bool x.st.h.a, .bool x.st.h.p, .int .i64 x.st.h.n, .int .i64 x.st.mn, .int .i64 x.st.mx, .int .i64 x.st.mt, .bool x.st.mr.a, .bool x.st.mr.p, .int .i64 x.st.mr.n, .int .i64 x.st.mb, .bool x.st.ml.a, .bool x.st.ml.p, .int .i64 x.st.ml.n, .int .i64 x.st.bo, .int .i64 x.st.pa, .int .i64 x.st.wh, .int .i64 x.st.al, .int .i64 x.st.lh, .int .i64 x.st.ri, .int .i64 x.st.dn]) 42 (0, 0))) := l0
      have bW := hbw.trans (bel.mono hbw.size)
      have ltW : wr.heap.size < W.heap.size := by omega
      unfold Stay
      clear hr bel hbw
      rw [hu] at hc0
      clear TX HC IN
      go_wp2
      go_ret
      exact ⟨ret_bool HF.out.symm, bW⟩
    have hqu : (x.up == -1) = false := by simpa using hu
    by_cases hin : 0 ≤ x.up ∧ x.up < (k : Int)
    rotate_left
    · have HF : Hid (treeB (okB true) styleB ns = false) := tree_not_up (k := k) (by omega) (okUp_far hkp HUp.out (by rw [HXu.out]; exact hin))
      rw [show inB (-1) ((k : Int) - 1) x.up = false by simp [inB]; omega] at IN
      go_wp2_with (first
        | (with_reducible show wpList _ _ _ (⟨some 19, Op.load 42 _, _, _, _, _⟩ :: _) _ _; refine wpList_load_mid rfl 42 _ rfl b (off + k * 28) rfl (ndL x) _ hr Tryd.underlying42 rfl (by kernel_rfl) ?_)
        | (with_reducible show wpList _ _ _ (⟨none, Op.store 42 _ _, _, _, _, _⟩ :: _) _ _; refine wpList_store_box rfl 42 _ _ rfl rfl (#[.int .i64 x.up, .string x.tx, .int .i64 x.st.sh, .int .i64 x.st.fl, .int .i64 x.st.cl, .bool x.st.w.a, .bool x.st.w.p, .int .i64 x.st.w.n, .bool x.st.h.a, .bool x.st.h.p, .int .i64 x.st.h.n, .int .i64 x.st.mn, .int .i64 x.st.mx, .int .i64 x.st.mt, .bool x.st.mr.a, .bool x.st.mr.p, .int .i64 x.st.mr.n, .int .i64 x.st.mb, .bool x.st.ml.a, .bool x.st.ml.p, .int .i64 x.st.ml.n, .int .i64 x.st.bo, .int .i64 x.st.pa, .int .i64 x.st.wh, .int .i64 x.st.al, .int .i64 x.st.lh, .int .i64 x.st.ri, .int .i64 x.st.dn]) rfl rfl (by kernel_rfl) rfl (by kernel_rfl) ?_; intro W bel l0 hsz; refine stay ?_))
      have hc0 : W.cell? ⟨wr.heap.size, 0, none⟩ = some (.int .i64 x.up) := (lies_cell l0 0).trans rfl
      have hc1 : W.cell? ⟨wr.heap.size, 1, none⟩ = some (.string x.tx) := (lies_cell l0 1).trans rfl
      have l0 : Hid (W.heap[wr.heap.size]? = some (.cells (#[.int .i64 x.up, .string x.tx, .int .i64 x.st.sh, .int .i64 x.st.fl, .int .i64 x.st.cl, .bool x.st.w.a, .bool x.st.w.p, .int .i64 x.st.w.n, .bool x.st.h.a, .bool x.st.h.p, .int .i64 x.st.h.n, .int .i64 x.st.mn, .int .i64 x.st.mx, .int .i64 x.st.mt, .bool x.st.mr.a, .bool x.st.mr.p, .int .i64 x.st.mr.n, .int .i64 x.st.mb, .bool x.st.ml.a, .bool x.st.ml.p, .int .i64 x.st.ml.n, .int .i64 x.st.bo, .int .i64 x.st.pa, .int .i64 x.st.wh, .int .i64 x.st.al, .int .i64 x.st.lh, .int .i64 x.st.ri, .int .i64 x.st.dn]) 42 (0, 0))) := l0
      have bW := hbw.trans (bel.mono hbw.size)
      have ltW : wr.heap.size < W.heap.size := by omega
      unfold Stay
      clear hr bel hbw
      clear TX HC
      go_wp2_with (go_at_call 23; refine (IN _).mono ?_; rintro e w' ⟨rfl, hw⟩; have hw := hw.symm; subst hw)
      go_ret
      exact ⟨ret_bool HF.out.symm, bW⟩
    rw [show inB (-1) ((k : Int) - 1) x.up = true by simp [inB]; omega] at IN
    obtain ⟨u, hxu⟩ : ∃ u : Nat, x.up = (u : Int) := ⟨x.up.toNat, by omega⟩
    have hul : u < k := by omega
    have HE : Hid (upL ns k = (u : Int)) := by show upL ns k = _; rw [HXu.out, hxu]
    have HXU : Hid (x.up = (u : Int)) := hxu
    rw [hxu] at IN hqu
    have hcw := hbw
    clear hu hin
    go_wp2_with (first
      | (with_reducible show wpList _ _ _ (⟨some 19, Op.load 42 _, _, _, _, _⟩ :: _) _ _; refine wpList_load_mid rfl 42 _ rfl b (off + k * 28) rfl (ndL x) _ hr Tryd.underlying42 rfl (by kernel_rfl) ?_)
      | (with_reducible show wpList _ _ _ (⟨none, Op.store 42 _ _, _, _, _, _⟩ :: _) _ _; refine wpList_store_box rfl 42 _ _ rfl rfl (#[.int .i64 x.up, .string x.tx, .int .i64 x.st.sh, .int .i64 x.st.fl, .int .i64 x.st.cl, .bool x.st.w.a, .bool x.st.w.p, .int .i64 x.st.w.n, .bool x.st.h.a, .bool x.st.h.p, .int .i64 x.st.h.n, .int .i64 x.st.mn, .int .i64 x.st.mx, .int .i64 x.st.mt, .bool x.st.mr.a, .bool x.st.mr.p, .int .i64 x.st.mr.n, .int .i64 x.st.mb, .bool x.st.ml.a, .bool x.st.ml.p, .int .i64 x.st.ml.n, .int .i64 x.st.bo, .int .i64 x.st.pa, .int .i64 x.st.wh, .int .i64 x.st.al, .int .i64 x.st.lh, .int .i64 x.st.ri, .int .i64 x.st.dn]) rfl rfl (by kernel_rfl) rfl (by kernel_rfl) ?_; intro W bel l0 hsz; refine stay ?_))
    have hc0 : W.cell? ⟨wr.heap.size, 0, none⟩ = some (.int .i64 x.up) := (lies_cell l0 0).trans rfl
    have hc1 : W.cell? ⟨wr.heap.size, 1, none⟩ = some (.string x.tx) := (lies_cell l0 1).trans rfl
    have l0 : Hid (W.heap[wr.heap.size]? = some (.cells (#[.int .i64 x.up, .string x.tx, .int .i64 x.st.sh, .int .i64 x.st.fl, .int .i64 x.st.cl, .bool x.st.w.a, .bool x.st.w.p, .int .i64 x.st.w.n, .bool x.st.h.a, .bool x.st.h.p, .int .i64 x.st.h.n, .int .i64 x.st.mn, .int .i64 x.st.mx, .int .i64 x.st.mt, .bool x.st.mr.a, .bool x.st.mr.p, .int .i64 x.st.mr.n, .int .i64 x.st.mb, .bool x.st.ml.a, .bool x.st.ml.p, .int .i64 x.st.ml.n, .int .i64 x.st.bo, .int .i64 x.st.pa, .int .i64 x.st.wh, .int .i64 x.st.al, .int .i64 x.st.lh, .int .i64 x.st.ri, .int .i64 x.st.dn]) 42 (0, 0))) := l0
    have bW := hbw.trans (bel.mono hbw.size)
    have ltW : wr.heap.size < W.heap.size := by omega
    unfold Stay
    clear hr bel hbw
    rw [HXU.out] at hc0
    have CU : Hid (∀ v : Nat, v < n → W.cell? ⟨b, off + v * 28, none⟩ = some (.int .i64 (upL ns v))) := fun v hv => by
      obtain ⟨y, hy⟩ : ∃ y, ns[v]? = some y := ⟨_, List.getElem?_eq_getElem (by omega)⟩
      have h := range_below (HC.out v y hy) bW (range_lt (HC.out v y hy)) 0 _ rfl
      rw [Nat.add_zero] at h
      rw [h, upL, getD_of hy]
    have HST : Hid (∀ v, v < k → Stands ns v) := stands_of k HUp.out
    obtain ⟨y, hy⟩ : ∃ y, ns[u]? = some y := ⟨_, List.getElem?_eq_getElem (by omega)⟩
    have HRY : Hid (W.rangeAt b (off + u * 28) (ndL y)) := range_below (HC.out u y hy) bW (range_lt (HC.out u y hy))
    have HYt : Hid (isT ns u = zeroS y.st) := by show isT ns u = _; unfold isT; rw [getD_of hy]
    have TY := fun W => specIsText_any y W
    have hT0 : Hid (isT ns 0 = false) := by
      have h := HUp.out 0 hkp
      rw [okUp, if_pos rfl, Bool.and_eq_true] at h
      show isT ns 0 = false
      simpa using h.2
    have HLEN : Hid ((chainL ns u).length ≤ 41) := by have := chain_len ns u; show _ ≤ _; omega
    clear HC hy hcw
    go_wp2_with (go_at_call 23; refine (IN _).mono ?_; rintro e w' ⟨rfl, hw⟩; have hw := hw.symm; subst hw)
    clear IN hqu
    go_loop [6, 7] (fun q z => ∃ (qb : Bool) (zi : Int), q = .bool qb ∧ z = .int .i64 zi ∧ metI ns k u qb zi) (fun _ z => (intOf z + 1).toNat)
    case atStart => exact ⟨_, _, rfl, rfl, .inr (.inr ⟨rfl, k - 1, by omega, by omega, Iff.rfl⟩)⟩
    case round =>
      obtain ⟨qb, zi, rfl, rfl, hm⟩ := hrel
      rcases hm with ⟨rfl, hcin, z1, z2⟩ | ⟨rfl, rfl, hnin⟩ | ⟨rfl, v, hv, rfl, hiff⟩
      · have HIN : Hid ((u : Int) ∈ chainL ns (k - 1)) := hcin
        clear hcin
        by_cases hzn : 0 ≤ zi
        · skip
          go_wp2_with fail
          go_loop [5, 8] (fun d z => ∃ (di zi : Int), d = .int .i64 di ∧ z = .int .i64 zi ∧ cntI ns k u di zi) (fun _ z => (intOf z + 1).toNat)
          case atStart => exact ⟨_, _, rfl, rfl, .inr ⟨u, hul, rfl, by omega, rfl⟩⟩
          case round =>
            obtain ⟨di, zi2, rfl, rfl, hm⟩ := hrel
            rcases hm with ⟨rfl, hd⟩ | ⟨v2, hv2, rfl, hd1, hd⟩
            · have HD : Hid (di = 1 + ((chainL ns u).length : Int)) := hd
              clear hd
              by_cases h8 : (chainL ns u).length < 8
              rotate_left
              · have HF : Hid (treeB (okB true) styleB ns = false) := tree_not_up (k := k) (by omega) (okUp_not hkp HUp.out HE.out (fun h => h8 h.2.2))
                have hd8 : (8 : Int) < di := by have := HD.out; omega
                clear TX TY HRY
                go_wp2
                go_ret
                exact ⟨ret_bool HF.out.symm, bW⟩
              have hd8 : ¬ ((8 : Int) < di) := by have := HD.out; omega
              have hry := HRY.out
              have hun : (u : Int) < (n : Int) := by omega
              cases hzy : zeroS y.st
              rotate_left
              · have HF : Hid (treeB (okB true) styleB ns = false) := tree_not_up (k := k) (by omega) (okUp_not hkp HUp.out HE.out (fun h => by rw [HYt.out, hzy] at h; cases h.2.1))
                rw [hzy] at TY
                clear TX HRY
                go_wp2_with (with_reducible show wpList _ _ _ (⟨some 78, Op.load 42 _, _, _, _, _⟩ :: _) _ _; refine wpList_load_midG ?qa3 42 _ rfl b (off + u * 28) ?qb3 (ndL y) _ hry Tryd.underlying42 rfl (by kernel_rfl) ?_)
                try (case qb3 => rfl)
                go_wp2_with fail
                refine (TY _).mono ?_
                rintro e w1 ⟨rfl, hb1⟩
                have b1 := bW.trans (hb1.mono bW.size)
                have l1 : Hid (w1.heap[wr.heap.size]? = some (.cells (#[.int .i64 x.up, .string x.tx, .int .i64 x.st.sh, .int .i64 x.st.fl, .int .i64 x.st.cl, .bool x.st.w.a, .bool x.st.w.p, .int .i64 x.st.w.n, .bool x.st.h.a, .bool x.st.h.p, .int .i64 x.st.h.n, .int .i64 x.st.mn, .int .i64 x.st.mx, .int .i64 x.st.mt, .bool x.st.mr.a, .bool x.st.mr.p, .int .i64 x.st.mr.n, .int .i64 x.st.mb, .bool x.st.ml.a, .bool x.st.ml.p, .int .i64 x.st.ml.n, .int .i64 x.st.bo, .int .i64 x.st.pa, .int .i64 x.st.wh, .int .i64 x.st.al, .int .i64 x.st.lh, .int .i64 x.st.ri, .int .i64 x.st.dn]) 42 (0, 0))) := below_lies hb1 l0.out ltW
                clear hb1 bW l0 hc0 hc1
                go_wp2
                go_ret
                exact ⟨ret_bool HF.out.symm, b1⟩
              rw [hzy] at TY
              have HO : Hid (okUp ns k = true) := okUp_mk hkp hT0.out HUp.out hul HE.out HIN.out (HYt.out.trans hzy) h8
              clear HRY
              go_wp2_with (with_reducible show wpList _ _ _ (⟨some 78, Op.load 42 _, _, _, _, _⟩ :: _) _ _; refine wpList_load_midG ?qa4 42 _ rfl b (off + u * 28) ?qb4 (ndL y) _ hry Tryd.underlying42 rfl (by kernel_rfl) ?_)
              try (case qb4 => rfl)
              go_wp2_with fail
              refine (TY _).mono ?_
              rintro e w1 ⟨rfl, hb1⟩
              have b1 := bW.trans (hb1.mono bW.size)
              have l1 : Hid (w1.heap[wr.heap.size]? = some (.cells (#[.int .i64 x.up, .string x.tx, .int .i64 x.st.sh, .int .i64 x.st.fl, .int .i64 x.st.cl, .bool x.st.w.a, .bool x.st.w.p, .int .i64 x.st.w.n, .bool x.st.h.a, .bool x.st.h.p, .int .i64 x.st.h.n, .int .i64 x.st.mn, .int .i64 x.st.mx, .int .i64 x.st.mt, .bool x.st.mr.a, .bool x.st.mr.p, .int .i64 x.st.mr.n, .int .i64 x.st.mb, .bool x.st.ml.a, .bool x.st.ml.p, .int .i64 x.st.ml.n, .int .i64 x.st.bo, .int .i64 x.st.pa, .int .i64 x.st.wh, .int .i64 x.st.al, .int .i64 x.st.lh, .int .i64 x.st.ri, .int .i64 x.st.dn]) 42 (0, 0))) := below_lies hb1 l0.out ltW
              clear hb1 bW l0 hc0 hc1
              have rb := range_box l1.out
              go_wp2_with (with_reducible show wpList _ _ _ (⟨some 82, Op.load 42 _, _, _, _, _⟩ :: _) _ _; refine wpList_load_mid rfl 42 _ rfl wr.heap.size 0 rfl (ndL x) _ rb Tryd.underlying42 rfl (by kernel_rfl) ?_)
              refine (TX _).mono ?_
              rintro e w2 ⟨rfl, hb2⟩
              have b2 := b1.trans (hb2.mono b1.size)
              have l2 : Hid (w2.heap[wr.heap.size]? = some (.cells (#[.int .i64 x.up, .string x.tx, .int .i64 x.st.sh, .int .i64 x.st.fl, .int .i64 x.st.cl, .bool x.st.w.a, .bool x.st.w.p, .int .i64 x.st.w.n, .bool x.st.h.a, .bool x.st.h.p, .int .i64 x.st.h.n, .int .i64 x.st.mn, .int .i64 x.st.mx, .int .i64 x.st.mt, .bool x.st.mr.a, .bool x.st.mr.p, .int .i64 x.st.mr.n, .int .i64 x.st.mb, .bool x.st.ml.a, .bool x.st.ml.p, .int .i64 x.st.ml.n, .int .i64 x.st.bo, .int .i64 x.st.pa, .int .i64 x.st.wh, .int .i64 x.st.al, .int .i64 x.st.lh, .int .i64 x.st.ri, .int .i64 x.st.dn]) 42 (0, 0))) := below_lies hb2 l1.out (lies_lt l1.out)
              have hd1 : w2.cell? ⟨wr.heap.size, 1, none⟩ = some (.string x.tx) := (lies_cell l2.out 1).trans rfl
              clear hb2 b1 l1 rb
              cases hz : zeroS x.st
              · skip
                by_cases hx0 : x.tx.size = 0
                rotate_left
                · have HF : Hid (treeB (okB true) styleB ns = false) := tree_not_node (k := k) (by omega) HX.out (by show okN _ _ x = false; simp [okN, hz, hx0])
                  have e1 := tx_not_nil hx0
                  go_wp2
                  go_ret
                  exact ⟨ret_bool HF.out.symm, b2⟩
                have e1 := tx_nil hx0
                have R2 : w2.rangeAt wr.heap.size 2 (#[.int .i64 x.st.sh, .int .i64 x.st.fl, .int .i64 x.st.cl, .bool x.st.w.a, .bool x.st.w.p, .int .i64 x.st.w.n, .bool x.st.h.a, .bool x.st.h.p, .int .i64 x.st.h.n, .int .i64 x.st.mn, .int .i64 x.st.mx, .int .i64 x.st.mt, .bool x.st.mr.a, .bool x.st.mr.p, .int .i64 x.st.mr.n, .int .i64 x.st.mb, .bool x.st.ml.a, .bool x.st.ml.p, .int .i64 x.st.ml.n, .int .i64 x.st.bo, .int .i64 x.st.pa, .int .i64 x.st.wh, .int .i64 x.st.al, .int .i64 x.st.lh, .int .i64 x.st.ri, .int .i64 x.st.dn] : Array Value).toList := fun j v hj => (lies_cell l2.out (2 + j)).trans (by rw [← hj, show (#[.int .i64 x.st.sh, .int .i64 x.st.fl, .int .i64 x.st.cl, .bool x.st.w.a, .bool x.st.w.p, .int .i64 x.st.w.n, .bool x.st.h.a, .bool x.st.h.p, .int .i64 x.st.h.n, .int .i64 x.st.mn, .int .i64 x.st.mx, .int .i64 x.st.mt, .bool x.st.mr.a, .bool x.st.mr.p, .int .i64 x.st.mr.n, .int .i64 x.st.mb, .bool x.st.ml.a, .bool x.st.ml.p, .int .i64 x.st.ml.n, .int .i64 x.st.bo, .int .i64 x.st.pa, .int .i64 x.st.wh, .int .i64 x.st.al, .int .i64 x.st.lh, .int .i64 x.st.ri, .int .i64 x.st.dn] : Array Value).toList = (#[.int .i64 x.up, .string x.tx, .int .i64 x.st.sh, .int .i64 x.st.fl, .int .i64 x.st.cl, .bool x.st.w.a, .bool x.st.w.p, .int .i64 x.st.w.n, .bool x.st.h.a, .bool x.st.h.p, .int .i64 x.st.h.n, .int .i64 x.st.mn, .int .i64 x.st.mx, .int .i64 x.st.mt, .bool x.st.mr.a, .bool x.st.mr.p, .int .i64 x.st.mr.n, .int .i64 x.st.mb, .bool x.st.ml.a, .bool x.st.ml.p, .int .i64 x.st.ml.n, .int .i64 x.st.bo, .int .i64 x.st.pa, .int .i64 x.st.wh, .int .i64 x.st.al, .int .i64 x.st.lh, .int .i64 x.st.ri, .int .i64 x.st.dn] : Array Value).toList.drop 2 from rfl, List.getElem?_drop]; simp)
                cases hG : styleB x.st
                · have HF : Hid (treeB (okB true) styleB ns = false) := tree_not_node (k := k) (by omega) HX.out (by show okN _ _ x = false; simp [okN, hz, hx0, hG])
                  have GS := fun W => specGoodStyle_any x.st W
                  rw [hG] at GS
                  go_wp2_with (with_reducible show wpList _ _ _ (⟨some 102, Op.load 40 _, _, _, _, _⟩ :: _) _ _; refine wpList_load_midG ?qa5 40 _ rfl wr.heap.size 2 ?qb5 (#[.int .i64 x.st.sh, .int .i64 x.st.fl, .int .i64 x.st.cl, .bool x.st.w.a, .bool x.st.w.p, .int .i64 x.st.w.n, .bool x.st.h.a, .bool x.st.h.p, .int .i64 x.st.h.n, .int .i64 x.st.mn, .int .i64 x.st.mx, .int .i64 x.st.mt, .bool x.st.mr.a, .bool x.st.mr.p, .int .i64 x.st.mr.n, .int .i64 x.st.mb, .bool x.st.ml.a, .bool x.st.ml.p, .int .i64 x.st.ml.n, .int .i64 x.st.bo, .int .i64 x.st.pa, .int .i64 x.st.wh, .int .i64 x.st.al, .int .i64 x.st.lh, .int .i64 x.st.ri, .int .i64 x.st.dn] : Array Value).toList _ R2 Tryd.underlying40 rfl (by kernel_rfl) ?_)
                  try (case qb5 => rfl)
                  go_wp2_with fail
                  refine (GS _).mono ?_
                  rintro e w3 ⟨rfl, hb3⟩
                  have b3 := b2.trans (hb3.mono b2.size)
                  go_wp2
                  go_ret
                  exact ⟨ret_bool HF.out.symm, b3⟩
                · have HN : Hid (okN (okB true) styleB x = true) := by show okN _ _ x = true; simp [okN, hz, hx0, hG]
                  have GS := fun W => specGoodStyle_any x.st W
                  rw [hG] at GS
                  go_wp2_with (with_reducible show wpList _ _ _ (⟨some 102, Op.load 40 _, _, _, _, _⟩ :: _) _ _; refine wpList_load_midG ?qa6 40 _ rfl wr.heap.size 2 ?qb6 (#[.int .i64 x.st.sh, .int .i64 x.st.fl, .int .i64 x.st.cl, .bool x.st.w.a, .bool x.st.w.p, .int .i64 x.st.w.n, .bool x.st.h.a, .bool x.st.h.p, .int .i64 x.st.h.n, .int .i64 x.st.mn, .int .i64 x.st.mx, .int .i64 x.st.mt, .bool x.st.mr.a, .bool x.st.mr.p, .int .i64 x.st.mr.n, .int .i64 x.st.mb, .bool x.st.ml.a, .bool x.st.ml.p, .int .i64 x.st.ml.n, .int .i64 x.st.bo, .int .i64 x.st.pa, .int .i64 x.st.wh, .int .i64 x.st.al, .int .i64 x.st.lh, .int .i64 x.st.ri, .int .i64 x.st.dn] : Array Value).toList _ R2 Tryd.underlying40 rfl (by kernel_rfl) ?_)
                  try (case qb6 => rfl)
                  go_wp2_with fail
                  refine (GS _).mono ?_
                  rintro e w3 ⟨rfl, hb3⟩
                  have b3 := b2.trans (hb3.mono b2.size)
                  clear hb3 R2 GS b2
                  go_wp2
                  go_roundw
                  case rel => exact ⟨k + 1, by omega, by go_num, snocB (f := okAt (okB true) styleB) HP.out (okAt_mk HO.out HX.out HN.out), b3⟩
                  case measure => simp [intOf]; omega
              · by_cases hx0 : x.tx.size = 0
                · have HF : Hid (treeB (okB true) styleB ns = false) := tree_not_node (k := k) (by omega) HX.out (by show okN _ _ x = false; simp [okN, hz, hx0])
                  have e1 := tx_nil hx0
                  go_wp2
                  go_ret
                  exact ⟨ret_bool HF.out.symm, b2⟩
                have e1 := tx_not_nil hx0
                have e2 : x.tx.toList.isEmpty = false := by simpa using e1
                have PT := fun W => spec3Text_any true x.tx W hxs
                cases hG : okB true x.tx
                · have HF : Hid (treeB (okB true) styleB ns = false) := tree_not_node (k := k) (by omega) HX.out (by show okN _ _ x = false; simp [okN, hz, hG])
                  rw [hG] at PT
                  go_wp2_with (go_at_call 24; refine (PT _).mono ?_; rintro e w' ⟨rfl, hw⟩; have hw := hw.symm; subst hw)
                  go_ret
                  exact ⟨ret_bool HF.out.symm, b2⟩
                · have HN : Hid (okN (okB true) styleB x = true) := by show okN _ _ x = true; simp [okN, hz, hx0, hG]
                  rw [hG] at PT
                  go_wp2_with (go_at_call 24; refine (PT _).mono ?_; rintro e w' ⟨rfl, hw⟩; have hw := hw.symm; subst hw)
                  go_roundw
                  case rel => exact ⟨k + 1, by omega, by go_num, snocB (f := okAt (okB true) styleB) HP.out (okAt_mk HO.out HX.out HN.out), b2⟩
                  case measure => simp [intOf]; omega
            · have HD : Hid (di + ((chainL ns v2).length : Int) = 1 + ((chainL ns u).length : Int)) := hd
              have hdl : di ≤ 43 := by have := HLEN.out; omega
              have cv2 := CU.out v2 (by omega)
              have st2 := HST.out v2 hv2
              have ub2 := up_bound st2
              have HM : Hid (cntI ns k u (di + 1) (upL ns v2)) := cntI_step hv2 st2 hd1 HD.out
              obtain ⟨pu2, hpu2⟩ : ∃ pu, pu = upL ns v2 := ⟨_, rfl⟩
              rw [← hpu2] at cv2 ub2 HM
              have hv20 : (0 : Int) ≤ (v2 : Int) := by omega
              have hv2n : (v2 : Int) < (n : Int) := by omega
              clear hd st2 hpu2
              go_wp2
              go_round
              case rel => exact ⟨_, _, rfl, rfl, HM.out⟩
              case measure => simp [intOf]; omega
        · skip
          go_wp2_with fail
          go_loop [5, 8] (fun d z => ∃ (di zi : Int), d = .int .i64 di ∧ z = .int .i64 zi ∧ cntI ns k u di zi) (fun _ z => (intOf z + 1).toNat)
          case atStart => exact ⟨_, _, rfl, rfl, .inr ⟨u, hul, rfl, by omega, rfl⟩⟩
          case round =>
            obtain ⟨di, zi2, rfl, rfl, hm⟩ := hrel
            rcases hm with ⟨rfl, hd⟩ | ⟨v2, hv2, rfl, hd1, hd⟩
            · have HD : Hid (di = 1 + ((chainL ns u).length : Int)) := hd
              clear hd
              by_cases h8 : (chainL ns u).length < 8
              rotate_left
              · have HF : Hid (treeB (okB true) styleB ns = false) := tree_not_up (k := k) (by omega) (okUp_not hkp HUp.out HE.out (fun h => h8 h.2.2))
                have hd8 : (8 : Int) < di := by have := HD.out; omega
                clear TX TY HRY
                go_wp2
                go_ret
                exact ⟨ret_bool HF.out.symm, bW⟩
              have hd8 : ¬ ((8 : Int) < di) := by have := HD.out; omega
              have hry := HRY.out
              have hun : (u : Int) < (n : Int) := by omega
              cases hzy : zeroS y.st
              rotate_left
              · have HF : Hid (treeB (okB true) styleB ns = false) := tree_not_up (k := k) (by omega) (okUp_not hkp HUp.out HE.out (fun h => by rw [HYt.out, hzy] at h; cases h.2.1))
                rw [hzy] at TY
                clear TX HRY
                go_wp2_with (with_reducible show wpList _ _ _ (⟨some 78, Op.load 42 _, _, _, _, _⟩ :: _) _ _; refine wpList_load_midG ?qa7 42 _ rfl b (off + u * 28) ?qb7 (ndL y) _ hry Tryd.underlying42 rfl (by kernel_rfl) ?_)
                try (case qb7 => rfl)
                go_wp2_with fail
                refine (TY _).mono ?_
                rintro e w1 ⟨rfl, hb1⟩
                have b1 := bW.trans (hb1.mono bW.size)
                have l1 : Hid (w1.heap[wr.heap.size]? = some (.cells (#[.int .i64 x.up, .string x.tx, .int .i64 x.st.sh, .int .i64 x.st.fl, .int .i64 x.st.cl, .bool x.st.w.a, .bool x.st.w.p, .int .i64 x.st.w.n, .bool x.st.h.a, .bool x.st.h.p, .int .i64 x.st.h.n, .int .i64 x.st.mn, .int .i64 x.st.mx, .int .i64 x.st.mt, .bool x.st.mr.a, .bool x.st.mr.p, .int .i64 x.st.mr.n, .int .i64 x.st.mb, .bool x.st.ml.a, .bool x.st.ml.p, .int .i64 x.st.ml.n, .int .i64 x.st.bo, .int .i64 x.st.pa, .int .i64 x.st.wh, .int .i64 x.st.al, .int .i64 x.st.lh, .int .i64 x.st.ri, .int .i64 x.st.dn]) 42 (0, 0))) := below_lies hb1 l0.out ltW
                clear hb1 bW l0 hc0 hc1
                go_wp2
                go_ret
                exact ⟨ret_bool HF.out.symm, b1⟩
              rw [hzy] at TY
              have HO : Hid (okUp ns k = true) := okUp_mk hkp hT0.out HUp.out hul HE.out HIN.out (HYt.out.trans hzy) h8
              clear HRY
              go_wp2_with (with_reducible show wpList _ _ _ (⟨some 78, Op.load 42 _, _, _, _, _⟩ :: _) _ _; refine wpList_load_midG ?qa8 42 _ rfl b (off + u * 28) ?qb8 (ndL y) _ hry Tryd.underlying42 rfl (by kernel_rfl) ?_)
              try (case qb8 => rfl)
              go_wp2_with fail
              refine (TY _).mono ?_
              rintro e w1 ⟨rfl, hb1⟩
              have b1 := bW.trans (hb1.mono bW.size)
              have l1 : Hid (w1.heap[wr.heap.size]? = some (.cells (#[.int .i64 x.up, .string x.tx, .int .i64 x.st.sh, .int .i64 x.st.fl, .int .i64 x.st.cl, .bool x.st.w.a, .bool x.st.w.p, .int .i64 x.st.w.n, .bool x.st.h.a, .bool x.st.h.p, .int .i64 x.st.h.n, .int .i64 x.st.mn, .int .i64 x.st.mx, .int .i64 x.st.mt, .bool x.st.mr.a, .bool x.st.mr.p, .int .i64 x.st.mr.n, .int .i64 x.st.mb, .bool x.st.ml.a, .bool x.st.ml.p, .int .i64 x.st.ml.n, .int .i64 x.st.bo, .int .i64 x.st.pa, .int .i64 x.st.wh, .int .i64 x.st.al, .int .i64 x.st.lh, .int .i64 x.st.ri, .int .i64 x.st.dn]) 42 (0, 0))) := below_lies hb1 l0.out ltW
              clear hb1 bW l0 hc0 hc1
              have rb := range_box l1.out
              go_wp2_with (with_reducible show wpList _ _ _ (⟨some 82, Op.load 42 _, _, _, _, _⟩ :: _) _ _; refine wpList_load_mid rfl 42 _ rfl wr.heap.size 0 rfl (ndL x) _ rb Tryd.underlying42 rfl (by kernel_rfl) ?_)
              refine (TX _).mono ?_
              rintro e w2 ⟨rfl, hb2⟩
              have b2 := b1.trans (hb2.mono b1.size)
              have l2 : Hid (w2.heap[wr.heap.size]? = some (.cells (#[.int .i64 x.up, .string x.tx, .int .i64 x.st.sh, .int .i64 x.st.fl, .int .i64 x.st.cl, .bool x.st.w.a, .bool x.st.w.p, .int .i64 x.st.w.n, .bool x.st.h.a, .bool x.st.h.p, .int .i64 x.st.h.n, .int .i64 x.st.mn, .int .i64 x.st.mx, .int .i64 x.st.mt, .bool x.st.mr.a, .bool x.st.mr.p, .int .i64 x.st.mr.n, .int .i64 x.st.mb, .bool x.st.ml.a, .bool x.st.ml.p, .int .i64 x.st.ml.n, .int .i64 x.st.bo, .int .i64 x.st.pa, .int .i64 x.st.wh, .int .i64 x.st.al, .int .i64 x.st.lh, .int .i64 x.st.ri, .int .i64 x.st.dn]) 42 (0, 0))) := below_lies hb2 l1.out (lies_lt l1.out)
              have hd1 : w2.cell? ⟨wr.heap.size, 1, none⟩ = some (.string x.tx) := (lies_cell l2.out 1).trans rfl
              clear hb2 b1 l1 rb
              cases hz : zeroS x.st
              · skip
                by_cases hx0 : x.tx.size = 0
                rotate_left
                · have HF : Hid (treeB (okB true) styleB ns = false) := tree_not_node (k := k) (by omega) HX.out (by show okN _ _ x = false; simp [okN, hz, hx0])
                  have e1 := tx_not_nil hx0
                  go_wp2
                  go_ret
                  exact ⟨ret_bool HF.out.symm, b2⟩
                have e1 := tx_nil hx0
                have R2 : w2.rangeAt wr.heap.size 2 (#[.int .i64 x.st.sh, .int .i64 x.st.fl, .int .i64 x.st.cl, .bool x.st.w.a, .bool x.st.w.p, .int .i64 x.st.w.n, .bool x.st.h.a, .bool x.st.h.p, .int .i64 x.st.h.n, .int .i64 x.st.mn, .int .i64 x.st.mx, .int .i64 x.st.mt, .bool x.st.mr.a, .bool x.st.mr.p, .int .i64 x.st.mr.n, .int .i64 x.st.mb, .bool x.st.ml.a, .bool x.st.ml.p, .int .i64 x.st.ml.n, .int .i64 x.st.bo, .int .i64 x.st.pa, .int .i64 x.st.wh, .int .i64 x.st.al, .int .i64 x.st.lh, .int .i64 x.st.ri, .int .i64 x.st.dn] : Array Value).toList := fun j v hj => (lies_cell l2.out (2 + j)).trans (by rw [← hj, show (#[.int .i64 x.st.sh, .int .i64 x.st.fl, .int .i64 x.st.cl, .bool x.st.w.a, .bool x.st.w.p, .int .i64 x.st.w.n, .bool x.st.h.a, .bool x.st.h.p, .int .i64 x.st.h.n, .int .i64 x.st.mn, .int .i64 x.st.mx, .int .i64 x.st.mt, .bool x.st.mr.a, .bool x.st.mr.p, .int .i64 x.st.mr.n, .int .i64 x.st.mb, .bool x.st.ml.a, .bool x.st.ml.p, .int .i64 x.st.ml.n, .int .i64 x.st.bo, .int .i64 x.st.pa, .int .i64 x.st.wh, .int .i64 x.st.al, .int .i64 x.st.lh, .int .i64 x.st.ri, .int .i64 x.st.dn] : Array Value).toList = (#[.int .i64 x.up, .string x.tx, .int .i64 x.st.sh, .int .i64 x.st.fl, .int .i64 x.st.cl, .bool x.st.w.a, .bool x.st.w.p, .int .i64 x.st.w.n, .bool x.st.h.a, .bool x.st.h.p, .int .i64 x.st.h.n, .int .i64 x.st.mn, .int .i64 x.st.mx, .int .i64 x.st.mt, .bool x.st.mr.a, .bool x.st.mr.p, .int .i64 x.st.mr.n, .int .i64 x.st.mb, .bool x.st.ml.a, .bool x.st.ml.p, .int .i64 x.st.ml.n, .int .i64 x.st.bo, .int .i64 x.st.pa, .int .i64 x.st.wh, .int .i64 x.st.al, .int .i64 x.st.lh, .int .i64 x.st.ri, .int .i64 x.st.dn] : Array Value).toList.drop 2 from rfl, List.getElem?_drop]; simp)
                cases hG : styleB x.st
                · have HF : Hid (treeB (okB true) styleB ns = false) := tree_not_node (k := k) (by omega) HX.out (by show okN _ _ x = false; simp [okN, hz, hx0, hG])
                  have GS := fun W => specGoodStyle_any x.st W
                  rw [hG] at GS
                  go_wp2_with (with_reducible show wpList _ _ _ (⟨some 102, Op.load 40 _, _, _, _, _⟩ :: _) _ _; refine wpList_load_midG ?qa9 40 _ rfl wr.heap.size 2 ?qb9 (#[.int .i64 x.st.sh, .int .i64 x.st.fl, .int .i64 x.st.cl, .bool x.st.w.a, .bool x.st.w.p, .int .i64 x.st.w.n, .bool x.st.h.a, .bool x.st.h.p, .int .i64 x.st.h.n, .int .i64 x.st.mn, .int .i64 x.st.mx, .int .i64 x.st.mt, .bool x.st.mr.a, .bool x.st.mr.p, .int .i64 x.st.mr.n, .int .i64 x.st.mb, .bool x.st.ml.a, .bool x.st.ml.p, .int .i64 x.st.ml.n, .int .i64 x.st.bo, .int .i64 x.st.pa, .int .i64 x.st.wh, .int .i64 x.st.al, .int .i64 x.st.lh, .int .i64 x.st.ri, .int .i64 x.st.dn] : Array Value).toList _ R2 Tryd.underlying40 rfl (by kernel_rfl) ?_)
                  try (case qb9 => rfl)
                  go_wp2_with fail
                  refine (GS _).mono ?_
                  rintro e w3 ⟨rfl, hb3⟩
                  have b3 := b2.trans (hb3.mono b2.size)
                  go_wp2
                  go_ret
                  exact ⟨ret_bool HF.out.symm, b3⟩
                · have HN : Hid (okN (okB true) styleB x = true) := by show okN _ _ x = true; simp [okN, hz, hx0, hG]
                  have GS := fun W => specGoodStyle_any x.st W
                  rw [hG] at GS
                  go_wp2_with (with_reducible show wpList _ _ _ (⟨some 102, Op.load 40 _, _, _, _, _⟩ :: _) _ _; refine wpList_load_midG ?qa10 40 _ rfl wr.heap.size 2 ?qb10 (#[.int .i64 x.st.sh, .int .i64 x.st.fl, .int .i64 x.st.cl, .bool x.st.w.a, .bool x.st.w.p, .int .i64 x.st.w.n, .bool x.st.h.a, .bool x.st.h.p, .int .i64 x.st.h.n, .int .i64 x.st.mn, .int .i64 x.st.mx, .int .i64 x.st.mt, .bool x.st.mr.a, .bool x.st.mr.p, .int .i64 x.st.mr.n, .int .i64 x.st.mb, .bool x.st.ml.a, .bool x.st.ml.p, .int .i64 x.st.ml.n, .int .i64 x.st.bo, .int .i64 x.st.pa, .int .i64 x.st.wh, .int .i64 x.st.al, .int .i64 x.st.lh, .int .i64 x.st.ri, .int .i64 x.st.dn] : Array Value).toList _ R2 Tryd.underlying40 rfl (by kernel_rfl) ?_)
                  try (case qb10 => rfl)
                  go_wp2_with fail
                  refine (GS _).mono ?_
                  rintro e w3 ⟨rfl, hb3⟩
                  have b3 := b2.trans (hb3.mono b2.size)
                  clear hb3 R2 GS b2
                  go_wp2
                  go_roundw
                  case rel => exact ⟨k + 1, by omega, by go_num, snocB (f := okAt (okB true) styleB) HP.out (okAt_mk HO.out HX.out HN.out), b3⟩
                  case measure => simp [intOf]; omega
              · by_cases hx0 : x.tx.size = 0
                · have HF : Hid (treeB (okB true) styleB ns = false) := tree_not_node (k := k) (by omega) HX.out (by show okN _ _ x = false; simp [okN, hz, hx0])
                  have e1 := tx_nil hx0
                  go_wp2
                  go_ret
                  exact ⟨ret_bool HF.out.symm, b2⟩
                have e1 := tx_not_nil hx0
                have e2 : x.tx.toList.isEmpty = false := by simpa using e1
                have PT := fun W => spec3Text_any true x.tx W hxs
                cases hG : okB true x.tx
                · have HF : Hid (treeB (okB true) styleB ns = false) := tree_not_node (k := k) (by omega) HX.out (by show okN _ _ x = false; simp [okN, hz, hG])
                  rw [hG] at PT
                  go_wp2_with (go_at_call 24; refine (PT _).mono ?_; rintro e w' ⟨rfl, hw⟩; have hw := hw.symm; subst hw)
                  go_ret
                  exact ⟨ret_bool HF.out.symm, b2⟩
                · have HN : Hid (okN (okB true) styleB x = true) := by show okN _ _ x = true; simp [okN, hz, hx0, hG]
                  rw [hG] at PT
                  go_wp2_with (go_at_call 24; refine (PT _).mono ?_; rintro e w' ⟨rfl, hw⟩; have hw := hw.symm; subst hw)
                  go_roundw
                  case rel => exact ⟨k + 1, by omega, by go_num, snocB (f := okAt (okB true) styleB) HP.out (okAt_mk HO.out HX.out HN.out), b2⟩
                  case measure => simp [intOf]; omega
            · have HD : Hid (di + ((chainL ns v2).length : Int) = 1 + ((chainL ns u).length : Int)) := hd
              have hdl : di ≤ 43 := by have := HLEN.out; omega
              have cv2 := CU.out v2 (by omega)
              have st2 := HST.out v2 hv2
              have ub2 := up_bound st2
              have HM : Hid (cntI ns k u (di + 1) (upL ns v2)) := cntI_step hv2 st2 hd1 HD.out
              obtain ⟨pu2, hpu2⟩ : ∃ pu, pu = upL ns v2 := ⟨_, rfl⟩
              rw [← hpu2] at cv2 ub2 HM
              have hv20 : (0 : Int) ≤ (v2 : Int) := by omega
              have hv2n : (v2 : Int) < (n : Int) := by omega
              clear hd st2 hpu2
              go_wp2
              go_round
              case rel => exact ⟨_, _, rfl, rfl, HM.out⟩
              case measure => simp [intOf]; omega
      · have HF : Hid (treeB (okB true) styleB ns = false) := tree_not_up (k := k) (by omega) (okUp_not hkp HUp.out HE.out (fun h => hnin h.1))
        clear hnin TX TY HRY
        go_wp2_with fail
        go_loop [5, 8] (fun d z => ∃ (di zi : Int), d = .int .i64 di ∧ z = .int .i64 zi ∧ cntI ns k u di zi) (fun _ z => (intOf z + 1).toNat)
        case atStart => exact ⟨_, _, rfl, rfl, .inr ⟨u, hul, rfl, by omega, rfl⟩⟩
        case round =>
          obtain ⟨di, zi2, rfl, rfl, hm⟩ := hrel
          rcases hm with ⟨rfl, hd⟩ | ⟨v2, hv2, rfl, hd1, hd⟩
          · clear hd
            go_wp2
            go_ret
            exact ⟨ret_bool HF.out.symm, bW⟩
          · have HD : Hid (di + ((chainL ns v2).length : Int) = 1 + ((chainL ns u).length : Int)) := hd
            have hdl : di ≤ 43 := by have := HLEN.out; omega
            have cv2 := CU.out v2 (by omega)
            have st2 := HST.out v2 hv2
            have ub2 := up_bound st2
            have HM : Hid (cntI ns k u (di + 1) (upL ns v2)) := cntI_step hv2 st2 hd1 HD.out
            obtain ⟨pu2, hpu2⟩ : ∃ pu, pu = upL ns v2 := ⟨_, rfl⟩
            rw [← hpu2] at cv2 ub2 HM
            have hv20 : (0 : Int) ≤ (v2 : Int) := by omega
            have hv2n : (v2 : Int) < (n : Int) := by omega
            clear hd st2 hpu2
            go_wp2
            go_round
            case rel => exact ⟨_, _, rfl, rfl, HM.out⟩
            case measure => simp [intOf]; omega
      · have HIFF : Hid ((u : Int) ∈ chainL ns (k - 1) ↔ (u : Int) ∈ chainL ns v) := hiff
        have cv := CU.out v (by omega)
        have st := HST.out v hv
        have ub := up_bound st
        have HSt : Hid (Stands ns v) := st
        have hv0 : (0 : Int) ≤ (v : Int) := by omega
        have hvn : (v : Int) < (n : Int) := by omega
        obtain ⟨pu, hpu⟩ : ∃ pu, pu = upL ns v := ⟨_, rfl⟩
        rw [← hpu] at cv ub
        have HPU : Hid (pu = upL ns v) := hpu
        clear hiff st hpu TX TY HRY
        by_cases huv : v = u
        · have huv := huv.symm
          subst huv
          have HM : Hid (metI ns k u true pu) := metI_hit HIFF.out (by omega) (by omega)
          go_wp2
          go_round
          case rel => exact ⟨_, _, rfl, rfl, HM.out⟩
          case measure => simp [intOf]; omega
        · have hqv : ((v : Int) == (u : Int)) = false := by simp; omega
          have HM : Hid (metI ns k u false pu) := by rw [HPU.out]; exact metI_step hv HSt.out HIFF.out (fun e => huv e.symm)
          go_wp2
          go_round
          case rel => exact ⟨_, _, rfl, rfl, HM.out⟩
          case measure => simp [intOf]; omega

set_option maxHeartbeats 2000000 in
theorem specTree_len (a : Option Addr) (n cap : Nat) (w : World) (h : ¬ (1 ≤ n ∧ n ≤ 40)) (hl : n ≤ 1048576) :
    Calls Tryd.prog 10 #[.slice a n cap] w fun e w' => e = .returned (.bool false) ∧ Below w.heap.size w w' := by
  have IN := l1In_any (n : Int) 1 40
  rw [show inB 1 40 (n : Int) = false by simp [inB]; omega] at IN
  go_enter Tryd.func10, Tryd.ntmps10
  go_wp2_with (go_at_call 23; refine (IN _).mono ?_; rintro e w' ⟨rfl, hw⟩; have hw := hw.symm; subst hw)
  go_ret
  exact ⟨rfl, Below.refl _ _⟩
theorem specTree_any (a : Option Addr) (cap : Nat) (ns : List Nd) (w : World) (hr : NdRow w a ns) (hl : ns.length ≤ 1048576) (hs : ∀ x ∈ ns, x.tx.size ≤ 1048576) :
    Calls Tryd.prog 10 #[.slice a ns.length cap] w fun e w' => e = .returned (.bool (treeB (okB true) styleB ns)) ∧ Below w.heap.size w w' := by
  by_cases hlen : 1 ≤ ns.length ∧ ns.length ≤ 40
  · obtain ⟨b, off, rfl, hc⟩ : ∃ b off, a = some ⟨b, off, none⟩ ∧ ∀ i n, ns[i]? = some n → w.rangeAt b (off + i * 28) (ndL n) := by
      rcases hr with h | h
      · rw [h] at hlen; simp at hlen
      · exact h
    exact specTree_loop b off _ cap ns w rfl hlen.1 hlen.2 hs hc
  · rw [treeB_len hlen]
    exact specTree_len a _ cap w hlen hl
end Go.Proofs.YtddnphgpdnedbaaDoor
