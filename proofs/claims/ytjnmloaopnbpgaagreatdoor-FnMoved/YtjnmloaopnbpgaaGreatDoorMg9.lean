/-
 The program's GoodTree, for every row of nodes: it says just what treeB says.
 The program's GoodTree, for every row of nodes: its first tests, and the whole.
 The model's GoodTree, for every row of nodes: it says just what treeB says.
 The model's GoodStyle, for every style: behind its first test.
-/
import Derived.Test.YtjnmloaopnbpgaaGreatDoorMg8
namespace Go.Proofs.YtjnmloaopnbpgaaGreatDoor
open Go.ChangeShapes Go.WideShapes Go.ChangeAt Go.RowKit
set_option linter.unusedVariables false
theorem range_box {W:World} {g:Nat} {x:Nd} (l0:W.heap[g]? = some (.cells (#[.int .i64 x.up,.string x.tx,.int .i64 x.st.sh,.int .i64 x.st.fl,.int .i64 x.st.cl,.bool x.st.w.a,.bool x.st.w.p,.int .i64 x.st.w.n,.bool x.st.h.a,.bool x.st.h.p,.int .i64 x.st.h.n,.int .i64 x.st.mn,.int .i64 x.st.mx,.int .i64 x.st.mt,.bool x.st.mr.a,.bool x.st.mr.p,.int .i64 x.st.mr.n,.int .i64 x.st.mb,.bool x.st.ml.a,.bool x.st.ml.p,.int .i64 x.st.ml.n,.int .i64 x.st.bo,.int .i64 x.st.pa,.int .i64 x.st.wh,.int .i64 x.st.al,.int .i64 x.st.lh,.int .i64 x.st.ri,.int .i64 x.st.dn]) 75 (0,0))):W.rangeAt g 0 (ndL x):=fun j v hj=>(lies_cell l0 (0 + j)).trans (by rw [← hj,Nat.zero_add];show (ndL x).toArray[j]? = _;simp)
theorem goodNode_b {n:Nd} {r:Bool} {w:World} (hr:okN (okB true) styleB n = r) (hs:n.tx.size ≤ maxLen) (et:TypeId) (ev:Value) (he:w.cell? ⟨0,0,none⟩ = some (.iface et ev)) :
  Calls Tryz.prog 66 #[.agg #[.int .i64 n.up,.string n.tx,.int .i64 n.st.sh,.int .i64 n.st.fl,.int .i64 n.st.cl,.bool n.st.w.a,.bool n.st.w.p,.int .i64 n.st.w.n,.bool n.st.h.a,.bool n.st.h.p,.int .i64 n.st.h.n,.int .i64 n.st.mn,.int .i64 n.st.mx,.int .i64 n.st.mt,.bool n.st.mr.a,.bool n.st.mr.p,.int .i64 n.st.mr.n,.int .i64 n.st.mb,.bool n.st.ml.a,.bool n.st.ml.p,.int .i64 n.st.ml.n,.int .i64 n.st.bo,.int .i64 n.st.pa,.int .i64 n.st.wh,.int .i64 n.st.al,.int .i64 n.st.lh,.int .i64 n.st.ri,.int .i64 n.st.dn]] w fun e w'=>e = .returned (.bool r) ∧ Below w.heap.size w w':=by
 rw [← hr]
 exact goodNode_any n w hs et ev he
set_option maxRecDepth 100000 in
set_option maxHeartbeats 8000000 in
theorem implTree_loop (b off n cap:Nat) (ns:List Nd) (w:World) (hn:ns.length = n) (h1:1 ≤ n) (h40:n ≤ 40) (hs:∀ x ∈ ns,x.tx.size ≤ 1048576)
  (hc:∀ i x,ns[i]? = some x → w.rangeAt b (off + i * 28) (ndL x)) (hT0:isT ns 0 = false) (hU0:upL ns 0 = -1)
  (et:TypeId) (ev:Value) (he:w.cell? ⟨0,0,none⟩ = some (.iface et ev)) :
  Calls Tryz.prog 40 #[.slice (some ⟨b,off,none⟩) n cap] w fun e w'=>e = .returned (.bool (treeB (okB true) styleB ns)) ∧ Below w.heap.size w w':=by
 have lte:0 < w.heap.size:=World.block_lt_of_cell? _ ⟨0,0,none⟩ he
 obtain ⟨i0,hi,hz0,hz1,hz2⟩:=info_parts Tryz.infoInt
 obtain ⟨x0,hx0⟩:∃ x,ns[0]? = some x:=⟨_,List.getElem?_eq_getElem (by omega)⟩
 have hr0:=hc 0 x0 hx0
 rw [Nat.zero_mul,Nat.add_zero] at hr0
 have hu0:w.cell? ⟨b,off,none⟩ = some (.int .i64 (-1)):=by
  have:=hr0 0 _ rfl
  rw [Nat.add_zero] at this
  rw [this]
  unfold upL at hU0
  rw [getD_of hx0] at hU0
  rw [hU0]
 have T0:=implIsText_any x0
 have hzx:zeroS x0.st = false:=by unfold isT at hT0;rw [getD_of hx0] at hT0;exact hT0
 rw [hzx] at T0
 have HC:Hid (∀ i x,ns[i]? = some x → w.rangeAt b (off + i * 28) (ndL x)):=hc
 have HE:Hid (w.cell? ⟨0,0,none⟩ = some (.iface et ev)):=he
 have HU:Hid (upL ns 0 = -1):=hU0
 have HT:Hid (isT ns 0 = false):=hT0
 have HS:Hid (∀ x ∈ ns,x.tx.size ≤ 1048576):=hs
 have hlb:=range_lt hr0
 clear hc he hU0 hT0 hs hzx hx0
 have g1:¬ ((n:Int) < 1):=by omega
 have g2:¬ ((40:Int) < (n:Int)):=by omega
 have g3:(0:Int) < (n:Int):=by omega
 go_enter Tryz.func40,Tryz.ntmps40
 go_wp2_with (with_reducible show wpList _ _ _ (⟨some 18,Op.load 75 _,_,_,_,_⟩ :: _) _ _;refine wpList_load_midG ?qa1 75 _ rfl b off ?qb1 (ndL x0) _ hr0 Tryz.underlying75 rfl (by kernel_rfl) ?_)
 refine (T0 _).mono ?_
 rintro e w0 ⟨rfl,hb0⟩
 have hu1:w0.cell? ⟨b,off,none⟩ = some (.int .i64 (-1)):=(hb0.cell (p:=⟨b,off,none⟩) hlb).trans hu0
 clear T0 hu0 hr0
 go_wp2_with fail
 clear hu1 g1 g2 g3
 go_loopw [3,30] (fun v i wr=>∃ k:Nat,k ≤ n ∧ i = .int .i64 k ∧ (∀ j,j < k → okAt (okB true) styleB ns j = true) ∧ (k = 0 → v = .slice none 0 0) ∧ OwnI wr w.heap.size v (aroundL ns k) ∧ Below w.heap.size w wr) (fun _ i _=>n - (intOf i).toNat)
 case atStart=>exact ⟨0,Nat.zero_le _,rfl,fun j hj=>absurd hj (by omega),fun _=>rfl,ownI_nil _ _,hb0⟩
 case round =>
  obtain ⟨k,hk,rfl,hp,hv0,hown,hbw⟩:=hrel
  clear hb0
  have HP:Hid (∀ j,j < k → okAt (okB true) styleB ns j = true):=hp
  clear hp
  by_cases hlt:k < n
  rotate_left
  ·clear hown hv0
   go_wp2
   go_ret
   have e:k = n:=by omega
   exact ⟨ret_bool (treeB_yes (by omega) (by omega) fun j hj=>HP.out j (by omega)).symm,hbw⟩
  have HUp:Hid (∀ j,j < k → okUp ns j = true):=fun j hj=>okAt_up (HP.out j hj)
  obtain ⟨x,hx⟩:∃ x,ns[k]? = some x:=⟨_,List.getElem?_eq_getElem (by omega)⟩
  have HX:Hid (ns.getD k nd0 = x):=getD_of hx
  have HXu:Hid (upL ns k = x.up):=by show upL ns k = x.up;unfold upL;rw [HX.out]
  have HXt:Hid (isT ns k = zeroS x.st):=by show isT ns k = _;unfold isT;rw [HX.out]
  have hr:=range_below (HC.out k x hx) hbw (range_lt (HC.out k x hx))
  have hxs:x.tx.size ≤ maxLen:=by have:=HS.out x (List.mem_of_getElem? hx);unfold maxLen;omega
  clear hx HC HS
  have hal:=around_len k HUp.out
  have IT:=fun W=>implIsText_any x W
  have hko:∀ {r:Bool},okN (okB true) styleB x = r → okN (okB true) styleB (ns.getD k nd0) = r:=fun h=>by rw [HX.out];exact h
  by_cases hk0:k = 0
  ·subst hk0
   have hv:=hv0 rfl
   subst hv
   rw [Nat.zero_mul,Nat.add_zero] at hr
   have IX:=fun W=>index_any none 0 0 x.up [] W rfl (by omega) (.inl rfl)
   rw [ixI_out (by simp)] at IX
   have HOk:Hid (okUp ns 0 = true):=by show okUp ns 0 = true;rw [okUp,if_pos rfl,HU.out,HT.out];rfl
   cases hG:okN (okB true) styleB x
   ·have GN:=fun (W:World) (h:Below w.heap.size w W)=>goodNode_b hG hxs et ev ((h.cell (p:=⟨0,0,none⟩) lte).trans HE.out)
    have HF:Hid (treeB (okB true) styleB ns = false):=treeB_no (k:=0) (by omega) (by rw [okAt,hko hG,Bool.and_false])
    clear IT hko
    go_wp2_with (first
     | (with_reducible show wpList _ _ _ (⟨some 34,Op.load 75 _,_,_,_,_⟩ :: _) _ _;refine wpList_load_mid rfl 75 _ rfl b off rfl (ndL x) _ hr Tryz.underlying75 rfl (by kernel_rfl) ?_)
     | (with_reducible show wpList _ _ _ (⟨none,Op.store 75 _ _,_,_,_,_⟩ :: _) _ _;refine wpList_store_box rfl 75 _ _ rfl rfl (#[.int .i64 x.up,.string x.tx,.int .i64 x.st.sh,.int .i64 x.st.fl,.int .i64 x.st.cl,.bool x.st.w.a,.bool x.st.w.p,.int .i64 x.st.w.n,.bool x.st.h.a,.bool x.st.h.p,.int .i64 x.st.h.n,.int .i64 x.st.mn,.int .i64 x.st.mx,.int .i64 x.st.mt,.bool x.st.mr.a,.bool x.st.mr.p,.int .i64 x.st.mr.n,.int .i64 x.st.mb,.bool x.st.ml.a,.bool x.st.ml.p,.int .i64 x.st.ml.n,.int .i64 x.st.bo,.int .i64 x.st.pa,.int .i64 x.st.wh,.int .i64 x.st.al,.int .i64 x.st.lh,.int .i64 x.st.ri,.int .i64 x.st.dn]) rfl rfl (by kernel_rfl) rfl (by kernel_rfl) ?_;intro W bel l0 hsz;refine stay ?_))
    have hc0:W.cell? ⟨wr.heap.size,0,none⟩ = some (.int .i64 x.up):=(lies_cell l0 0).trans rfl
    have l0:Hid (W.heap[wr.heap.size]? = some (.cells (#[.int .i64 x.up,.string x.tx,.int .i64 x.st.sh,.int .i64 x.st.fl,.int .i64 x.st.cl,.bool x.st.w.a,.bool x.st.w.p,.int .i64 x.st.w.n,.bool x.st.h.a,.bool x.st.h.p,.int .i64 x.st.h.n,.int .i64 x.st.mn,.int .i64 x.st.mx,.int .i64 x.st.mt,.bool x.st.mr.a,.bool x.st.mr.p,.int .i64 x.st.mr.n,.int .i64 x.st.mb,.bool x.st.ml.a,.bool x.st.ml.p,.int .i64 x.st.ml.n,.int .i64 x.st.bo,.int .i64 x.st.pa,.int .i64 x.st.wh,.int .i64 x.st.al,.int .i64 x.st.lh,.int .i64 x.st.ri,.int .i64 x.st.dn]) 75 (0,0))):=l0
    unfold Stay
    go_wp2_with fail
    have bW:=hbw.trans (bel.mono hbw.size)
    have oW:=hown.keep bel
    have ltW:wr.heap.size < W.heap.size:=by omega
    clear hr bel hown hbw
    refine (IX _).mono ?_
    rintro e w' ⟨rfl,hw⟩
    have hw:=hw.symm
    subst hw
    have rb:=range_box l0.out
    have G1:=GN W bW
    go_wp2_with (with_reducible show wpList _ _ _ (⟨some 46,Op.load 75 _,_,_,_,_⟩ :: _) _ _;refine wpList_load_midG ?qa2 75 _ rfl wr.heap.size 0 ?qb2 (ndL x) _ rb Tryz.underlying75 rfl (by kernel_rfl) ?_)
    case qb2=>rfl
    go_wp2_with fail
    refine G1.mono ?_
    rintro e w1 ⟨rfl,hb1⟩
    have b1:=bW.trans (hb1.mono bW.size)
    have o1:=oW.keep hb1
    have l1:Hid (w1.heap[wr.heap.size]? = some (.cells (#[.int .i64 x.up,.string x.tx,.int .i64 x.st.sh,.int .i64 x.st.fl,.int .i64 x.st.cl,.bool x.st.w.a,.bool x.st.w.p,.int .i64 x.st.w.n,.bool x.st.h.a,.bool x.st.h.p,.int .i64 x.st.h.n,.int .i64 x.st.mn,.int .i64 x.st.mx,.int .i64 x.st.mt,.bool x.st.mr.a,.bool x.st.mr.p,.int .i64 x.st.mr.n,.int .i64 x.st.mb,.bool x.st.ml.a,.bool x.st.ml.p,.int .i64 x.st.ml.n,.int .i64 x.st.bo,.int .i64 x.st.pa,.int .i64 x.st.wh,.int .i64 x.st.al,.int .i64 x.st.lh,.int .i64 x.st.ri,.int .i64 x.st.dn]) 75 (0,0))):=below_lies hb1 l0.out ltW
    have lt1:wr.heap.size < w1.heap.size:=lies_lt l1.out
    clear hb1 bW oW l0 rb G1 GN hc0 ltW
    go_wp2
    go_ret
    exact ⟨ret_bool HF.out.symm,b1⟩
   ·have GN:=fun (W:World) (h:Below w.heap.size w W)=>goodNode_b hG hxs et ev ((h.cell (p:=⟨0,0,none⟩) lte).trans HE.out)
    have HA:Hid (okAt (okB true) styleB ns 0 = true):=by show okAt _ _ ns 0 = true;rw [okAt,hko hG,HOk.out];rfl
    have hz:zeroS x.st = false:=HXt.out.symm.trans HT.out
    rw [hz] at IT
    have HN:Hid (aroundL ns 1 = [] ++ [(0:Int)]):=by
     show aroundL ns (0 + 1) = _
     rw [cut_next HOk.out (fun j hj=>absurd hj (by omega)),HT.out]
     simp [cutL,aroundL]
    clear hko hz
    go_wp2_with (first
     | (with_reducible show wpList _ _ _ (⟨some 34,Op.load 75 _,_,_,_,_⟩ :: _) _ _;refine wpList_load_mid rfl 75 _ rfl b off rfl (ndL x) _ hr Tryz.underlying75 rfl (by kernel_rfl) ?_)
     | (with_reducible show wpList _ _ _ (⟨none,Op.store 75 _ _,_,_,_,_⟩ :: _) _ _;refine wpList_store_box rfl 75 _ _ rfl rfl (#[.int .i64 x.up,.string x.tx,.int .i64 x.st.sh,.int .i64 x.st.fl,.int .i64 x.st.cl,.bool x.st.w.a,.bool x.st.w.p,.int .i64 x.st.w.n,.bool x.st.h.a,.bool x.st.h.p,.int .i64 x.st.h.n,.int .i64 x.st.mn,.int .i64 x.st.mx,.int .i64 x.st.mt,.bool x.st.mr.a,.bool x.st.mr.p,.int .i64 x.st.mr.n,.int .i64 x.st.mb,.bool x.st.ml.a,.bool x.st.ml.p,.int .i64 x.st.ml.n,.int .i64 x.st.bo,.int .i64 x.st.pa,.int .i64 x.st.wh,.int .i64 x.st.al,.int .i64 x.st.lh,.int .i64 x.st.ri,.int .i64 x.st.dn]) rfl rfl (by kernel_rfl) rfl (by kernel_rfl) ?_;intro W bel l0 hsz;refine stay ?_))
    have hc0:W.cell? ⟨wr.heap.size,0,none⟩ = some (.int .i64 x.up):=(lies_cell l0 0).trans rfl
    have l0:Hid (W.heap[wr.heap.size]? = some (.cells (#[.int .i64 x.up,.string x.tx,.int .i64 x.st.sh,.int .i64 x.st.fl,.int .i64 x.st.cl,.bool x.st.w.a,.bool x.st.w.p,.int .i64 x.st.w.n,.bool x.st.h.a,.bool x.st.h.p,.int .i64 x.st.h.n,.int .i64 x.st.mn,.int .i64 x.st.mx,.int .i64 x.st.mt,.bool x.st.mr.a,.bool x.st.mr.p,.int .i64 x.st.mr.n,.int .i64 x.st.mb,.bool x.st.ml.a,.bool x.st.ml.p,.int .i64 x.st.ml.n,.int .i64 x.st.bo,.int .i64 x.st.pa,.int .i64 x.st.wh,.int .i64 x.st.al,.int .i64 x.st.lh,.int .i64 x.st.ri,.int .i64 x.st.dn]) 75 (0,0))):=l0
    unfold Stay
    go_wp2_with fail
    have bW:=hbw.trans (bel.mono hbw.size)
    have oW:=hown.keep bel
    have ltW:wr.heap.size < W.heap.size:=by omega
    clear hr bel hown hbw
    refine (IX _).mono ?_
    rintro e w' ⟨rfl,hw⟩
    have hw:=hw.symm
    subst hw
    have rb:=range_box l0.out
    have G1:=GN W bW
    go_wp2_with (with_reducible show wpList _ _ _ (⟨some 46,Op.load 75 _,_,_,_,_⟩ :: _) _ _;refine wpList_load_midG ?qa3 75 _ rfl wr.heap.size 0 ?qb3 (ndL x) _ rb Tryz.underlying75 rfl (by kernel_rfl) ?_)
    case qb3=>rfl
    go_wp2_with fail
    refine G1.mono ?_
    rintro e w1 ⟨rfl,hb1⟩
    have b1:=bW.trans (hb1.mono bW.size)
    have o1:=oW.keep hb1
    have l1:Hid (w1.heap[wr.heap.size]? = some (.cells (#[.int .i64 x.up,.string x.tx,.int .i64 x.st.sh,.int .i64 x.st.fl,.int .i64 x.st.cl,.bool x.st.w.a,.bool x.st.w.p,.int .i64 x.st.w.n,.bool x.st.h.a,.bool x.st.h.p,.int .i64 x.st.h.n,.int .i64 x.st.mn,.int .i64 x.st.mx,.int .i64 x.st.mt,.bool x.st.mr.a,.bool x.st.mr.p,.int .i64 x.st.mr.n,.int .i64 x.st.mb,.bool x.st.ml.a,.bool x.st.ml.p,.int .i64 x.st.ml.n,.int .i64 x.st.bo,.int .i64 x.st.pa,.int .i64 x.st.wh,.int .i64 x.st.al,.int .i64 x.st.lh,.int .i64 x.st.ri,.int .i64 x.st.dn]) 75 (0,0))):=below_lies hb1 l0.out ltW
    have lt1:wr.heap.size < w1.heap.size:=lies_lt l1.out
    clear hb1 bW oW l0 rb G1 GN hc0 ltW
    have OC:=o1
    clear o1
    have rb:=range_box l1.out
    go_wp2_with (with_reducible show wpList _ _ _ (⟨some 57,Op.load 75 _,_,_,_,_⟩ :: _) _ _;refine wpList_load_mid rfl 75 _ rfl wr.heap.size 0 rfl (ndL x) _ rb Tryz.underlying75 rfl (by kernel_rfl) ?_)
    refine (IT _).mono ?_
    rintro e w2 ⟨rfl,hb2⟩
    have b2:=b1.trans (hb2.mono b1.size)
    have o2:=OC.keep hb2
    clear hb2 b1 l1 rb OC
    have o2':w2.ownsRow w.heap.size 3 1 _ 0 ((([]:List Int)).map (Value.int .i64)):=o2
    go_wp2_with (at_builtin;refine wpList_append_own _ rfl (.tmp 60) (.tmp 62) 69 rfl w.heap.size 3 i0 (.int .i64 0) 1 8 Tryz.underlying69 hi hz0 hz1 hz2 rfl (by decide) _ _ _ rfl (o2'.alloc _) ⟨w2.heap.size,0,none⟩ 1 1 [.int .i64 0] rfl rfl (cell_one_new _ _ _) (one_i64 _) (by unfold maxLen;omega) (by omega) (by have:=b2.size;simp;omega) ?_)
    intro v' w3 hown3 hgrow3 _
    have b3:Below w.heap.size w w3:=(b2.alloc b2.size _).grown hgrow3 (by have:=b2.size;simp;omega) (fun j hj=>o2.base j hj)
    have o3:OwnI w3 w.heap.size v' (aroundL ns 1):=by rw [HN.out];exact OwnI.snoc rfl hown3
    clear hown3 hgrow3 o2' o2 b2
    go_wp2
    go_roundw
    case rel=>exact ⟨1,by omega,by go_num,snocB (f:=okAt (okB true) styleB) HP.out HA.out,fun h=>absurd h (by omega),o3,b3⟩
    case measure=>simp [intOf];omega
  have hkp:(0:Int) < (k:Int):=by omega
  clear hv0 HU HT
  by_cases hin:x.up ∈ aroundL ns k
  rotate_left
  ·have HF:Hid (treeB (okB true) styleB ns = false):=treeB_no (k:=k) (by omega) (by rw [okAt,okUp,if_neg hk0,HXu.out,decide_eq_false hin];rfl)
   obtain ⟨a3,c3,hv,hrow⟩:=hown.row
   obtain ⟨L,hL⟩:∃ L,L = (aroundL ns k).length:=⟨_,rfl⟩
   have IX:=fun W h=>index_any a3 L c3 x.up (aroundL ns k) W hL (by omega) h
   rw [ixI_out hin] at IX
   rw [← hL] at hv
   subst hv
   have ROW:∀ W,OwnI W w.heap.size (.slice a3 L c3) (aroundL ns k) → Row W a3 (aroundL ns k):=fun W h=>by
    obtain ⟨_,_,q1,q2⟩:=h.row
    cases q1
    exact q2
   clear hL hrow IT hko hin
   go_wp2_with (first
    | (with_reducible show wpList _ _ _ (⟨some 34,Op.load 75 _,_,_,_,_⟩ :: _) _ _;refine wpList_load_mid rfl 75 _ rfl b (off + k * 28) rfl (ndL x) _ hr Tryz.underlying75 rfl (by kernel_rfl) ?_)
    | (with_reducible show wpList _ _ _ (⟨none,Op.store 75 _ _,_,_,_,_⟩ :: _) _ _;refine wpList_store_box rfl 75 _ _ rfl rfl (#[.int .i64 x.up,.string x.tx,.int .i64 x.st.sh,.int .i64 x.st.fl,.int .i64 x.st.cl,.bool x.st.w.a,.bool x.st.w.p,.int .i64 x.st.w.n,.bool x.st.h.a,.bool x.st.h.p,.int .i64 x.st.h.n,.int .i64 x.st.mn,.int .i64 x.st.mx,.int .i64 x.st.mt,.bool x.st.mr.a,.bool x.st.mr.p,.int .i64 x.st.mr.n,.int .i64 x.st.mb,.bool x.st.ml.a,.bool x.st.ml.p,.int .i64 x.st.ml.n,.int .i64 x.st.bo,.int .i64 x.st.pa,.int .i64 x.st.wh,.int .i64 x.st.al,.int .i64 x.st.lh,.int .i64 x.st.ri,.int .i64 x.st.dn]) rfl rfl (by kernel_rfl) rfl (by kernel_rfl) ?_;intro W bel l0 hsz;refine stay ?_))
   have hc0:W.cell? ⟨wr.heap.size,0,none⟩ = some (.int .i64 x.up):=(lies_cell l0 0).trans rfl
   have l0:Hid (W.heap[wr.heap.size]? = some (.cells (#[.int .i64 x.up,.string x.tx,.int .i64 x.st.sh,.int .i64 x.st.fl,.int .i64 x.st.cl,.bool x.st.w.a,.bool x.st.w.p,.int .i64 x.st.w.n,.bool x.st.h.a,.bool x.st.h.p,.int .i64 x.st.h.n,.int .i64 x.st.mn,.int .i64 x.st.mx,.int .i64 x.st.mt,.bool x.st.mr.a,.bool x.st.mr.p,.int .i64 x.st.mr.n,.int .i64 x.st.mb,.bool x.st.ml.a,.bool x.st.ml.p,.int .i64 x.st.ml.n,.int .i64 x.st.bo,.int .i64 x.st.pa,.int .i64 x.st.wh,.int .i64 x.st.al,.int .i64 x.st.lh,.int .i64 x.st.ri,.int .i64 x.st.dn]) 75 (0,0))):=l0
   unfold Stay
   go_wp2_with fail
   have bW:=hbw.trans (bel.mono hbw.size)
   have oW:=hown.keep bel
   have ltW:wr.heap.size < W.heap.size:=by omega
   clear hr bel hown hbw
   refine (IX _ (ROW _ oW)).mono ?_
   rintro e w' ⟨rfl,hw⟩
   have hw:=hw.symm
   subst hw
   go_wp2
   go_ret
   exact ⟨ret_bool HF.out.symm,bW⟩
  obtain ⟨i,hi'⟩:∃ i,i = idxL x.up (aroundL ns k):=⟨_,rfl⟩
  have HI:Hid (i = idxL x.up (aroundL ns k)):=hi'
  have hil:=idx_lt hin
  rw [← hi'] at hil
  clear hi'
  obtain ⟨a3,c3,hv,hrow⟩:=hown.row
  obtain ⟨L,hL⟩:∃ L,L = (aroundL ns k).length:=⟨_,rfl⟩
  have IX:=fun W h=>index_any a3 L c3 x.up (aroundL ns k) W hL (by omega) h
  rw [ixI_in hin,← HI.out] at IX
  have HL:Hid (L = (aroundL ns k).length):=hL
  rw [← hL] at hv hil hal
  subst hv
  clear hL hrow
  obtain ⟨g,rfl,hcap⟩:∃ g,a3 = some ⟨g,0,none⟩ ∧ L ≤ c3:=by
   have h':wr.ownsRow w.heap.size 3 1 (.slice a3 L c3) _ _:=hown
   rcases h'.2 with ⟨q,h0⟩ | ⟨g,cap',cur,q,_,_,q1,_⟩
   ·have:=HL.out;omega
   ·simp only [Value.slice.injEq] at q
    obtain ⟨rfl,q2,rfl⟩:=q
    exact ⟨g,rfl,by rw [q2];exact q1⟩
  have ROW:∀ W,OwnI W w.heap.size (.slice (some ⟨g,0,none⟩) L c3) (aroundL ns k) → Row W (some ⟨g,0,none⟩) (aroundL ns k):=fun W h=>by
   obtain ⟨_,_,q1,q2⟩:=h.row
   cases q1
   exact q2
  have HCut:Hid ((aroundL ns k).take (i + 1) = cutL ns k):=by
   show _ = _
   rw [cutL,HXu.out,ixI_in hin,← HI.out,show ((i:Int) + 1).toNat = i + 1 by omega]
  have OCUT:∀ W,OwnI W w.heap.size (.slice (some ⟨g,0,none⟩) L c3) (aroundL ns k) → OwnI W w.heap.size (.slice (some ⟨g,0,none⟩) (i + 1) c3) (cutL ns k):=fun W h=>by
   rw [← HCut.out]
   exact h.cut (i + 1) (by omega) HL.out
  have HIn:Hid (x.up ∈ aroundL ns k):=hin
  have b1i:(0:Int) ≤ (i:Int) + 1:=by omega
  have b2i:(i:Int) + 1 ≤ (c3:Int):=by omega
  have b3i:¬ ((i:Int) < 0):=by omega
  have hcl:(cutL ns k).length = i + 1:=by rw [cut_len (by omega) (by rw [HXu.out];exact HIn.out),HXu.out,← HI.out]
  clear hin
  cases hG:okN (okB true) styleB x
  ·have GN:=fun (W:World) (h:Below w.heap.size w W)=>goodNode_b hG hxs et ev ((h.cell (p:=⟨0,0,none⟩) lte).trans HE.out)
   have HF:Hid (treeB (okB true) styleB ns = false):=treeB_no (k:=k) (by omega) (by rw [okAt,hko hG,Bool.and_false])
   clear IT hko OCUT hcl
   go_wp2_with (first
    | (with_reducible show wpList _ _ _ (⟨some 34,Op.load 75 _,_,_,_,_⟩ :: _) _ _;refine wpList_load_mid rfl 75 _ rfl b (off + k * 28) rfl (ndL x) _ hr Tryz.underlying75 rfl (by kernel_rfl) ?_)
    | (with_reducible show wpList _ _ _ (⟨none,Op.store 75 _ _,_,_,_,_⟩ :: _) _ _;refine wpList_store_box rfl 75 _ _ rfl rfl (#[.int .i64 x.up,.string x.tx,.int .i64 x.st.sh,.int .i64 x.st.fl,.int .i64 x.st.cl,.bool x.st.w.a,.bool x.st.w.p,.int .i64 x.st.w.n,.bool x.st.h.a,.bool x.st.h.p,.int .i64 x.st.h.n,.int .i64 x.st.mn,.int .i64 x.st.mx,.int .i64 x.st.mt,.bool x.st.mr.a,.bool x.st.mr.p,.int .i64 x.st.mr.n,.int .i64 x.st.mb,.bool x.st.ml.a,.bool x.st.ml.p,.int .i64 x.st.ml.n,.int .i64 x.st.bo,.int .i64 x.st.pa,.int .i64 x.st.wh,.int .i64 x.st.al,.int .i64 x.st.lh,.int .i64 x.st.ri,.int .i64 x.st.dn]) rfl rfl (by kernel_rfl) rfl (by kernel_rfl) ?_;intro W bel l0 hsz;refine stay ?_))
   have hc0:W.cell? ⟨wr.heap.size,0,none⟩ = some (.int .i64 x.up):=(lies_cell l0 0).trans rfl
   have l0:Hid (W.heap[wr.heap.size]? = some (.cells (#[.int .i64 x.up,.string x.tx,.int .i64 x.st.sh,.int .i64 x.st.fl,.int .i64 x.st.cl,.bool x.st.w.a,.bool x.st.w.p,.int .i64 x.st.w.n,.bool x.st.h.a,.bool x.st.h.p,.int .i64 x.st.h.n,.int .i64 x.st.mn,.int .i64 x.st.mx,.int .i64 x.st.mt,.bool x.st.mr.a,.bool x.st.mr.p,.int .i64 x.st.mr.n,.int .i64 x.st.mb,.bool x.st.ml.a,.bool x.st.ml.p,.int .i64 x.st.ml.n,.int .i64 x.st.bo,.int .i64 x.st.pa,.int .i64 x.st.wh,.int .i64 x.st.al,.int .i64 x.st.lh,.int .i64 x.st.ri,.int .i64 x.st.dn]) 75 (0,0))):=l0
   unfold Stay
   go_wp2_with fail
   have bW:=hbw.trans (bel.mono hbw.size)
   have oW:=hown.keep bel
   have ltW:wr.heap.size < W.heap.size:=by omega
   clear hr bel hown hbw
   refine (IX _ (ROW _ oW)).mono ?_
   rintro e w' ⟨rfl,hw⟩
   have hw:=hw.symm
   subst hw
   have rb:=range_box l0.out
   have G1:=GN W bW
   go_wp2_with (with_reducible show wpList _ _ _ (⟨some 46,Op.load 75 _,_,_,_,_⟩ :: _) _ _;refine wpList_load_midG ?qa4 75 _ rfl wr.heap.size 0 ?qb4 (ndL x) _ rb Tryz.underlying75 rfl (by kernel_rfl) ?_)
   case qb4=>rfl
   go_wp2_with fail
   refine G1.mono ?_
   rintro e w1 ⟨rfl,hb1⟩
   have b1:=bW.trans (hb1.mono bW.size)
   have o1:=oW.keep hb1
   have l1:Hid (w1.heap[wr.heap.size]? = some (.cells (#[.int .i64 x.up,.string x.tx,.int .i64 x.st.sh,.int .i64 x.st.fl,.int .i64 x.st.cl,.bool x.st.w.a,.bool x.st.w.p,.int .i64 x.st.w.n,.bool x.st.h.a,.bool x.st.h.p,.int .i64 x.st.h.n,.int .i64 x.st.mn,.int .i64 x.st.mx,.int .i64 x.st.mt,.bool x.st.mr.a,.bool x.st.mr.p,.int .i64 x.st.mr.n,.int .i64 x.st.mb,.bool x.st.ml.a,.bool x.st.ml.p,.int .i64 x.st.ml.n,.int .i64 x.st.bo,.int .i64 x.st.pa,.int .i64 x.st.wh,.int .i64 x.st.al,.int .i64 x.st.lh,.int .i64 x.st.ri,.int .i64 x.st.dn]) 75 (0,0))):=below_lies hb1 l0.out ltW
   have lt1:wr.heap.size < w1.heap.size:=lies_lt l1.out
   clear hb1 bW oW l0 rb G1 GN hc0 ltW
   go_wp2
   go_ret
   exact ⟨ret_bool HF.out.symm,b1⟩
  have GN:=fun (W:World) (h:Below w.heap.size w W)=>goodNode_b hG hxs et ev ((h.cell (p:=⟨0,0,none⟩) lte).trans HE.out)
  by_cases h8:8 ≤ i + 1
  ·have HF:Hid (treeB (okB true) styleB ns = false):=treeB_no (k:=k) (by omega) (by
    rw [okAt,okUp,if_neg hk0,HXu.out,← HI.out,decide_eq_false (p:=i + 1 < 8) (by omega),Bool.and_false];rfl)
   have h8':(8:Int) ≤ (i:Int) + 1:=by omega
   clear IT hko OCUT hcl
   go_wp2_with (first
    | (with_reducible show wpList _ _ _ (⟨some 34,Op.load 75 _,_,_,_,_⟩ :: _) _ _;refine wpList_load_mid rfl 75 _ rfl b (off + k * 28) rfl (ndL x) _ hr Tryz.underlying75 rfl (by kernel_rfl) ?_)
    | (with_reducible show wpList _ _ _ (⟨none,Op.store 75 _ _,_,_,_,_⟩ :: _) _ _;refine wpList_store_box rfl 75 _ _ rfl rfl (#[.int .i64 x.up,.string x.tx,.int .i64 x.st.sh,.int .i64 x.st.fl,.int .i64 x.st.cl,.bool x.st.w.a,.bool x.st.w.p,.int .i64 x.st.w.n,.bool x.st.h.a,.bool x.st.h.p,.int .i64 x.st.h.n,.int .i64 x.st.mn,.int .i64 x.st.mx,.int .i64 x.st.mt,.bool x.st.mr.a,.bool x.st.mr.p,.int .i64 x.st.mr.n,.int .i64 x.st.mb,.bool x.st.ml.a,.bool x.st.ml.p,.int .i64 x.st.ml.n,.int .i64 x.st.bo,.int .i64 x.st.pa,.int .i64 x.st.wh,.int .i64 x.st.al,.int .i64 x.st.lh,.int .i64 x.st.ri,.int .i64 x.st.dn]) rfl rfl (by kernel_rfl) rfl (by kernel_rfl) ?_;intro W bel l0 hsz;refine stay ?_))
   have hc0:W.cell? ⟨wr.heap.size,0,none⟩ = some (.int .i64 x.up):=(lies_cell l0 0).trans rfl
   have l0:Hid (W.heap[wr.heap.size]? = some (.cells (#[.int .i64 x.up,.string x.tx,.int .i64 x.st.sh,.int .i64 x.st.fl,.int .i64 x.st.cl,.bool x.st.w.a,.bool x.st.w.p,.int .i64 x.st.w.n,.bool x.st.h.a,.bool x.st.h.p,.int .i64 x.st.h.n,.int .i64 x.st.mn,.int .i64 x.st.mx,.int .i64 x.st.mt,.bool x.st.mr.a,.bool x.st.mr.p,.int .i64 x.st.mr.n,.int .i64 x.st.mb,.bool x.st.ml.a,.bool x.st.ml.p,.int .i64 x.st.ml.n,.int .i64 x.st.bo,.int .i64 x.st.pa,.int .i64 x.st.wh,.int .i64 x.st.al,.int .i64 x.st.lh,.int .i64 x.st.ri,.int .i64 x.st.dn]) 75 (0,0))):=l0
   unfold Stay
   go_wp2_with fail
   have bW:=hbw.trans (bel.mono hbw.size)
   have oW:=hown.keep bel
   have ltW:wr.heap.size < W.heap.size:=by omega
   clear hr bel hown hbw
   refine (IX _ (ROW _ oW)).mono ?_
   rintro e w' ⟨rfl,hw⟩
   have hw:=hw.symm
   subst hw
   have rb:=range_box l0.out
   have G1:=GN W bW
   go_wp2_with (with_reducible show wpList _ _ _ (⟨some 46,Op.load 75 _,_,_,_,_⟩ :: _) _ _;refine wpList_load_midG ?qa5 75 _ rfl wr.heap.size 0 ?qb5 (ndL x) _ rb Tryz.underlying75 rfl (by kernel_rfl) ?_)
   case qb5=>rfl
   go_wp2_with fail
   refine G1.mono ?_
   rintro e w1 ⟨rfl,hb1⟩
   have b1:=bW.trans (hb1.mono bW.size)
   have o1:=oW.keep hb1
   have l1:Hid (w1.heap[wr.heap.size]? = some (.cells (#[.int .i64 x.up,.string x.tx,.int .i64 x.st.sh,.int .i64 x.st.fl,.int .i64 x.st.cl,.bool x.st.w.a,.bool x.st.w.p,.int .i64 x.st.w.n,.bool x.st.h.a,.bool x.st.h.p,.int .i64 x.st.h.n,.int .i64 x.st.mn,.int .i64 x.st.mx,.int .i64 x.st.mt,.bool x.st.mr.a,.bool x.st.mr.p,.int .i64 x.st.mr.n,.int .i64 x.st.mb,.bool x.st.ml.a,.bool x.st.ml.p,.int .i64 x.st.ml.n,.int .i64 x.st.bo,.int .i64 x.st.pa,.int .i64 x.st.wh,.int .i64 x.st.al,.int .i64 x.st.lh,.int .i64 x.st.ri,.int .i64 x.st.dn]) 75 (0,0))):=below_lies hb1 l0.out ltW
   have lt1:wr.heap.size < w1.heap.size:=lies_lt l1.out
   clear hb1 bW oW l0 rb G1 GN hc0 ltW
   go_wp2
   go_ret
   exact ⟨ret_bool HF.out.symm,b1⟩
  have h8':¬ ((8:Int) ≤ (i:Int) + 1):=by omega
  have HO:Hid (okUp ns k = true):=by
   show okUp ns k = true
   rw [okUp,if_neg hk0,HXu.out,← HI.out,decide_eq_true HIn.out,decide_eq_true (p:=i + 1 < 8) (by omega)];rfl
  have HA:Hid (okAt (okB true) styleB ns k = true):=by show okAt _ _ ns k = true;rw [okAt,hko hG,HO.out];rfl
  have HN:Hid (aroundL ns (k + 1) = if zeroS x.st = true then cutL ns k else cutL ns k ++ [(k:Int)]):=by
   show _ = _
   rw [cut_next HO.out HUp.out,HXt.out]
  clear hko
  cases hz:zeroS x.st
  ·rw [hz] at IT HN
   rw [if_neg (by decide)] at HN
   go_wp2_with (first
    | (with_reducible show wpList _ _ _ (⟨some 34,Op.load 75 _,_,_,_,_⟩ :: _) _ _;refine wpList_load_mid rfl 75 _ rfl b (off + k * 28) rfl (ndL x) _ hr Tryz.underlying75 rfl (by kernel_rfl) ?_)
    | (with_reducible show wpList _ _ _ (⟨none,Op.store 75 _ _,_,_,_,_⟩ :: _) _ _;refine wpList_store_box rfl 75 _ _ rfl rfl (#[.int .i64 x.up,.string x.tx,.int .i64 x.st.sh,.int .i64 x.st.fl,.int .i64 x.st.cl,.bool x.st.w.a,.bool x.st.w.p,.int .i64 x.st.w.n,.bool x.st.h.a,.bool x.st.h.p,.int .i64 x.st.h.n,.int .i64 x.st.mn,.int .i64 x.st.mx,.int .i64 x.st.mt,.bool x.st.mr.a,.bool x.st.mr.p,.int .i64 x.st.mr.n,.int .i64 x.st.mb,.bool x.st.ml.a,.bool x.st.ml.p,.int .i64 x.st.ml.n,.int .i64 x.st.bo,.int .i64 x.st.pa,.int .i64 x.st.wh,.int .i64 x.st.al,.int .i64 x.st.lh,.int .i64 x.st.ri,.int .i64 x.st.dn]) rfl rfl (by kernel_rfl) rfl (by kernel_rfl) ?_;intro W bel l0 hsz;refine stay ?_))
   have hc0:W.cell? ⟨wr.heap.size,0,none⟩ = some (.int .i64 x.up):=(lies_cell l0 0).trans rfl
   have l0:Hid (W.heap[wr.heap.size]? = some (.cells (#[.int .i64 x.up,.string x.tx,.int .i64 x.st.sh,.int .i64 x.st.fl,.int .i64 x.st.cl,.bool x.st.w.a,.bool x.st.w.p,.int .i64 x.st.w.n,.bool x.st.h.a,.bool x.st.h.p,.int .i64 x.st.h.n,.int .i64 x.st.mn,.int .i64 x.st.mx,.int .i64 x.st.mt,.bool x.st.mr.a,.bool x.st.mr.p,.int .i64 x.st.mr.n,.int .i64 x.st.mb,.bool x.st.ml.a,.bool x.st.ml.p,.int .i64 x.st.ml.n,.int .i64 x.st.bo,.int .i64 x.st.pa,.int .i64 x.st.wh,.int .i64 x.st.al,.int .i64 x.st.lh,.int .i64 x.st.ri,.int .i64 x.st.dn]) 75 (0,0))):=l0
   unfold Stay
   go_wp2_with fail
   have bW:=hbw.trans (bel.mono hbw.size)
   have oW:=hown.keep bel
   have ltW:wr.heap.size < W.heap.size:=by omega
   clear hr bel hown hbw
   refine (IX _ (ROW _ oW)).mono ?_
   rintro e w' ⟨rfl,hw⟩
   have hw:=hw.symm
   subst hw
   have rb:=range_box l0.out
   have G1:=GN W bW
   go_wp2_with (with_reducible show wpList _ _ _ (⟨some 46,Op.load 75 _,_,_,_,_⟩ :: _) _ _;refine wpList_load_midG ?qa6 75 _ rfl wr.heap.size 0 ?qb6 (ndL x) _ rb Tryz.underlying75 rfl (by kernel_rfl) ?_)
   case qb6=>rfl
   go_wp2_with fail
   refine G1.mono ?_
   rintro e w1 ⟨rfl,hb1⟩
   have b1:=bW.trans (hb1.mono bW.size)
   have o1:=oW.keep hb1
   have l1:Hid (w1.heap[wr.heap.size]? = some (.cells (#[.int .i64 x.up,.string x.tx,.int .i64 x.st.sh,.int .i64 x.st.fl,.int .i64 x.st.cl,.bool x.st.w.a,.bool x.st.w.p,.int .i64 x.st.w.n,.bool x.st.h.a,.bool x.st.h.p,.int .i64 x.st.h.n,.int .i64 x.st.mn,.int .i64 x.st.mx,.int .i64 x.st.mt,.bool x.st.mr.a,.bool x.st.mr.p,.int .i64 x.st.mr.n,.int .i64 x.st.mb,.bool x.st.ml.a,.bool x.st.ml.p,.int .i64 x.st.ml.n,.int .i64 x.st.bo,.int .i64 x.st.pa,.int .i64 x.st.wh,.int .i64 x.st.al,.int .i64 x.st.lh,.int .i64 x.st.ri,.int .i64 x.st.dn]) 75 (0,0))):=below_lies hb1 l0.out ltW
   have lt1:wr.heap.size < w1.heap.size:=lies_lt l1.out
   clear hb1 bW oW l0 rb G1 GN hc0 ltW
   have OC:=OCUT _ o1
   clear o1 OCUT
   have rb:=range_box l1.out
   go_wp2_with (with_reducible show wpList _ _ _ (⟨some 57,Op.load 75 _,_,_,_,_⟩ :: _) _ _;refine wpList_load_mid rfl 75 _ rfl wr.heap.size 0 rfl (ndL x) _ rb Tryz.underlying75 rfl (by kernel_rfl) ?_)
   refine (IT _).mono ?_
   rintro e w2 ⟨rfl,hb2⟩
   have b2:=b1.trans (hb2.mono b1.size)
   have o2:=OC.keep hb2
   clear hb2 b1 l1 rb OC
   generalize cutL ns k = cs at o2 HN hcl
   have o2':w2.ownsRow w.heap.size 3 1 (.slice (some ⟨g,0,none⟩) (i + 1) c3) (i + 1) ((cs).map (Value.int .i64)):=by have h:=o2;unfold OwnI at h;rw [hcl] at h;exact h
   go_wp2_with (at_builtin;refine wpList_append_own _ rfl (.tmp 60) (.tmp 62) 69 rfl w.heap.size 3 i0 (.int .i64 0) 1 8 Tryz.underlying69 hi hz0 hz1 hz2 rfl (by decide) _ _ _ rfl (o2'.alloc _) ⟨w2.heap.size,0,none⟩ 1 1 [.int .i64 (k:Int)] rfl rfl (cell_one_new _ _ _) (one_i64 _) (by unfold maxLen;omega) (by omega) (by have:=b2.size;simp;omega) ?_)
   intro v' w3 hown3 hgrow3 _
   have b3:Below w.heap.size w w3:=(b2.alloc b2.size _).grown hgrow3 (by have:=b2.size;simp;omega) (fun j hj=>o2.base j hj)
   have o3:OwnI w3 w.heap.size v' (aroundL ns (k + 1)):=by rw [HN.out];exact OwnI.snoc hcl.symm hown3
   clear hown3 hgrow3 o2' o2 b2
   go_wp2
   go_roundw
   case rel=>exact ⟨k + 1,by omega,by go_num,snocB (f:=okAt (okB true) styleB) HP.out HA.out,fun h=>absurd h (by omega),o3,b3⟩
   case measure=>simp [intOf];omega
  ·rw [hz] at IT HN
   rw [if_pos rfl] at HN
   go_wp2_with (first
    | (with_reducible show wpList _ _ _ (⟨some 34,Op.load 75 _,_,_,_,_⟩ :: _) _ _;refine wpList_load_mid rfl 75 _ rfl b (off + k * 28) rfl (ndL x) _ hr Tryz.underlying75 rfl (by kernel_rfl) ?_)
    | (with_reducible show wpList _ _ _ (⟨none,Op.store 75 _ _,_,_,_,_⟩ :: _) _ _;refine wpList_store_box rfl 75 _ _ rfl rfl (#[.int .i64 x.up,.string x.tx,.int .i64 x.st.sh,.int .i64 x.st.fl,.int .i64 x.st.cl,.bool x.st.w.a,.bool x.st.w.p,.int .i64 x.st.w.n,.bool x.st.h.a,.bool x.st.h.p,.int .i64 x.st.h.n,.int .i64 x.st.mn,.int .i64 x.st.mx,.int .i64 x.st.mt,.bool x.st.mr.a,.bool x.st.mr.p,.int .i64 x.st.mr.n,.int .i64 x.st.mb,.bool x.st.ml.a,.bool x.st.ml.p,.int .i64 x.st.ml.n,.int .i64 x.st.bo,.int .i64 x.st.pa,.int .i64 x.st.wh,.int .i64 x.st.al,.int .i64 x.st.lh,.int .i64 x.st.ri,.int .i64 x.st.dn]) rfl rfl (by kernel_rfl) rfl (by kernel_rfl) ?_;intro W bel l0 hsz;refine stay ?_))
   have hc0:W.cell? ⟨wr.heap.size,0,none⟩ = some (.int .i64 x.up):=(lies_cell l0 0).trans rfl
   have l0:Hid (W.heap[wr.heap.size]? = some (.cells (#[.int .i64 x.up,.string x.tx,.int .i64 x.st.sh,.int .i64 x.st.fl,.int .i64 x.st.cl,.bool x.st.w.a,.bool x.st.w.p,.int .i64 x.st.w.n,.bool x.st.h.a,.bool x.st.h.p,.int .i64 x.st.h.n,.int .i64 x.st.mn,.int .i64 x.st.mx,.int .i64 x.st.mt,.bool x.st.mr.a,.bool x.st.mr.p,.int .i64 x.st.mr.n,.int .i64 x.st.mb,.bool x.st.ml.a,.bool x.st.ml.p,.int .i64 x.st.ml.n,.int .i64 x.st.bo,.int .i64 x.st.pa,.int .i64 x.st.wh,.int .i64 x.st.al,.int .i64 x.st.lh,.int .i64 x.st.ri,.int .i64 x.st.dn]) 75 (0,0))):=l0
   unfold Stay
   go_wp2_with fail
   have bW:=hbw.trans (bel.mono hbw.size)
   have oW:=hown.keep bel
   have ltW:wr.heap.size < W.heap.size:=by omega
   clear hr bel hown hbw
   refine (IX _ (ROW _ oW)).mono ?_
   rintro e w' ⟨rfl,hw⟩
   have hw:=hw.symm
   subst hw
   have rb:=range_box l0.out
   have G1:=GN W bW
   go_wp2_with (with_reducible show wpList _ _ _ (⟨some 46,Op.load 75 _,_,_,_,_⟩ :: _) _ _;refine wpList_load_midG ?qa7 75 _ rfl wr.heap.size 0 ?qb7 (ndL x) _ rb Tryz.underlying75 rfl (by kernel_rfl) ?_)
   case qb7=>rfl
   go_wp2_with fail
   refine G1.mono ?_
   rintro e w1 ⟨rfl,hb1⟩
   have b1:=bW.trans (hb1.mono bW.size)
   have o1:=oW.keep hb1
   have l1:Hid (w1.heap[wr.heap.size]? = some (.cells (#[.int .i64 x.up,.string x.tx,.int .i64 x.st.sh,.int .i64 x.st.fl,.int .i64 x.st.cl,.bool x.st.w.a,.bool x.st.w.p,.int .i64 x.st.w.n,.bool x.st.h.a,.bool x.st.h.p,.int .i64 x.st.h.n,.int .i64 x.st.mn,.int .i64 x.st.mx,.int .i64 x.st.mt,.bool x.st.mr.a,.bool x.st.mr.p,.int .i64 x.st.mr.n,.int .i64 x.st.mb,.bool x.st.ml.a,.bool x.st.ml.p,.int .i64 x.st.ml.n,.int .i64 x.st.bo,.int .i64 x.st.pa,.int .i64 x.st.wh,.int .i64 x.st.al,.int .i64 x.st.lh,.int .i64 x.st.ri,.int .i64 x.st.dn]) 75 (0,0))):=below_lies hb1 l0.out ltW
   have lt1:wr.heap.size < w1.heap.size:=lies_lt l1.out
   clear hb1 bW oW l0 rb G1 GN hc0 ltW
   have OC:=OCUT _ o1
   clear o1 OCUT
   have rb:=range_box l1.out
   go_wp2_with (with_reducible show wpList _ _ _ (⟨some 57,Op.load 75 _,_,_,_,_⟩ :: _) _ _;refine wpList_load_mid rfl 75 _ rfl wr.heap.size 0 rfl (ndL x) _ rb Tryz.underlying75 rfl (by kernel_rfl) ?_)
   refine (IT _).mono ?_
   rintro e w2 ⟨rfl,hb2⟩
   have b2:=b1.trans (hb2.mono b1.size)
   have o2:=OC.keep hb2
   clear hb2 b1 l1 rb OC
   rw [← HN.out] at o2
   go_wp2
   go_roundw
   case rel=>exact ⟨k + 1,by omega,by go_num,snocB (f:=okAt (okB true) styleB) HP.out HA.out,fun h=>absurd h (by omega),o2,b2⟩
   case measure=>simp [intOf];omega
set_option maxHeartbeats 2000000 in
theorem implTree_len (a:Option Addr) (n cap:Nat) (w:World) (h:¬ (1 ≤ n ∧ n ≤ 40)) (hl:n ≤ 1048576) :
  Calls Tryz.prog 40 #[.slice a n cap] w fun e w'=>e = .returned (.bool false) ∧ Below w.heap.size w w':=by
 by_cases h1:(n:Int) < 1
 ·go_enter Tryz.func40,Tryz.ntmps40
  go_wp2
  go_ret
  exact ⟨rfl,Below.refl _ _⟩
 ·have h2:(40:Int) < (n:Int):=by omega
  go_enter Tryz.func40,Tryz.ntmps40
  go_wp2
  go_ret
  exact ⟨rfl,Below.refl _ _⟩
set_option maxRecDepth 100000 in
set_option maxHeartbeats 2000000 in
theorem implTree_first (b off n cap:Nat) (x:Nd) (w:World) (h1:1 ≤ n) (h40:n ≤ 40) (hr:w.rangeAt b off (ndL x)) (h:zeroS x.st = true ∨ x.up ≠ -1) :
  Calls Tryz.prog 40 #[.slice (some ⟨b,off,none⟩) n cap] w fun e w'=>e = .returned (.bool false) ∧ Below w.heap.size w w':=by
 have T0:=implIsText_any x
 have hu0:w.cell? ⟨b,off,none⟩ = some (.int .i64 x.up):=hr 0 _ rfl
 have hlb:=range_lt hr
 have g1:¬ ((n:Int) < 1):=by omega
 have g2:¬ ((40:Int) < (n:Int)):=by omega
 have g3:(0:Int) < (n:Int):=by omega
 cases hz:zeroS x.st
 ·rw [hz] at T0 h
  have hne:¬ x.up = -1:=by simpa using h
  have hq:(x.up == -1) = false:=by simpa using hne
  clear h
  go_enter Tryz.func40,Tryz.ntmps40
  go_wp2_with (with_reducible show wpList _ _ _ (⟨some 18,Op.load 75 _,_,_,_,_⟩ :: _) _ _;refine wpList_load_midG ?q0 75 _ rfl b off ?q1 (ndL x) _ hr Tryz.underlying75 rfl (by kernel_rfl) ?_)
  refine (T0 _).mono ?_
  rintro e w0 ⟨rfl,hb0⟩
  have hu1:w0.cell? ⟨b,off,none⟩ = some (.int .i64 x.up):=(hb0.cell (p:=⟨b,off,none⟩) hlb).trans hu0
  clear T0 hu0 hr
  go_wp2
  go_ret
  exact ⟨rfl,hb0⟩
 ·rw [hz] at T0
  clear h
  go_enter Tryz.func40,Tryz.ntmps40
  go_wp2_with (with_reducible show wpList _ _ _ (⟨some 18,Op.load 75 _,_,_,_,_⟩ :: _) _ _;refine wpList_load_midG ?q2 75 _ rfl b off ?q3 (ndL x) _ hr Tryz.underlying75 rfl (by kernel_rfl) ?_)
  refine (T0 _).mono ?_
  rintro e w0 ⟨rfl,hb0⟩
  clear T0 hu0 hr
  go_wp2
  go_ret
  exact ⟨rfl,hb0⟩
theorem implTree_any (a:Option Addr) (cap:Nat) (ns:List Nd) (w:World) (hr:NdRow w a ns) (hl:ns.length ≤ 1048576) (hs:∀ x ∈ ns,x.tx.size ≤ 1048576)
  (et:TypeId) (ev:Value) (he:w.cell? ⟨0,0,none⟩ = some (.iface et ev)) :
  Calls Tryz.prog 40 #[.slice a ns.length cap] w fun e w'=>e = .returned (.bool (treeB (okB true) styleB ns)) ∧ Below w.heap.size w w':=by
 by_cases hlen:1 ≤ ns.length ∧ ns.length ≤ 40
 rotate_left
 ·rw [treeB_len hlen]
  exact implTree_len a _ cap w hlen hl
 obtain ⟨b,off,rfl,hc⟩:∃ b off,a = some ⟨b,off,none⟩ ∧ ∀ i n,ns[i]? = some n → w.rangeAt b (off + i * 28) (ndL n):=by
  rcases hr with h | h
  ·rw [h] at hlen;simp at hlen
  ·exact h
 obtain ⟨x,hx⟩:∃ x,ns[0]? = some x:=⟨_,List.getElem?_eq_getElem (by omega)⟩
 by_cases h0:zeroS x.st = true ∨ x.up ≠ -1
 ·have hT:treeB (okB true) styleB ns = false:=treeB_no (k:=0) (by omega) (by
   rw [okAt,okUp,if_pos rfl]
   unfold upL isT
   rw [getD_of hx]
   rcases h0 with h | h
   ·simp [h]
   ·simp [h])
  rw [hT]
  have:=hc 0 x hx
  rw [Nat.zero_mul,Nat.add_zero] at this
  exact implTree_first b off _ cap x w hlen.1 hlen.2 this h0
 ·have h1:zeroS x.st = false:=by
   cases h:zeroS x.st
   ·rfl
   ·exact absurd (.inl h) h0
  have h2:x.up = -1:=Classical.byContradiction fun h=>h0 (.inr h)
  exact implTree_loop b off _ cap ns w rfl hlen.1 hlen.2 hs hc (by unfold isT;rw [getD_of hx];exact h1) (by unfold upL;rw [getD_of hx];exact h2) et ev he
theorem chain_len (ns:List Nd) (k:Nat):(chainL ns k).length ≤ k + 1:=by
 induction k using Nat.strongRecOn with
 | _ k ih =>
  rw [chainL]
  split
  ·rename_i h
   have:=ih _ h.2
   rw [List.length_append,List.length_singleton]
   omega
  ·simp
theorem okUp_mk {ns:List Nd} {k u:Nat} (h0:0 < k) (hT0:isT ns 0 = false) (hs:∀ j,j < k → okUp ns j = true) (hu:u < k) (e:upL ns k = (u:Int)) (hc:(u:Int) ∈ chainL ns (k - 1)) (ht:isT ns u = false) (hd:(chainL ns u).length < 8):okUp ns k = true:=by
 have hin:upL ns k ∈ aroundL ns k:=(around_in h0 hT0 (stands_of k hs) _).2 ⟨u,hu,e,hc,ht⟩
 rw [okUp,if_neg (by omega),decide_eq_true hin]
 have hin':=hin
 rw [e] at hin'
 have hl:=congrArg List.length (around_take u hin')
 rw [List.length_take] at hl
 have:=idx_lt hin'
 rw [e,decide_eq_true (by omega)]
 rfl
theorem okUp_un {ns:List Nd} {k:Nat} (h0:0 < k) (hs:∀ j,j < k → okUp ns j = true) (h:okUp ns k = true):∃ u:Nat,u < k ∧ upL ns k = (u:Int) ∧ (u:Int) ∈ chainL ns (k - 1) ∧ isT ns u = false ∧ (chainL ns u).length < 8:=by
 have st:=stands_of (k + 1) (snocB (f:=okUp) hs h) k (by omega)
 obtain ⟨u,hu,e,hc,ht⟩:=st.ups h0
 have hd:=st.deep h0
 rw [e] at hd
 exact ⟨u,hu,e,hc,ht,by simpa using hd⟩
theorem okUp_not {ns:List Nd} {k u:Nat} (h0:0 < k) (hs:∀ j,j < k → okUp ns j = true) (e:upL ns k = (u:Int)) (h:¬ ((u:Int) ∈ chainL ns (k - 1) ∧ isT ns u = false ∧ (chainL ns u).length < 8)):okUp ns k = false:=by
 cases hq:okUp ns k
 ·rfl
 ·obtain ⟨u',_,e',h1,h2,h3⟩:=okUp_un h0 hs hq
  have:u' = u:=by omega
  subst this
  exact absurd ⟨h1,h2,h3⟩ h
theorem okUp_far {ns:List Nd} {k:Nat} (h0:0 < k) (hs:∀ j,j < k → okUp ns j = true) (h:¬ (0 ≤ upL ns k ∧ upL ns k < (k:Int))):okUp ns k = false:=by
 cases hq:okUp ns k
 ·rfl
 ·obtain ⟨u',h1,e',_⟩:=okUp_un h0 hs hq
  exact absurd ⟨by omega,by omega⟩ h
theorem tree_not_up {tB:ByteArray → Bool} {sB:St → Bool} {ns:List Nd} {k:Nat} (h:k < ns.length) (hk:okUp ns k = false):treeB tB sB ns = false:=treeB_no h (by rw [okAt,hk];rfl)
theorem tree_not_node {tB:ByteArray → Bool} {sB:St → Bool} {ns:List Nd} {k:Nat} {x:Nd} (h:k < ns.length) (hx:ns.getD k nd0 = x) (hk:okN tB sB x = false):treeB tB sB ns = false:=treeB_no h (by rw [okAt,hx,hk,Bool.and_false])
theorem okAt_mk {tB:ByteArray → Bool} {sB:St → Bool} {ns:List Nd} {k:Nat} {x:Nd} (hu:okUp ns k = true) (hx:ns.getD k nd0 = x) (hk:okN tB sB x = true):okAt tB sB ns k = true:=by rw [okAt,hx,hk,hu];rfl
/-- One step up a chain. -/
theorem chain_up {ns:List Nd} {v:Nat} {y:Int} (st:Stands ns v) (hne:y ≠ (v:Int)):(upL ns v = -1 ∧ y ∉ chainL ns v) ∨ ∃ p:Nat,p < v ∧ upL ns v = (p:Int) ∧ (y ∈ chainL ns v ↔ y ∈ chainL ns p):=by
 by_cases h0:v = 0
 ·left
  have e:=st.top h0
  refine ⟨e,?_⟩
  rw [chain_top (by omega),List.mem_singleton]
  exact hne
 ·right
  obtain ⟨p,hp,e,_⟩:=st.ups (by omega)
  refine ⟨p,hp,e,?_⟩
  rw [chain_in e hp,List.mem_append,List.mem_singleton]
  exact ⟨fun h=>h.resolve_right hne,.inl⟩
theorem chain_up_len {ns:List Nd} {v:Nat} (st:Stands ns v):(upL ns v = -1 ∧ (chainL ns v).length = 1) ∨ ∃ p:Nat,p < v ∧ upL ns v = (p:Int) ∧ (chainL ns v).length = (chainL ns p).length + 1:=by
 by_cases h0:v = 0
 ·left
  have e:=st.top h0
  exact ⟨e,by rw [chain_top (by omega)];rfl⟩
 ·right
  obtain ⟨p,hp,e,_⟩:=st.ups (by omega)
  exact ⟨p,hp,e,by rw [chain_in e hp,List.length_append,List.length_singleton]⟩
/-- What the first inner loop holds: z is where it stands, q whether it has met u. -/
def metI (ns:List Nd) (k u:Nat) (q:Bool) (z:Int):Prop :=
 (q = true ∧ (u:Int) ∈ chainL ns (k - 1) ∧ -1 ≤ z ∧ z < (k:Int)) ∨ (q = false ∧ z = -1 ∧ (u:Int) ∉ chainL ns (k - 1)) ∨ (q = false ∧ ∃ v:Nat,v < k ∧ z = (v:Int) ∧ ((u:Int) ∈ chainL ns (k - 1) ↔ (u:Int) ∈ chainL ns v))
theorem metI_hit {ns:List Nd} {k u:Nat} {z:Int} (h:(u:Int) ∈ chainL ns (k - 1) ↔ (u:Int) ∈ chainL ns u) (h1:-1 ≤ z) (h2:z < (k:Int)):metI ns k u true z:=.inl ⟨rfl,h.2 (chain_last ns u),h1,h2⟩
theorem metI_step {ns:List Nd} {k u v:Nat} (hv:v < k) (st:Stands ns v) (h:(u:Int) ∈ chainL ns (k - 1) ↔ (u:Int) ∈ chainL ns v) (hne:u ≠ v):metI ns k u false (upL ns v):=by
 rcases chain_up st (y:=(u:Int)) (by omega) with ⟨e,hn⟩ | ⟨p,hp,e,hi⟩
 ·exact .inr (.inl ⟨rfl,e,fun hh=>hn (h.1 hh)⟩)
 ·exact .inr (.inr ⟨rfl,p,by omega,e,h.trans hi⟩)
/-- What the second one holds: d nodes are counted, z is where it stands. -/
def cntI (ns:List Nd) (k u:Nat) (d z:Int):Prop :=
 (z = -1 ∧ d = 1 + ((chainL ns u).length:Int)) ∨ ∃ v:Nat,v < k ∧ z = (v:Int) ∧ 1 ≤ d ∧ d + ((chainL ns v).length:Int) = 1 + ((chainL ns u).length:Int)
theorem cntI_step {ns:List Nd} {k u v:Nat} {d:Int} (hv:v < k) (st:Stands ns v) (hd:1 ≤ d) (h:d + ((chainL ns v).length:Int) = 1 + ((chainL ns u).length:Int)):cntI ns k u (d + 1) (upL ns v):=by
 rcases chain_up_len st with ⟨e,hl⟩ | ⟨p,hp,e,hl⟩
 ·exact .inl ⟨e,by omega⟩
 ·exact .inr ⟨p,by omega,e,by omega,by omega⟩
theorem up_bound {ns:List Nd} {v:Nat} (st:Stands ns v):-1 ≤ upL ns v ∧ upL ns v < (v:Int):=by
 by_cases h0:v = 0
 ·have:=st.top h0;omega
 ·obtain ⟨p,hp,e,_⟩:=st.ups (by omega);omega
/-- The first k of the four lengths are good; of the three edges. -/
def okD (s:St) (k:Nat):Prop:=(0 < k → inB (-1000000) 1000000 s.mt = true) ∧ (1 < k → inB (-1000000) 1000000 s.mb = true) ∧ (2 < k → inB (-1000000) 1000000 s.ri = true) ∧ (3 < k → inB (-1000000) 1000000 s.dn = true)
def okE (s:St) (k:Nat):Prop:=(0 < k → inB 0 64000 s.bo = true) ∧ (1 < k → inB 0 64000 s.pa = true) ∧ (2 < k → inB 0 64000 s.lh = true)
def restB (s:St):Bool:=gB s && gC s && gD s && gE s
set_option maxHeartbeats 8000000 in
theorem specGood_rest (s:St) (w:World) (h1:inB 1 3 s.sh = true) (h2:inB 0 2 s.fl = true) (h3:inB 0 3 s.cl = true) (h4:inB 1 5 s.wh = true) (h5:inB 1 3 s.al = true) :
  Calls Tryz.prog 53 #[.agg #[.int .i64 s.sh,.int .i64 s.fl,.int .i64 s.cl,.bool s.w.a,.bool s.w.p,.int .i64 s.w.n,.bool s.h.a,.bool s.h.p,.int .i64 s.h.n,.int .i64 s.mn,.int .i64 s.mx,.int .i64 s.mt,.bool s.mr.a,.bool s.mr.p,.int .i64 s.mr.n,.int .i64 s.mb,.bool s.ml.a,.bool s.ml.p,.int .i64 s.ml.n,.int .i64 s.bo,.int .i64 s.pa,.int .i64 s.wh,.int .i64 s.al,.int .i64 s.lh,.int .i64 s.ri,.int .i64 s.dn]] w fun e w'=>e = .returned (.bool (restB s)) ∧ Below w.heap.size w w':=by
 go_enter Tryz.func53,Tryz.ntmps53
 go_wp2_with (first | (go_at_call 21;refine (l1In_any _ _ _ _).mono ?_;rintro e w' ⟨rfl,rfl⟩) | (go_at_call 73;refine (l3White_any _ _).mono ?_;rintro e w' ⟨rfl,rfl⟩))
 clear h1 h2 h3 h4 h5
 go_loopw [47] (fun i wr=>∃ k:Nat,k ≤ 4 ∧ i = .int .i64 k ∧ okS s k ∧ wr.heap[w.heap.size]? = some (.cells (#[.int .i64 s.sh,.int .i64 s.fl,.int .i64 s.cl,.bool s.w.a,.bool s.w.p,.int .i64 s.w.n,.bool s.h.a,.bool s.h.p,.int .i64 s.h.n,.int .i64 s.mn,.int .i64 s.mx,.int .i64 s.mt,.bool s.mr.a,.bool s.mr.p,.int .i64 s.mr.n,.int .i64 s.mb,.bool s.ml.a,.bool s.ml.p,.int .i64 s.ml.n,.int .i64 s.bo,.int .i64 s.pa,.int .i64 s.wh,.int .i64 s.al,.int .i64 s.lh,.int .i64 s.ri,.int .i64 s.dn]) 73 (0,0)) ∧ wr.heap[w.heap.size + 1]? = some (.cells (#[.bool s.w.a,.bool s.w.p,.int .i64 s.w.n,.bool s.h.a,.bool s.h.p,.int .i64 s.h.n,.bool s.ml.a,.bool s.ml.p,.int .i64 s.ml.n,.bool s.mr.a,.bool s.mr.p,.int .i64 s.mr.n]) 71 (0,0)) ∧ Below w.heap.size w wr) (fun i _=>4 - (intOf i).toNat)
 case atStart=>exact ⟨0,by omega,rfl,by unfold okS;omega,heap_in (heap_at _ _ _ rfl),heap_at _ _ _ (by simp),((Below.refl _ _).alloc (Nat.le_refl _) _).alloc (by simp) _⟩
 case round =>
  obtain ⟨k,hk,rfl,hp,l0,l1,bel⟩:=hrel
  have HP:Hid (okS s k):=hp
  clear hp
  have hx:k = 0 ∨ k = 1 ∨ k = 2 ∨ k = 3 ∨ k = 4:=by omega
  clear hk
  have hc0:=lies_cell l0
  have hc1:=lies_cell l1
  have lt1:=lies_lt l1
  have lt0:=lies_lt l0
  have L0:Hid (wr.heap[w.heap.size]? = some (.cells (#[.int .i64 s.sh,.int .i64 s.fl,.int .i64 s.cl,.bool s.w.a,.bool s.w.p,.int .i64 s.w.n,.bool s.h.a,.bool s.h.p,.int .i64 s.h.n,.int .i64 s.mn,.int .i64 s.mx,.int .i64 s.mt,.bool s.mr.a,.bool s.mr.p,.int .i64 s.mr.n,.int .i64 s.mb,.bool s.ml.a,.bool s.ml.p,.int .i64 s.ml.n,.int .i64 s.bo,.int .i64 s.pa,.int .i64 s.wh,.int .i64 s.al,.int .i64 s.lh,.int .i64 s.ri,.int .i64 s.dn]) 73 (0,0))):=l0
  have L1:Hid (wr.heap[w.heap.size + 1]? = some (.cells (#[.bool s.w.a,.bool s.w.p,.int .i64 s.w.n,.bool s.h.a,.bool s.h.p,.int .i64 s.h.n,.bool s.ml.a,.bool s.ml.p,.int .i64 s.ml.n,.bool s.mr.a,.bool s.mr.p,.int .i64 s.mr.n]) 71 (0,0))):=l1
  clear l0 l1
  rcases hx with rfl | rfl | rfl | rfl | rfl
  ·clear hc0
   cases hB:szB s.w.a s.w.p s.w.n
   ·go_wp2_with (go_at_call 74;refine (l4Size_any _ _ _ _).mono ?_;rintro e w1 ⟨rfl,hb⟩)
    go_ret
    exact ⟨ret_bool (by simp [restB,gB,hB]),(bel.alloc (by omega) _).trans (hb.mono (by simp;omega))⟩
   ·go_wp2_with (go_at_call 74;refine (l4Size_any _ _ _ _).mono ?_;rintro e w1 ⟨rfl,hb⟩)
    go_roundw
    case rel=>exact ⟨1,by omega,rfl,by have h:=HP.out;unfold okS at h ⊢;exact ⟨fun _=>hB,fun hh=>absurd hh (by omega),fun hh=>absurd hh (by omega),fun hh=>absurd hh (by omega)⟩,below_lies hb (heap_in L0.out) (by simp;omega),below_lies hb (heap_in L1.out) (by simp;omega),(bel.alloc (by omega) _).trans (hb.mono (by simp;omega))⟩
    case measure=>simp [intOf]
  ·clear hc0
   cases hB:szB s.h.a s.h.p s.h.n
   ·go_wp2_with (go_at_call 74;refine (l4Size_any _ _ _ _).mono ?_;rintro e w1 ⟨rfl,hb⟩)
    go_ret
    exact ⟨ret_bool (by simp [restB,gB,hB]),(bel.alloc (by omega) _).trans (hb.mono (by simp;omega))⟩
   ·go_wp2_with (go_at_call 74;refine (l4Size_any _ _ _ _).mono ?_;rintro e w1 ⟨rfl,hb⟩)
    go_roundw
    case rel=>exact ⟨2,by omega,rfl,by have h:=HP.out;unfold okS at h ⊢;exact ⟨fun _=>h.1 (by omega),fun _=>hB,fun hh=>absurd hh (by omega),fun hh=>absurd hh (by omega)⟩,below_lies hb (heap_in L0.out) (by simp;omega),below_lies hb (heap_in L1.out) (by simp;omega),(bel.alloc (by omega) _).trans (hb.mono (by simp;omega))⟩
    case measure=>simp [intOf]
  ·clear hc0
   cases hB:szB s.ml.a s.ml.p s.ml.n
   ·go_wp2_with (go_at_call 74;refine (l4Size_any _ _ _ _).mono ?_;rintro e w1 ⟨rfl,hb⟩)
    go_ret
    exact ⟨ret_bool (by simp [restB,gB,hB]),(bel.alloc (by omega) _).trans (hb.mono (by simp;omega))⟩
   ·go_wp2_with (go_at_call 74;refine (l4Size_any _ _ _ _).mono ?_;rintro e w1 ⟨rfl,hb⟩)
    go_roundw
    case rel=>exact ⟨3,by omega,rfl,by have h:=HP.out;unfold okS at h ⊢;exact ⟨fun _=>h.1 (by omega),fun _=>h.2.1 (by omega),fun _=>hB,fun hh=>absurd hh (by omega)⟩,below_lies hb (heap_in L0.out) (by simp;omega),below_lies hb (heap_in L1.out) (by simp;omega),(bel.alloc (by omega) _).trans (hb.mono (by simp;omega))⟩
    case measure=>simp [intOf]
  ·clear hc0
   cases hB:szB s.mr.a s.mr.p s.mr.n
   ·go_wp2_with (go_at_call 74;refine (l4Size_any _ _ _ _).mono ?_;rintro e w1 ⟨rfl,hb⟩)
    go_ret
    exact ⟨ret_bool (by simp [restB,gB,hB]),(bel.alloc (by omega) _).trans (hb.mono (by simp;omega))⟩
   ·go_wp2_with (go_at_call 74;refine (l4Size_any _ _ _ _).mono ?_;rintro e w1 ⟨rfl,hb⟩)
    go_roundw
    case rel=>exact ⟨4,by omega,rfl,by have h:=HP.out;unfold okS at h ⊢;exact ⟨fun _=>h.1 (by omega),fun _=>h.2.1 (by omega),fun _=>h.2.2.1 (by omega),fun _=>hB⟩,below_lies hb (heap_in L0.out) (by simp;omega),below_lies hb (heap_in L1.out) (by simp;omega),(bel.alloc (by omega) _).trans (hb.mono (by simp;omega))⟩
    case measure=>simp [intOf]
  ·have hG:gB s = true:=by have h:=HP.out;unfold okS at h;simp [gB,h.1,h.2.1,h.2.2.1,h.2.2.2]
   have HG:Hid (gB s = true):=hG
   clear hG HP hc1 L1
   by_cases c1:s.w.n < 0
   ·go_wp2_with (first | (go_at_call 21;refine (l1In_any _ _ _ _).mono ?_;rintro e w' ⟨rfl,rfl⟩) | (go_at_call 73;refine (l3White_any _ _).mono ?_;rintro e w' ⟨rfl,rfl⟩))
    go_ret
    exact ⟨ret_bool (by simp [restB,gC];omega),bel⟩
   have d1:decide (s.w.n < 0) = false:=by simpa using c1
   by_cases c2:s.h.n < 0
   ·go_wp2_with (first | (go_at_call 21;refine (l1In_any _ _ _ _).mono ?_;rintro e w' ⟨rfl,rfl⟩) | (go_at_call 73;refine (l3White_any _ _).mono ?_;rintro e w' ⟨rfl,rfl⟩))
    go_ret
    exact ⟨ret_bool (by simp [restB,gC];omega),bel⟩
   have d2:decide (s.h.n < 0) = false:=by simpa using c2
   cases c3:s.h.p
   rotate_left
   ·go_wp2_with (first | (go_at_call 21;refine (l1In_any _ _ _ _).mono ?_;rintro e w' ⟨rfl,rfl⟩) | (go_at_call 73;refine (l3White_any _ _).mono ?_;rintro e w' ⟨rfl,rfl⟩))
    go_ret
    exact ⟨ret_bool (by simp [restB,gC,c3]),bel⟩
   cases c4:inB 0 1000000 s.mn
   ·go_wp2_with (first | (go_at_call 21;refine (l1In_any _ _ _ _).mono ?_;rintro e w' ⟨rfl,rfl⟩) | (go_at_call 73;refine (l3White_any _ _).mono ?_;rintro e w' ⟨rfl,rfl⟩))
    go_ret
    exact ⟨ret_bool (by simp [restB,gC,c4]),bel⟩
   cases c5:inB (-1) 1000000 s.mx
   ·go_wp2_with (first | (go_at_call 21;refine (l1In_any _ _ _ _).mono ?_;rintro e w' ⟨rfl,rfl⟩) | (go_at_call 73;refine (l3White_any _ _).mono ?_;rintro e w' ⟨rfl,rfl⟩))
    go_ret
    exact ⟨ret_bool (by simp [restB,gC,c5]),bel⟩
   go_wp2_with (first | (go_at_call 21;refine (l1In_any _ _ _ _).mono ?_;rintro e w' ⟨rfl,rfl⟩) | (go_at_call 73;refine (l3White_any _ _).mono ?_;rintro e w' ⟨rfl,rfl⟩))
   have HC:Hid (gC s = true):=by show gC s = true;simp [gC,d1,d2,c3,c4,c5]
   clear c1 c2 c3 c4 c5 d1 d2
   go_loop [92] (fun i=>∃ k:Nat,k ≤ 4 ∧ i = .int .i64 k ∧ okD s k) (fun i=>4 - (intOf i).toNat)
   case atStart=>exact ⟨0,by omega,rfl,by unfold okD;omega⟩
   case round =>
    obtain ⟨k,hk,rfl,hp⟩:=hrel
    have HP:Hid (okD s k):=hp
    clear hp
    have hx:k = 0 ∨ k = 1 ∨ k = 2 ∨ k = 3 ∨ k = 4:=by omega
    clear hk
    rcases hx with rfl | rfl | rfl | rfl | rfl
    ·cases hB:inB (-1000000) 1000000 s.mt
     ·go_wp2_with (go_at_call 75;refine (specLen_any _ _).mono ?_;rintro e w' ⟨rfl,rfl⟩)
      go_ret
      exact ⟨ret_bool (by simp [restB,gD,hB]),bel.alloc (by omega) _⟩
     ·go_wp2_with (go_at_call 75;refine (specLen_any _ _).mono ?_;rintro e w' ⟨rfl,rfl⟩)
      go_round
      case rel=>exact ⟨1,by omega,rfl,by have h:=HP.out;unfold okD at h ⊢;exact ⟨fun _=>hB,fun hh=>absurd hh (by omega),fun hh=>absurd hh (by omega),fun hh=>absurd hh (by omega)⟩⟩
      case measure=>simp [intOf]
    ·cases hB:inB (-1000000) 1000000 s.mb
     ·go_wp2_with (go_at_call 75;refine (specLen_any _ _).mono ?_;rintro e w' ⟨rfl,rfl⟩)
      go_ret
      exact ⟨ret_bool (by simp [restB,gD,hB]),bel.alloc (by omega) _⟩
     ·go_wp2_with (go_at_call 75;refine (specLen_any _ _).mono ?_;rintro e w' ⟨rfl,rfl⟩)
      go_round
      case rel=>exact ⟨2,by omega,rfl,by have h:=HP.out;unfold okD at h ⊢;exact ⟨fun _=>h.1 (by omega),fun _=>hB,fun hh=>absurd hh (by omega),fun hh=>absurd hh (by omega)⟩⟩
      case measure=>simp [intOf]
    ·cases hB:inB (-1000000) 1000000 s.ri
     ·go_wp2_with (go_at_call 75;refine (specLen_any _ _).mono ?_;rintro e w' ⟨rfl,rfl⟩)
      go_ret
      exact ⟨ret_bool (by simp [restB,gD,hB]),bel.alloc (by omega) _⟩
     ·go_wp2_with (go_at_call 75;refine (specLen_any _ _).mono ?_;rintro e w' ⟨rfl,rfl⟩)
      go_round
      case rel=>exact ⟨3,by omega,rfl,by have h:=HP.out;unfold okD at h ⊢;exact ⟨fun _=>h.1 (by omega),fun _=>h.2.1 (by omega),fun _=>hB,fun hh=>absurd hh (by omega)⟩⟩
      case measure=>simp [intOf]
    ·cases hB:inB (-1000000) 1000000 s.dn
     ·go_wp2_with (go_at_call 75;refine (specLen_any _ _).mono ?_;rintro e w' ⟨rfl,rfl⟩)
      go_ret
      exact ⟨ret_bool (by simp [restB,gD,hB]),bel.alloc (by omega) _⟩
     ·go_wp2_with (go_at_call 75;refine (specLen_any _ _).mono ?_;rintro e w' ⟨rfl,rfl⟩)
      go_round
      case rel=>exact ⟨4,by omega,rfl,by have h:=HP.out;unfold okD at h ⊢;exact ⟨fun _=>h.1 (by omega),fun _=>h.2.1 (by omega),fun _=>h.2.2.1 (by omega),fun _=>hB⟩⟩
      case measure=>simp [intOf]
    ·have HD:Hid (gD s = true):=by
      show gD s = true
      have h:=HP.out
      unfold okD at h
      simp [gD,h.1,h.2.1,h.2.2.1,h.2.2.2]
     clear HP
     go_wp2_with fail
     go_loop [108] (fun i=>∃ k:Nat,k ≤ 3 ∧ i = .int .i64 k ∧ okE s k) (fun i=>3 - (intOf i).toNat)
     case atStart=>exact ⟨0,by omega,rfl,by unfold okE;omega⟩
     case round =>
      obtain ⟨k,hk,rfl,hp⟩:=hrel
      have HP:Hid (okE s k):=hp
      clear hp
      have hx:k = 0 ∨ k = 1 ∨ k = 2 ∨ k = 3:=by omega
      clear hk
      rcases hx with rfl | rfl | rfl | rfl
      ·cases hB:inB 0 64000 s.bo
       ·go_wp2_with (first | (go_at_call 21;refine (l1In_any _ _ _ _).mono ?_;rintro e w' ⟨rfl,rfl⟩) | (go_at_call 73;refine (l3White_any _ _).mono ?_;rintro e w' ⟨rfl,rfl⟩))
        go_ret
        exact ⟨ret_bool (by simp [restB,gE,hB]),(bel.alloc (by omega) _).alloc (by simp;omega) _⟩
       ·go_wp2_with (first | (go_at_call 21;refine (l1In_any _ _ _ _).mono ?_;rintro e w' ⟨rfl,rfl⟩) | (go_at_call 73;refine (l3White_any _ _).mono ?_;rintro e w' ⟨rfl,rfl⟩))
        go_round
        case rel=>exact ⟨1,by omega,rfl,by have h:=HP.out;unfold okE at h ⊢;exact ⟨fun _=>hB,fun hh=>absurd hh (by omega),fun hh=>absurd hh (by omega)⟩⟩
        case measure=>simp [intOf]
      ·cases hB:inB 0 64000 s.pa
       ·go_wp2_with (first | (go_at_call 21;refine (l1In_any _ _ _ _).mono ?_;rintro e w' ⟨rfl,rfl⟩) | (go_at_call 73;refine (l3White_any _ _).mono ?_;rintro e w' ⟨rfl,rfl⟩))
        go_ret
        exact ⟨ret_bool (by simp [restB,gE,hB]),(bel.alloc (by omega) _).alloc (by simp;omega) _⟩
       ·go_wp2_with (first | (go_at_call 21;refine (l1In_any _ _ _ _).mono ?_;rintro e w' ⟨rfl,rfl⟩) | (go_at_call 73;refine (l3White_any _ _).mono ?_;rintro e w' ⟨rfl,rfl⟩))
        go_round
        case rel=>exact ⟨2,by omega,rfl,by have h:=HP.out;unfold okE at h ⊢;exact ⟨fun _=>h.1 (by omega),fun _=>hB,fun hh=>absurd hh (by omega)⟩⟩
        case measure=>simp [intOf]
      ·cases hB:inB 0 64000 s.lh
       ·go_wp2_with (first | (go_at_call 21;refine (l1In_any _ _ _ _).mono ?_;rintro e w' ⟨rfl,rfl⟩) | (go_at_call 73;refine (l3White_any _ _).mono ?_;rintro e w' ⟨rfl,rfl⟩))
        go_ret
        exact ⟨ret_bool (by simp [restB,gE,hB]),(bel.alloc (by omega) _).alloc (by simp;omega) _⟩
       ·go_wp2_with (first | (go_at_call 21;refine (l1In_any _ _ _ _).mono ?_;rintro e w' ⟨rfl,rfl⟩) | (go_at_call 73;refine (l3White_any _ _).mono ?_;rintro e w' ⟨rfl,rfl⟩))
        go_round
        case rel=>exact ⟨3,by omega,rfl,by have h:=HP.out;unfold okE at h ⊢;exact ⟨fun _=>h.1 (by omega),fun _=>h.2.1 (by omega),fun _=>hB⟩⟩
        case measure=>simp [intOf]
      ·go_wp2
       go_ret
       refine ⟨ret_bool ?_,(bel.alloc (by omega) _).alloc (by simp;omega) _⟩
       have h:=HP.out
       unfold okE at h
       simp [restB,HG.out,HC.out,HD.out,gE,h.1,h.2.1,h.2.2]
theorem specGoodStyle_any (s:St) (w:World) :
  Calls Tryz.prog 53 #[.agg #[.int .i64 s.sh,.int .i64 s.fl,.int .i64 s.cl,.bool s.w.a,.bool s.w.p,.int .i64 s.w.n,.bool s.h.a,.bool s.h.p,.int .i64 s.h.n,.int .i64 s.mn,.int .i64 s.mx,.int .i64 s.mt,.bool s.mr.a,.bool s.mr.p,.int .i64 s.mr.n,.int .i64 s.mb,.bool s.ml.a,.bool s.ml.p,.int .i64 s.ml.n,.int .i64 s.bo,.int .i64 s.pa,.int .i64 s.wh,.int .i64 s.al,.int .i64 s.lh,.int .i64 s.ri,.int .i64 s.dn]] w fun e w'=>e = .returned (.bool (styleB s)) ∧ Below w.heap.size w w':=by
 cases h:gA s
 ·have e:styleB s = false:=by simp [styleB,h]
  rw [e]
  exact specGood_A s w h
 ·have e:styleB s = restB s:=by simp [styleB,restB,h]
  rw [e]
  simp only [gA,Bool.and_eq_true] at h
  exact specGood_rest s w h.1.1.1.1 h.1.1.1.2 h.1.1.2 h.1.2 h.2
end Go.Proofs.YtjnmloaopnbpgaaGreatDoor
