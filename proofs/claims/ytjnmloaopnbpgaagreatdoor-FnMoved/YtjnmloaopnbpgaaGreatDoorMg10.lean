/-
 The model's GoodTree, for every row of nodes: it says just what treeB says.
 Boxes as plain data.
 The plain mathematics of what is kept of a text: tabs and line breaks made blanks, blanks joined with one held back (as the program has it), and the row that the model has behind so many bytes.
-/
import Derived.Test.YtjnmloaopnbpgaaGreatDoorMg9
namespace Go.Proofs.YtjnmloaopnbpgaaGreatDoor
open Go.ChangeShapes Go.WideShapes Go.ChangeAt Go.RowKit
set_option linter.unusedVariables false
set_option maxRecDepth 100000 in
set_option maxHeartbeats 8000000 in
theorem specTree_loop (b off n cap:Nat) (ns:List Nd) (w:World) (hn:ns.length = n) (h1:1 ≤ n) (h40:n ≤ 40) (hs:∀ x ∈ ns,x.tx.size ≤ 1048576)
  (hc:∀ i x,ns[i]? = some x → w.rangeAt b (off + i * 28) (ndL x)) :
  Calls Tryz.prog 34 #[.slice (some ⟨b,off,none⟩) n cap] w fun e w'=>e = .returned (.bool (treeB (okB true) styleB ns)) ∧ Below w.heap.size w w':=by
 have IN:=l1In_any (n:Int) 1 40
 rw [show inB 1 40 (n:Int) = true by simp [inB];omega] at IN
 have HC:Hid (∀ i x,ns[i]? = some x → w.rangeAt b (off + i * 28) (ndL x)):=hc
 have HS:Hid (∀ x ∈ ns,x.tx.size ≤ 1048576):=hs
 clear hc hs
 go_enter Tryz.func34,Tryz.ntmps34
 go_wp2_with fail
 refine (IN _).mono ?_
 rintro e w' ⟨rfl,hw⟩
 have hw:=hw.symm
 subst hw
 clear IN
 go_wp2_with fail
 go_loopw [15] (fun i wr=>∃ k:Nat,k ≤ n ∧ i = .int .i64 k ∧ (∀ j,j < k → okAt (okB true) styleB ns j = true) ∧ Below w.heap.size w wr) (fun i _=>n - (intOf i).toNat)
 case atStart=>exact ⟨0,Nat.zero_le _,rfl,fun j hj=>absurd hj (by omega),Below.refl _ _⟩
 case round =>
  obtain ⟨k,hk,rfl,hp,hbw⟩:=hrel
  have HP:Hid (∀ j,j < k → okAt (okB true) styleB ns j = true):=hp
  clear hp
  by_cases hlt:k < n
  rotate_left
  ·go_wp2
   go_ret
   have e:k = n:=by omega
   exact ⟨ret_bool (treeB_yes (by omega) (by omega) fun j hj=>HP.out j (by omega)).symm,hbw⟩
  have HUp:Hid (∀ j,j < k → okUp ns j = true):=fun j hj=>okAt_up (HP.out j hj)
  obtain ⟨x,hx⟩:∃ x,ns[k]? = some x:=⟨_,List.getElem?_eq_getElem (by omega)⟩
  have HX:Hid (ns.getD k nd0 = x):=getD_of hx
  have HXu:Hid (upL ns k = x.up):=by show upL ns k = x.up;unfold upL;rw [HX.out]
  have HXt:Hid (isT ns k = zeroS x.st):=by show isT ns k = _;unfold isT;rw [HX.out]
  have hr:=range_below (HC.out k x hx) hbw (range_lt (HC.out k x hx))
  have hxs:x.tx.size ≤ maxLen:=by have:=HS.out x (List.mem_of_getElem? hx);unfold maxLen;omega
  have TX:=fun W=>specIsText_any x W
  clear hx HS
  by_cases hk0:k = 0
  ·subst hk0
   rw [Nat.zero_mul,Nat.add_zero] at hr
   by_cases hu:x.up = -1
   rotate_left
   ·have HF:Hid (treeB (okB true) styleB ns = false):=tree_not_up (k:=0) (by omega) (by rw [okUp,if_pos rfl,HXu.out,decide_eq_false hu];rfl)
    have hq:(x.up == -1) = false:=by simpa using hu
    go_wp2_with (first
     | (with_reducible show wpList _ _ _ (⟨some 19,Op.load 75 _,_,_,_,_⟩ :: _) _ _;refine wpList_load_mid rfl 75 _ rfl b off rfl (ndL x) _ hr Tryz.underlying75 rfl (by kernel_rfl) ?_)
     | (with_reducible show wpList _ _ _ (⟨none,Op.store 75 _ _,_,_,_,_⟩ :: _) _ _;refine wpList_store_box rfl 75 _ _ rfl rfl (#[.int .i64 x.up,.string x.tx,.int .i64 x.st.sh,.int .i64 x.st.fl,.int .i64 x.st.cl,.bool x.st.w.a,.bool x.st.w.p,.int .i64 x.st.w.n,.bool x.st.h.a,.bool x.st.h.p,.int .i64 x.st.h.n,.int .i64 x.st.mn,.int .i64 x.st.mx,.int .i64 x.st.mt,.bool x.st.mr.a,.bool x.st.mr.p,.int .i64 x.st.mr.n,.int .i64 x.st.mb,.bool x.st.ml.a,.bool x.st.ml.p,.int .i64 x.st.ml.n,.int .i64 x.st.bo,.int .i64 x.st.pa,.int .i64 x.st.wh,.int .i64 x.st.al,.int .i64 x.st.lh,.int .i64 x.st.ri,.int .i64 x.st.dn]) rfl rfl (by kernel_rfl) rfl (by kernel_rfl) ?_;intro W bel l0 hsz;refine stay ?_))
    have hc0:W.cell? ⟨wr.heap.size,0,none⟩ = some (.int .i64 x.up):=(lies_cell l0 0).trans rfl
    have hc1:W.cell? ⟨wr.heap.size,1,none⟩ = some (.string x.tx):=(lies_cell l0 1).trans rfl
    have l0:Hid (W.heap[wr.heap.size]? = some (.cells (#[.int .i64 x.up,.string x.tx,.int .i64 x.st.sh,.int .i64 x.st.fl,.int .i64 x.st.cl,.bool x.st.w.a,.bool x.st.w.p,.int .i64 x.st.w.n,.bool x.st.h.a,.bool x.st.h.p,.int .i64 x.st.h.n,.int .i64 x.st.mn,.int .i64 x.st.mx,.int .i64 x.st.mt,.bool x.st.mr.a,.bool x.st.mr.p,.int .i64 x.st.mr.n,.int .i64 x.st.mb,.bool x.st.ml.a,.bool x.st.ml.p,.int .i64 x.st.ml.n,.int .i64 x.st.bo,.int .i64 x.st.pa,.int .i64 x.st.wh,.int .i64 x.st.al,.int .i64 x.st.lh,.int .i64 x.st.ri,.int .i64 x.st.dn]) 75 (0,0))):=l0
    have bW:=hbw.trans (bel.mono hbw.size)
    have ltW:wr.heap.size < W.heap.size:=by omega
    unfold Stay
    clear hr bel hbw
    clear TX HC
    go_wp2
    go_ret
    exact ⟨ret_bool HF.out.symm,bW⟩
   have HU:Hid (x.up = -1):=hu
   go_wp2_with (first
    | (with_reducible show wpList _ _ _ (⟨some 19,Op.load 75 _,_,_,_,_⟩ :: _) _ _;refine wpList_load_mid rfl 75 _ rfl b off rfl (ndL x) _ hr Tryz.underlying75 rfl (by kernel_rfl) ?_)
    | (with_reducible show wpList _ _ _ (⟨none,Op.store 75 _ _,_,_,_,_⟩ :: _) _ _;refine wpList_store_box rfl 75 _ _ rfl rfl (#[.int .i64 x.up,.string x.tx,.int .i64 x.st.sh,.int .i64 x.st.fl,.int .i64 x.st.cl,.bool x.st.w.a,.bool x.st.w.p,.int .i64 x.st.w.n,.bool x.st.h.a,.bool x.st.h.p,.int .i64 x.st.h.n,.int .i64 x.st.mn,.int .i64 x.st.mx,.int .i64 x.st.mt,.bool x.st.mr.a,.bool x.st.mr.p,.int .i64 x.st.mr.n,.int .i64 x.st.mb,.bool x.st.ml.a,.bool x.st.ml.p,.int .i64 x.st.ml.n,.int .i64 x.st.bo,.int .i64 x.st.pa,.int .i64 x.st.wh,.int .i64 x.st.al,.int .i64 x.st.lh,.int .i64 x.st.ri,.int .i64 x.st.dn]) rfl rfl (by kernel_rfl) rfl (by kernel_rfl) ?_;intro W bel l0 hsz;refine stay ?_))
   have hc0:W.cell? ⟨wr.heap.size,0,none⟩ = some (.int .i64 x.up):=(lies_cell l0 0).trans rfl
   have hc1:W.cell? ⟨wr.heap.size,1,none⟩ = some (.string x.tx):=(lies_cell l0 1).trans rfl
   have l0:Hid (W.heap[wr.heap.size]? = some (.cells (#[.int .i64 x.up,.string x.tx,.int .i64 x.st.sh,.int .i64 x.st.fl,.int .i64 x.st.cl,.bool x.st.w.a,.bool x.st.w.p,.int .i64 x.st.w.n,.bool x.st.h.a,.bool x.st.h.p,.int .i64 x.st.h.n,.int .i64 x.st.mn,.int .i64 x.st.mx,.int .i64 x.st.mt,.bool x.st.mr.a,.bool x.st.mr.p,.int .i64 x.st.mr.n,.int .i64 x.st.mb,.bool x.st.ml.a,.bool x.st.ml.p,.int .i64 x.st.ml.n,.int .i64 x.st.bo,.int .i64 x.st.pa,.int .i64 x.st.wh,.int .i64 x.st.al,.int .i64 x.st.lh,.int .i64 x.st.ri,.int .i64 x.st.dn]) 75 (0,0))):=l0
   have bW:=hbw.trans (bel.mono hbw.size)
   have ltW:wr.heap.size < W.heap.size:=by omega
   unfold Stay
   clear hr bel hbw
   rw [HU.out] at hc0
   clear HC
   have IN:=l1In_any (-1:Int) (-1) (-1)
   rw [show inB (-1) (-1) (-1:Int) = true by simp [inB]] at IN
   go_wp2_with (go_at_call 21;refine (IN _).mono ?_;rintro e w' ⟨rfl,hw⟩;have hw:=hw.symm;subst hw)
   refine wp_loop_rounds 1 ?_
   rw [rounds_succ]
   go_wp2
   refine wp_loop_rounds 1 ?_
   rw [rounds_succ]
   have b1:=bW
   have l1:=l0
   clear bW l0 IN hc0 hc1
   have rb:=range_box l1.out
   go_wp2_with (with_reducible show wpList _ _ _ (⟨some 82,Op.load 75 _,_,_,_,_⟩ :: _) _ _;refine wpList_load_mid rfl 75 _ rfl wr.heap.size 0 rfl (ndL x) _ rb Tryz.underlying75 rfl (by kernel_rfl) ?_)
   refine (TX _).mono ?_
   rintro e w2 ⟨rfl,hb2⟩
   have b2:=b1.trans (hb2.mono b1.size)
   have l2:Hid (w2.heap[wr.heap.size]? = some (.cells (#[.int .i64 x.up,.string x.tx,.int .i64 x.st.sh,.int .i64 x.st.fl,.int .i64 x.st.cl,.bool x.st.w.a,.bool x.st.w.p,.int .i64 x.st.w.n,.bool x.st.h.a,.bool x.st.h.p,.int .i64 x.st.h.n,.int .i64 x.st.mn,.int .i64 x.st.mx,.int .i64 x.st.mt,.bool x.st.mr.a,.bool x.st.mr.p,.int .i64 x.st.mr.n,.int .i64 x.st.mb,.bool x.st.ml.a,.bool x.st.ml.p,.int .i64 x.st.ml.n,.int .i64 x.st.bo,.int .i64 x.st.pa,.int .i64 x.st.wh,.int .i64 x.st.al,.int .i64 x.st.lh,.int .i64 x.st.ri,.int .i64 x.st.dn]) 75 (0,0))):=below_lies hb2 l1.out (lies_lt l1.out)
   have hd1:w2.cell? ⟨wr.heap.size,1,none⟩ = some (.string x.tx):=(lies_cell l2.out 1).trans rfl
   clear hb2 b1 l1 rb
   cases hz:zeroS x.st
   ·skip
    by_cases hx0:x.tx.size = 0
    rotate_left
    ·have HF:Hid (treeB (okB true) styleB ns = false):=tree_not_node (k:=0) (by omega) HX.out (by show okN _ _ x = false;simp [okN,hz,hx0])
     have e1:=tx_not_nil hx0
     go_wp2
     go_ret
     exact ⟨ret_bool HF.out.symm,b2⟩
    have e1:=tx_nil hx0
    have R2:w2.rangeAt wr.heap.size 2 (#[.int .i64 x.st.sh,.int .i64 x.st.fl,.int .i64 x.st.cl,.bool x.st.w.a,.bool x.st.w.p,.int .i64 x.st.w.n,.bool x.st.h.a,.bool x.st.h.p,.int .i64 x.st.h.n,.int .i64 x.st.mn,.int .i64 x.st.mx,.int .i64 x.st.mt,.bool x.st.mr.a,.bool x.st.mr.p,.int .i64 x.st.mr.n,.int .i64 x.st.mb,.bool x.st.ml.a,.bool x.st.ml.p,.int .i64 x.st.ml.n,.int .i64 x.st.bo,.int .i64 x.st.pa,.int .i64 x.st.wh,.int .i64 x.st.al,.int .i64 x.st.lh,.int .i64 x.st.ri,.int .i64 x.st.dn]:Array Value).toList:=fun j v hj=>(lies_cell l2.out (2 + j)).trans (by rw [← hj,show (#[.int .i64 x.st.sh,.int .i64 x.st.fl,.int .i64 x.st.cl,.bool x.st.w.a,.bool x.st.w.p,.int .i64 x.st.w.n,.bool x.st.h.a,.bool x.st.h.p,.int .i64 x.st.h.n,.int .i64 x.st.mn,.int .i64 x.st.mx,.int .i64 x.st.mt,.bool x.st.mr.a,.bool x.st.mr.p,.int .i64 x.st.mr.n,.int .i64 x.st.mb,.bool x.st.ml.a,.bool x.st.ml.p,.int .i64 x.st.ml.n,.int .i64 x.st.bo,.int .i64 x.st.pa,.int .i64 x.st.wh,.int .i64 x.st.al,.int .i64 x.st.lh,.int .i64 x.st.ri,.int .i64 x.st.dn]:Array Value).toList = (#[.int .i64 x.up,.string x.tx,.int .i64 x.st.sh,.int .i64 x.st.fl,.int .i64 x.st.cl,.bool x.st.w.a,.bool x.st.w.p,.int .i64 x.st.w.n,.bool x.st.h.a,.bool x.st.h.p,.int .i64 x.st.h.n,.int .i64 x.st.mn,.int .i64 x.st.mx,.int .i64 x.st.mt,.bool x.st.mr.a,.bool x.st.mr.p,.int .i64 x.st.mr.n,.int .i64 x.st.mb,.bool x.st.ml.a,.bool x.st.ml.p,.int .i64 x.st.ml.n,.int .i64 x.st.bo,.int .i64 x.st.pa,.int .i64 x.st.wh,.int .i64 x.st.al,.int .i64 x.st.lh,.int .i64 x.st.ri,.int .i64 x.st.dn]:Array Value).toList.drop 2 from rfl,List.getElem?_drop];simp)
    cases hG:styleB x.st
    ·have HF:Hid (treeB (okB true) styleB ns = false):=tree_not_node (k:=0) (by omega) HX.out (by show okN _ _ x = false;simp [okN,hz,hx0,hG])
     have GS:=fun W=>specGoodStyle_any x.st W
     rw [hG] at GS
     go_wp2_with (with_reducible show wpList _ _ _ (⟨some 102,Op.load 73 _,_,_,_,_⟩ :: _) _ _;refine wpList_load_midG ?qa1 73 _ rfl wr.heap.size 2 ?qb1 (#[.int .i64 x.st.sh,.int .i64 x.st.fl,.int .i64 x.st.cl,.bool x.st.w.a,.bool x.st.w.p,.int .i64 x.st.w.n,.bool x.st.h.a,.bool x.st.h.p,.int .i64 x.st.h.n,.int .i64 x.st.mn,.int .i64 x.st.mx,.int .i64 x.st.mt,.bool x.st.mr.a,.bool x.st.mr.p,.int .i64 x.st.mr.n,.int .i64 x.st.mb,.bool x.st.ml.a,.bool x.st.ml.p,.int .i64 x.st.ml.n,.int .i64 x.st.bo,.int .i64 x.st.pa,.int .i64 x.st.wh,.int .i64 x.st.al,.int .i64 x.st.lh,.int .i64 x.st.ri,.int .i64 x.st.dn]:Array Value).toList _ R2 Tryz.underlying73 rfl (by kernel_rfl) ?_)
     try (case qb1=>rfl)
     go_wp2_with fail
     refine (GS _).mono ?_
     rintro e w3 ⟨rfl,hb3⟩
     have b3:=b2.trans (hb3.mono b2.size)
     go_wp2
     go_ret
     exact ⟨ret_bool HF.out.symm,b3⟩
    ·have HN:Hid (okN (okB true) styleB x = true):=by show okN _ _ x = true;simp [okN,hz,hx0,hG]
     have GS:=fun W=>specGoodStyle_any x.st W
     rw [hG] at GS
     go_wp2_with (with_reducible show wpList _ _ _ (⟨some 102,Op.load 73 _,_,_,_,_⟩ :: _) _ _;refine wpList_load_midG ?qa2 73 _ rfl wr.heap.size 2 ?qb2 (#[.int .i64 x.st.sh,.int .i64 x.st.fl,.int .i64 x.st.cl,.bool x.st.w.a,.bool x.st.w.p,.int .i64 x.st.w.n,.bool x.st.h.a,.bool x.st.h.p,.int .i64 x.st.h.n,.int .i64 x.st.mn,.int .i64 x.st.mx,.int .i64 x.st.mt,.bool x.st.mr.a,.bool x.st.mr.p,.int .i64 x.st.mr.n,.int .i64 x.st.mb,.bool x.st.ml.a,.bool x.st.ml.p,.int .i64 x.st.ml.n,.int .i64 x.st.bo,.int .i64 x.st.pa,.int .i64 x.st.wh,.int .i64 x.st.al,.int .i64 x.st.lh,.int .i64 x.st.ri,.int .i64 x.st.dn]:Array Value).toList _ R2 Tryz.underlying73 rfl (by kernel_rfl) ?_)
     try (case qb2=>rfl)
     go_wp2_with fail
     refine (GS _).mono ?_
     rintro e w3 ⟨rfl,hb3⟩
     have b3:=b2.trans (hb3.mono b2.size)
     clear hb3 R2 GS b2
     go_wp2
     go_roundw
     case rel=>exact ⟨0 + 1,by omega,by go_num,snocB (f:=okAt (okB true) styleB) HP.out (okAt_mk (by rw [okUp,if_pos rfl,HXu.out,HU.out,HXt.out,hz];rfl) HX.out HN.out),b3⟩
     case measure=>simp [intOf];omega
   ·have HF:Hid (treeB (okB true) styleB ns = false):=tree_not_up (k:=0) (by omega) (by rw [okUp,if_pos rfl,HXt.out,hz];simp)
    go_wp2
    go_ret
    exact ⟨ret_bool HF.out.symm,b2⟩
  have hkp:0 < k:=by omega
  have hq0:((k:Int) == 0) = false:=by simp;omega
  have hk1:(0:Int) < (k:Int):=by omega
  have IN:=l1In_any x.up (-1) ((k:Int) - 1)
  by_cases hu:x.up = -1
  ·have HF:Hid (treeB (okB true) styleB ns = false):=tree_not_up (k:=k) (by omega) (okUp_far hkp HUp.out (by rw [HXu.out];omega))
   go_wp2_with (first
    | (with_reducible show wpList _ _ _ (⟨some 19,Op.load 75 _,_,_,_,_⟩ :: _) _ _;refine wpList_load_mid rfl 75 _ rfl b (off + k * 28) rfl (ndL x) _ hr Tryz.underlying75 rfl (by kernel_rfl) ?_)
    | (with_reducible show wpList _ _ _ (⟨none,Op.store 75 _ _,_,_,_,_⟩ :: _) _ _;refine wpList_store_box rfl 75 _ _ rfl rfl (#[.int .i64 x.up,.string x.tx,.int .i64 x.st.sh,.int .i64 x.st.fl,.int .i64 x.st.cl,.bool x.st.w.a,.bool x.st.w.p,.int .i64 x.st.w.n,.bool x.st.h.a,.bool x.st.h.p,.int .i64 x.st.h.n,.int .i64 x.st.mn,.int .i64 x.st.mx,.int .i64 x.st.mt,.bool x.st.mr.a,.bool x.st.mr.p,.int .i64 x.st.mr.n,.int .i64 x.st.mb,.bool x.st.ml.a,.bool x.st.ml.p,.int .i64 x.st.ml.n,.int .i64 x.st.bo,.int .i64 x.st.pa,.int .i64 x.st.wh,.int .i64 x.st.al,.int .i64 x.st.lh,.int .i64 x.st.ri,.int .i64 x.st.dn]) rfl rfl (by kernel_rfl) rfl (by kernel_rfl) ?_;intro W bel l0 hsz;refine stay ?_))
   have hc0:W.cell? ⟨wr.heap.size,0,none⟩ = some (.int .i64 x.up):=(lies_cell l0 0).trans rfl
   have hc1:W.cell? ⟨wr.heap.size,1,none⟩ = some (.string x.tx):=(lies_cell l0 1).trans rfl
   have l0:Hid (W.heap[wr.heap.size]? = some (.cells (#[.int .i64 x.up,.string x.tx,.int .i64 x.st.sh,.int .i64 x.st.fl,.int .i64 x.st.cl,.bool x.st.w.a,.bool x.st.w.p,.int .i64 x.st.w.n,.bool x.st.h.a,.bool x.st.h.p,.int .i64 x.st.h.n,.int .i64 x.st.mn,.int .i64 x.st.mx,.int .i64 x.st.mt,.bool x.st.mr.a,.bool x.st.mr.p,.int .i64 x.st.mr.n,.int .i64 x.st.mb,.bool x.st.ml.a,.bool x.st.ml.p,.int .i64 x.st.ml.n,.int .i64 x.st.bo,.int .i64 x.st.pa,.int .i64 x.st.wh,.int .i64 x.st.al,.int .i64 x.st.lh,.int .i64 x.st.ri,.int .i64 x.st.dn]) 75 (0,0))):=l0
   have bW:=hbw.trans (bel.mono hbw.size)
   have ltW:wr.heap.size < W.heap.size:=by omega
   unfold Stay
   clear hr bel hbw
   rw [hu] at hc0
   clear TX HC IN
   go_wp2
   go_ret
   exact ⟨ret_bool HF.out.symm,bW⟩
  have hqu:(x.up == -1) = false:=by simpa using hu
  by_cases hin:0 ≤ x.up ∧ x.up < (k:Int)
  rotate_left
  ·have HF:Hid (treeB (okB true) styleB ns = false):=tree_not_up (k:=k) (by omega) (okUp_far hkp HUp.out (by rw [HXu.out];exact hin))
   rw [show inB (-1) ((k:Int) - 1) x.up = false by simp [inB];omega] at IN
   go_wp2_with (first
    | (with_reducible show wpList _ _ _ (⟨some 19,Op.load 75 _,_,_,_,_⟩ :: _) _ _;refine wpList_load_mid rfl 75 _ rfl b (off + k * 28) rfl (ndL x) _ hr Tryz.underlying75 rfl (by kernel_rfl) ?_)
    | (with_reducible show wpList _ _ _ (⟨none,Op.store 75 _ _,_,_,_,_⟩ :: _) _ _;refine wpList_store_box rfl 75 _ _ rfl rfl (#[.int .i64 x.up,.string x.tx,.int .i64 x.st.sh,.int .i64 x.st.fl,.int .i64 x.st.cl,.bool x.st.w.a,.bool x.st.w.p,.int .i64 x.st.w.n,.bool x.st.h.a,.bool x.st.h.p,.int .i64 x.st.h.n,.int .i64 x.st.mn,.int .i64 x.st.mx,.int .i64 x.st.mt,.bool x.st.mr.a,.bool x.st.mr.p,.int .i64 x.st.mr.n,.int .i64 x.st.mb,.bool x.st.ml.a,.bool x.st.ml.p,.int .i64 x.st.ml.n,.int .i64 x.st.bo,.int .i64 x.st.pa,.int .i64 x.st.wh,.int .i64 x.st.al,.int .i64 x.st.lh,.int .i64 x.st.ri,.int .i64 x.st.dn]) rfl rfl (by kernel_rfl) rfl (by kernel_rfl) ?_;intro W bel l0 hsz;refine stay ?_))
   have hc0:W.cell? ⟨wr.heap.size,0,none⟩ = some (.int .i64 x.up):=(lies_cell l0 0).trans rfl
   have hc1:W.cell? ⟨wr.heap.size,1,none⟩ = some (.string x.tx):=(lies_cell l0 1).trans rfl
   have l0:Hid (W.heap[wr.heap.size]? = some (.cells (#[.int .i64 x.up,.string x.tx,.int .i64 x.st.sh,.int .i64 x.st.fl,.int .i64 x.st.cl,.bool x.st.w.a,.bool x.st.w.p,.int .i64 x.st.w.n,.bool x.st.h.a,.bool x.st.h.p,.int .i64 x.st.h.n,.int .i64 x.st.mn,.int .i64 x.st.mx,.int .i64 x.st.mt,.bool x.st.mr.a,.bool x.st.mr.p,.int .i64 x.st.mr.n,.int .i64 x.st.mb,.bool x.st.ml.a,.bool x.st.ml.p,.int .i64 x.st.ml.n,.int .i64 x.st.bo,.int .i64 x.st.pa,.int .i64 x.st.wh,.int .i64 x.st.al,.int .i64 x.st.lh,.int .i64 x.st.ri,.int .i64 x.st.dn]) 75 (0,0))):=l0
   have bW:=hbw.trans (bel.mono hbw.size)
   have ltW:wr.heap.size < W.heap.size:=by omega
   unfold Stay
   clear hr bel hbw
   clear TX HC
   go_wp2_with (go_at_call 21;refine (IN _).mono ?_;rintro e w' ⟨rfl,hw⟩;have hw:=hw.symm;subst hw)
   go_ret
   exact ⟨ret_bool HF.out.symm,bW⟩
  rw [show inB (-1) ((k:Int) - 1) x.up = true by simp [inB];omega] at IN
  obtain ⟨u,hxu⟩:∃ u:Nat,x.up = (u:Int):=⟨x.up.toNat,by omega⟩
  have hul:u < k:=by omega
  have HE:Hid (upL ns k = (u:Int)):=by show upL ns k = _;rw [HXu.out,hxu]
  have HXU:Hid (x.up = (u:Int)):=hxu
  rw [hxu] at IN hqu
  have hcw:=hbw
  clear hu hin
  go_wp2_with (first
   | (with_reducible show wpList _ _ _ (⟨some 19,Op.load 75 _,_,_,_,_⟩ :: _) _ _;refine wpList_load_mid rfl 75 _ rfl b (off + k * 28) rfl (ndL x) _ hr Tryz.underlying75 rfl (by kernel_rfl) ?_)
   | (with_reducible show wpList _ _ _ (⟨none,Op.store 75 _ _,_,_,_,_⟩ :: _) _ _;refine wpList_store_box rfl 75 _ _ rfl rfl (#[.int .i64 x.up,.string x.tx,.int .i64 x.st.sh,.int .i64 x.st.fl,.int .i64 x.st.cl,.bool x.st.w.a,.bool x.st.w.p,.int .i64 x.st.w.n,.bool x.st.h.a,.bool x.st.h.p,.int .i64 x.st.h.n,.int .i64 x.st.mn,.int .i64 x.st.mx,.int .i64 x.st.mt,.bool x.st.mr.a,.bool x.st.mr.p,.int .i64 x.st.mr.n,.int .i64 x.st.mb,.bool x.st.ml.a,.bool x.st.ml.p,.int .i64 x.st.ml.n,.int .i64 x.st.bo,.int .i64 x.st.pa,.int .i64 x.st.wh,.int .i64 x.st.al,.int .i64 x.st.lh,.int .i64 x.st.ri,.int .i64 x.st.dn]) rfl rfl (by kernel_rfl) rfl (by kernel_rfl) ?_;intro W bel l0 hsz;refine stay ?_))
  have hc0:W.cell? ⟨wr.heap.size,0,none⟩ = some (.int .i64 x.up):=(lies_cell l0 0).trans rfl
  have hc1:W.cell? ⟨wr.heap.size,1,none⟩ = some (.string x.tx):=(lies_cell l0 1).trans rfl
  have l0:Hid (W.heap[wr.heap.size]? = some (.cells (#[.int .i64 x.up,.string x.tx,.int .i64 x.st.sh,.int .i64 x.st.fl,.int .i64 x.st.cl,.bool x.st.w.a,.bool x.st.w.p,.int .i64 x.st.w.n,.bool x.st.h.a,.bool x.st.h.p,.int .i64 x.st.h.n,.int .i64 x.st.mn,.int .i64 x.st.mx,.int .i64 x.st.mt,.bool x.st.mr.a,.bool x.st.mr.p,.int .i64 x.st.mr.n,.int .i64 x.st.mb,.bool x.st.ml.a,.bool x.st.ml.p,.int .i64 x.st.ml.n,.int .i64 x.st.bo,.int .i64 x.st.pa,.int .i64 x.st.wh,.int .i64 x.st.al,.int .i64 x.st.lh,.int .i64 x.st.ri,.int .i64 x.st.dn]) 75 (0,0))):=l0
  have bW:=hbw.trans (bel.mono hbw.size)
  have ltW:wr.heap.size < W.heap.size:=by omega
  unfold Stay
  clear hr bel hbw
  rw [HXU.out] at hc0
  have CU:Hid (∀ v:Nat,v < n → W.cell? ⟨b,off + v * 28,none⟩ = some (.int .i64 (upL ns v))):=fun v hv=>by
   obtain ⟨y,hy⟩:∃ y,ns[v]? = some y:=⟨_,List.getElem?_eq_getElem (by omega)⟩
   have h:=range_below (HC.out v y hy) bW (range_lt (HC.out v y hy)) 0 _ rfl
   rw [Nat.add_zero] at h
   rw [h,upL,getD_of hy]
  have HST:Hid (∀ v,v < k → Stands ns v):=stands_of k HUp.out
  obtain ⟨y,hy⟩:∃ y,ns[u]? = some y:=⟨_,List.getElem?_eq_getElem (by omega)⟩
  have HRY:Hid (W.rangeAt b (off + u * 28) (ndL y)):=range_below (HC.out u y hy) bW (range_lt (HC.out u y hy))
  have HYt:Hid (isT ns u = zeroS y.st):=by show isT ns u = _;unfold isT;rw [getD_of hy]
  have TY:=fun W=>specIsText_any y W
  have hT0:Hid (isT ns 0 = false):=by
   have h:=HUp.out 0 hkp
   rw [okUp,if_pos rfl,Bool.and_eq_true] at h
   show isT ns 0 = false
   simpa using h.2
  have HLEN:Hid ((chainL ns u).length ≤ 41):=by have:=chain_len ns u;show _ ≤ _;omega
  clear HC hy hcw
  go_wp2_with (go_at_call 21;refine (IN _).mono ?_;rintro e w' ⟨rfl,hw⟩;have hw:=hw.symm;subst hw)
  clear IN hqu
  go_loop [6,7] (fun q z=>∃ (qb:Bool) (zi:Int),q = .bool qb ∧ z = .int .i64 zi ∧ metI ns k u qb zi) (fun _ z=>(intOf z + 1).toNat)
  case atStart=>exact ⟨_,_,rfl,rfl,.inr (.inr ⟨rfl,k - 1,by omega,by omega,Iff.rfl⟩)⟩
  case round =>
   obtain ⟨qb,zi,rfl,rfl,hm⟩:=hrel
   rcases hm with ⟨rfl,hcin,z1,z2⟩ | ⟨rfl,rfl,hnin⟩ | ⟨rfl,v,hv,rfl,hiff⟩
   ·have HIN:Hid ((u:Int) ∈ chainL ns (k - 1)):=hcin
    clear hcin
    by_cases hzn:0 ≤ zi
    ·skip
     go_wp2_with fail
     go_loop [5,8] (fun d z=>∃ (di zi:Int),d = .int .i64 di ∧ z = .int .i64 zi ∧ cntI ns k u di zi) (fun _ z=>(intOf z + 1).toNat)
     case atStart=>exact ⟨_,_,rfl,rfl,.inr ⟨u,hul,rfl,by omega,rfl⟩⟩
     case round =>
      obtain ⟨di,zi2,rfl,rfl,hm⟩:=hrel
      rcases hm with ⟨rfl,hd⟩ | ⟨v2,hv2,rfl,hd1,hd⟩
      ·have HD:Hid (di = 1 + ((chainL ns u).length:Int)):=hd
       clear hd
       by_cases h8:(chainL ns u).length < 8
       rotate_left
       ·have HF:Hid (treeB (okB true) styleB ns = false):=tree_not_up (k:=k) (by omega) (okUp_not hkp HUp.out HE.out (fun h=>h8 h.2.2))
        have hd8:(8:Int) < di:=by have:=HD.out;omega
        clear TX TY HRY
        go_wp2
        go_ret
        exact ⟨ret_bool HF.out.symm,bW⟩
       have hd8:¬ ((8:Int) < di):=by have:=HD.out;omega
       have hry:=HRY.out
       have hun:(u:Int) < (n:Int):=by omega
       cases hzy:zeroS y.st
       rotate_left
       ·have HF:Hid (treeB (okB true) styleB ns = false):=tree_not_up (k:=k) (by omega) (okUp_not hkp HUp.out HE.out (fun h=>by rw [HYt.out,hzy] at h;cases h.2.1))
        rw [hzy] at TY
        clear TX HRY
        go_wp2_with (with_reducible show wpList _ _ _ (⟨some 78,Op.load 75 _,_,_,_,_⟩ :: _) _ _;refine wpList_load_midG ?qa3 75 _ rfl b (off + u * 28) ?qb3 (ndL y) _ hry Tryz.underlying75 rfl (by kernel_rfl) ?_)
        try (case qb3=>rfl)
        go_wp2_with fail
        refine (TY _).mono ?_
        rintro e w1 ⟨rfl,hb1⟩
        have b1:=bW.trans (hb1.mono bW.size)
        have l1:Hid (w1.heap[wr.heap.size]? = some (.cells (#[.int .i64 x.up,.string x.tx,.int .i64 x.st.sh,.int .i64 x.st.fl,.int .i64 x.st.cl,.bool x.st.w.a,.bool x.st.w.p,.int .i64 x.st.w.n,.bool x.st.h.a,.bool x.st.h.p,.int .i64 x.st.h.n,.int .i64 x.st.mn,.int .i64 x.st.mx,.int .i64 x.st.mt,.bool x.st.mr.a,.bool x.st.mr.p,.int .i64 x.st.mr.n,.int .i64 x.st.mb,.bool x.st.ml.a,.bool x.st.ml.p,.int .i64 x.st.ml.n,.int .i64 x.st.bo,.int .i64 x.st.pa,.int .i64 x.st.wh,.int .i64 x.st.al,.int .i64 x.st.lh,.int .i64 x.st.ri,.int .i64 x.st.dn]) 75 (0,0))):=below_lies hb1 l0.out ltW
        clear hb1 bW l0 hc0 hc1
        go_wp2
        go_ret
        exact ⟨ret_bool HF.out.symm,b1⟩
       rw [hzy] at TY
       have HO:Hid (okUp ns k = true):=okUp_mk hkp hT0.out HUp.out hul HE.out HIN.out (HYt.out.trans hzy) h8
       clear HRY
       go_wp2_with (with_reducible show wpList _ _ _ (⟨some 78,Op.load 75 _,_,_,_,_⟩ :: _) _ _;refine wpList_load_midG ?qa4 75 _ rfl b (off + u * 28) ?qb4 (ndL y) _ hry Tryz.underlying75 rfl (by kernel_rfl) ?_)
       try (case qb4=>rfl)
       go_wp2_with fail
       refine (TY _).mono ?_
       rintro e w1 ⟨rfl,hb1⟩
       have b1:=bW.trans (hb1.mono bW.size)
       have l1:Hid (w1.heap[wr.heap.size]? = some (.cells (#[.int .i64 x.up,.string x.tx,.int .i64 x.st.sh,.int .i64 x.st.fl,.int .i64 x.st.cl,.bool x.st.w.a,.bool x.st.w.p,.int .i64 x.st.w.n,.bool x.st.h.a,.bool x.st.h.p,.int .i64 x.st.h.n,.int .i64 x.st.mn,.int .i64 x.st.mx,.int .i64 x.st.mt,.bool x.st.mr.a,.bool x.st.mr.p,.int .i64 x.st.mr.n,.int .i64 x.st.mb,.bool x.st.ml.a,.bool x.st.ml.p,.int .i64 x.st.ml.n,.int .i64 x.st.bo,.int .i64 x.st.pa,.int .i64 x.st.wh,.int .i64 x.st.al,.int .i64 x.st.lh,.int .i64 x.st.ri,.int .i64 x.st.dn]) 75 (0,0))):=below_lies hb1 l0.out ltW
       clear hb1 bW l0 hc0 hc1
       have rb:=range_box l1.out
       go_wp2_with (with_reducible show wpList _ _ _ (⟨some 82,Op.load 75 _,_,_,_,_⟩ :: _) _ _;refine wpList_load_mid rfl 75 _ rfl wr.heap.size 0 rfl (ndL x) _ rb Tryz.underlying75 rfl (by kernel_rfl) ?_)
       refine (TX _).mono ?_
       rintro e w2 ⟨rfl,hb2⟩
       have b2:=b1.trans (hb2.mono b1.size)
       have l2:Hid (w2.heap[wr.heap.size]? = some (.cells (#[.int .i64 x.up,.string x.tx,.int .i64 x.st.sh,.int .i64 x.st.fl,.int .i64 x.st.cl,.bool x.st.w.a,.bool x.st.w.p,.int .i64 x.st.w.n,.bool x.st.h.a,.bool x.st.h.p,.int .i64 x.st.h.n,.int .i64 x.st.mn,.int .i64 x.st.mx,.int .i64 x.st.mt,.bool x.st.mr.a,.bool x.st.mr.p,.int .i64 x.st.mr.n,.int .i64 x.st.mb,.bool x.st.ml.a,.bool x.st.ml.p,.int .i64 x.st.ml.n,.int .i64 x.st.bo,.int .i64 x.st.pa,.int .i64 x.st.wh,.int .i64 x.st.al,.int .i64 x.st.lh,.int .i64 x.st.ri,.int .i64 x.st.dn]) 75 (0,0))):=below_lies hb2 l1.out (lies_lt l1.out)
       have hd1:w2.cell? ⟨wr.heap.size,1,none⟩ = some (.string x.tx):=(lies_cell l2.out 1).trans rfl
       clear hb2 b1 l1 rb
       cases hz:zeroS x.st
       ·skip
        by_cases hx0:x.tx.size = 0
        rotate_left
        ·have HF:Hid (treeB (okB true) styleB ns = false):=tree_not_node (k:=k) (by omega) HX.out (by show okN _ _ x = false;simp [okN,hz,hx0])
         have e1:=tx_not_nil hx0
         go_wp2
         go_ret
         exact ⟨ret_bool HF.out.symm,b2⟩
        have e1:=tx_nil hx0
        have R2:w2.rangeAt wr.heap.size 2 (#[.int .i64 x.st.sh,.int .i64 x.st.fl,.int .i64 x.st.cl,.bool x.st.w.a,.bool x.st.w.p,.int .i64 x.st.w.n,.bool x.st.h.a,.bool x.st.h.p,.int .i64 x.st.h.n,.int .i64 x.st.mn,.int .i64 x.st.mx,.int .i64 x.st.mt,.bool x.st.mr.a,.bool x.st.mr.p,.int .i64 x.st.mr.n,.int .i64 x.st.mb,.bool x.st.ml.a,.bool x.st.ml.p,.int .i64 x.st.ml.n,.int .i64 x.st.bo,.int .i64 x.st.pa,.int .i64 x.st.wh,.int .i64 x.st.al,.int .i64 x.st.lh,.int .i64 x.st.ri,.int .i64 x.st.dn]:Array Value).toList:=fun j v hj=>(lies_cell l2.out (2 + j)).trans (by rw [← hj,show (#[.int .i64 x.st.sh,.int .i64 x.st.fl,.int .i64 x.st.cl,.bool x.st.w.a,.bool x.st.w.p,.int .i64 x.st.w.n,.bool x.st.h.a,.bool x.st.h.p,.int .i64 x.st.h.n,.int .i64 x.st.mn,.int .i64 x.st.mx,.int .i64 x.st.mt,.bool x.st.mr.a,.bool x.st.mr.p,.int .i64 x.st.mr.n,.int .i64 x.st.mb,.bool x.st.ml.a,.bool x.st.ml.p,.int .i64 x.st.ml.n,.int .i64 x.st.bo,.int .i64 x.st.pa,.int .i64 x.st.wh,.int .i64 x.st.al,.int .i64 x.st.lh,.int .i64 x.st.ri,.int .i64 x.st.dn]:Array Value).toList = (#[.int .i64 x.up,.string x.tx,.int .i64 x.st.sh,.int .i64 x.st.fl,.int .i64 x.st.cl,.bool x.st.w.a,.bool x.st.w.p,.int .i64 x.st.w.n,.bool x.st.h.a,.bool x.st.h.p,.int .i64 x.st.h.n,.int .i64 x.st.mn,.int .i64 x.st.mx,.int .i64 x.st.mt,.bool x.st.mr.a,.bool x.st.mr.p,.int .i64 x.st.mr.n,.int .i64 x.st.mb,.bool x.st.ml.a,.bool x.st.ml.p,.int .i64 x.st.ml.n,.int .i64 x.st.bo,.int .i64 x.st.pa,.int .i64 x.st.wh,.int .i64 x.st.al,.int .i64 x.st.lh,.int .i64 x.st.ri,.int .i64 x.st.dn]:Array Value).toList.drop 2 from rfl,List.getElem?_drop];simp)
        cases hG:styleB x.st
        ·have HF:Hid (treeB (okB true) styleB ns = false):=tree_not_node (k:=k) (by omega) HX.out (by show okN _ _ x = false;simp [okN,hz,hx0,hG])
         have GS:=fun W=>specGoodStyle_any x.st W
         rw [hG] at GS
         go_wp2_with (with_reducible show wpList _ _ _ (⟨some 102,Op.load 73 _,_,_,_,_⟩ :: _) _ _;refine wpList_load_midG ?qa5 73 _ rfl wr.heap.size 2 ?qb5 (#[.int .i64 x.st.sh,.int .i64 x.st.fl,.int .i64 x.st.cl,.bool x.st.w.a,.bool x.st.w.p,.int .i64 x.st.w.n,.bool x.st.h.a,.bool x.st.h.p,.int .i64 x.st.h.n,.int .i64 x.st.mn,.int .i64 x.st.mx,.int .i64 x.st.mt,.bool x.st.mr.a,.bool x.st.mr.p,.int .i64 x.st.mr.n,.int .i64 x.st.mb,.bool x.st.ml.a,.bool x.st.ml.p,.int .i64 x.st.ml.n,.int .i64 x.st.bo,.int .i64 x.st.pa,.int .i64 x.st.wh,.int .i64 x.st.al,.int .i64 x.st.lh,.int .i64 x.st.ri,.int .i64 x.st.dn]:Array Value).toList _ R2 Tryz.underlying73 rfl (by kernel_rfl) ?_)
         try (case qb5=>rfl)
         go_wp2_with fail
         refine (GS _).mono ?_
         rintro e w3 ⟨rfl,hb3⟩
         have b3:=b2.trans (hb3.mono b2.size)
         go_wp2
         go_ret
         exact ⟨ret_bool HF.out.symm,b3⟩
        ·have HN:Hid (okN (okB true) styleB x = true):=by show okN _ _ x = true;simp [okN,hz,hx0,hG]
         have GS:=fun W=>specGoodStyle_any x.st W
         rw [hG] at GS
         go_wp2_with (with_reducible show wpList _ _ _ (⟨some 102,Op.load 73 _,_,_,_,_⟩ :: _) _ _;refine wpList_load_midG ?qa6 73 _ rfl wr.heap.size 2 ?qb6 (#[.int .i64 x.st.sh,.int .i64 x.st.fl,.int .i64 x.st.cl,.bool x.st.w.a,.bool x.st.w.p,.int .i64 x.st.w.n,.bool x.st.h.a,.bool x.st.h.p,.int .i64 x.st.h.n,.int .i64 x.st.mn,.int .i64 x.st.mx,.int .i64 x.st.mt,.bool x.st.mr.a,.bool x.st.mr.p,.int .i64 x.st.mr.n,.int .i64 x.st.mb,.bool x.st.ml.a,.bool x.st.ml.p,.int .i64 x.st.ml.n,.int .i64 x.st.bo,.int .i64 x.st.pa,.int .i64 x.st.wh,.int .i64 x.st.al,.int .i64 x.st.lh,.int .i64 x.st.ri,.int .i64 x.st.dn]:Array Value).toList _ R2 Tryz.underlying73 rfl (by kernel_rfl) ?_)
         try (case qb6=>rfl)
         go_wp2_with fail
         refine (GS _).mono ?_
         rintro e w3 ⟨rfl,hb3⟩
         have b3:=b2.trans (hb3.mono b2.size)
         clear hb3 R2 GS b2
         go_wp2
         go_roundw
         case rel=>exact ⟨k + 1,by omega,by go_num,snocB (f:=okAt (okB true) styleB) HP.out (okAt_mk HO.out HX.out HN.out),b3⟩
         case measure=>simp [intOf];omega
       ·by_cases hx0:x.tx.size = 0
        ·have HF:Hid (treeB (okB true) styleB ns = false):=tree_not_node (k:=k) (by omega) HX.out (by show okN _ _ x = false;simp [okN,hz,hx0])
         have e1:=tx_nil hx0
         go_wp2
         go_ret
         exact ⟨ret_bool HF.out.symm,b2⟩
        have e1:=tx_not_nil hx0
        have e2:x.tx.toList.isEmpty = false:=by simpa using e1
        have PT:=fun W=>spec3Text_any true x.tx W hxs
        cases hG:okB true x.tx
        ·have HF:Hid (treeB (okB true) styleB ns = false):=tree_not_node (k:=k) (by omega) HX.out (by show okN _ _ x = false;simp [okN,hz,hG])
         rw [hG] at PT
         go_wp2_with (go_at_call 52;refine (PT _).mono ?_;rintro e w' ⟨rfl,hw⟩;have hw:=hw.symm;subst hw)
         go_ret
         exact ⟨ret_bool HF.out.symm,b2⟩
        ·have HN:Hid (okN (okB true) styleB x = true):=by show okN _ _ x = true;simp [okN,hz,hx0,hG]
         rw [hG] at PT
         go_wp2_with (go_at_call 52;refine (PT _).mono ?_;rintro e w' ⟨rfl,hw⟩;have hw:=hw.symm;subst hw)
         go_roundw
         case rel=>exact ⟨k + 1,by omega,by go_num,snocB (f:=okAt (okB true) styleB) HP.out (okAt_mk HO.out HX.out HN.out),b2⟩
         case measure=>simp [intOf];omega
      ·have HD:Hid (di + ((chainL ns v2).length:Int) = 1 + ((chainL ns u).length:Int)):=hd
       have hdl:di ≤ 43:=by have:=HLEN.out;omega
       have cv2:=CU.out v2 (by omega)
       have st2:=HST.out v2 hv2
       have ub2:=up_bound st2
       have HM:Hid (cntI ns k u (di + 1) (upL ns v2)):=cntI_step hv2 st2 hd1 HD.out
       obtain ⟨pu2,hpu2⟩:∃ pu,pu = upL ns v2:=⟨_,rfl⟩
       rw [← hpu2] at cv2 ub2 HM
       have hv20:(0:Int) ≤ (v2:Int):=by omega
       have hv2n:(v2:Int) < (n:Int):=by omega
       clear hd st2 hpu2
       go_wp2
       go_round
       case rel=>exact ⟨_,_,rfl,rfl,HM.out⟩
       case measure=>simp [intOf];omega
    ·skip
     go_wp2_with fail
     go_loop [5,8] (fun d z=>∃ (di zi:Int),d = .int .i64 di ∧ z = .int .i64 zi ∧ cntI ns k u di zi) (fun _ z=>(intOf z + 1).toNat)
     case atStart=>exact ⟨_,_,rfl,rfl,.inr ⟨u,hul,rfl,by omega,rfl⟩⟩
     case round =>
      obtain ⟨di,zi2,rfl,rfl,hm⟩:=hrel
      rcases hm with ⟨rfl,hd⟩ | ⟨v2,hv2,rfl,hd1,hd⟩
      ·have HD:Hid (di = 1 + ((chainL ns u).length:Int)):=hd
       clear hd
       by_cases h8:(chainL ns u).length < 8
       rotate_left
       ·have HF:Hid (treeB (okB true) styleB ns = false):=tree_not_up (k:=k) (by omega) (okUp_not hkp HUp.out HE.out (fun h=>h8 h.2.2))
        have hd8:(8:Int) < di:=by have:=HD.out;omega
        clear TX TY HRY
        go_wp2
        go_ret
        exact ⟨ret_bool HF.out.symm,bW⟩
       have hd8:¬ ((8:Int) < di):=by have:=HD.out;omega
       have hry:=HRY.out
       have hun:(u:Int) < (n:Int):=by omega
       cases hzy:zeroS y.st
       rotate_left
       ·have HF:Hid (treeB (okB true) styleB ns = false):=tree_not_up (k:=k) (by omega) (okUp_not hkp HUp.out HE.out (fun h=>by rw [HYt.out,hzy] at h;cases h.2.1))
        rw [hzy] at TY
        clear TX HRY
        go_wp2_with (with_reducible show wpList _ _ _ (⟨some 78,Op.load 75 _,_,_,_,_⟩ :: _) _ _;refine wpList_load_midG ?qa7 75 _ rfl b (off + u * 28) ?qb7 (ndL y) _ hry Tryz.underlying75 rfl (by kernel_rfl) ?_)
        try (case qb7=>rfl)
        go_wp2_with fail
        refine (TY _).mono ?_
        rintro e w1 ⟨rfl,hb1⟩
        have b1:=bW.trans (hb1.mono bW.size)
        have l1:Hid (w1.heap[wr.heap.size]? = some (.cells (#[.int .i64 x.up,.string x.tx,.int .i64 x.st.sh,.int .i64 x.st.fl,.int .i64 x.st.cl,.bool x.st.w.a,.bool x.st.w.p,.int .i64 x.st.w.n,.bool x.st.h.a,.bool x.st.h.p,.int .i64 x.st.h.n,.int .i64 x.st.mn,.int .i64 x.st.mx,.int .i64 x.st.mt,.bool x.st.mr.a,.bool x.st.mr.p,.int .i64 x.st.mr.n,.int .i64 x.st.mb,.bool x.st.ml.a,.bool x.st.ml.p,.int .i64 x.st.ml.n,.int .i64 x.st.bo,.int .i64 x.st.pa,.int .i64 x.st.wh,.int .i64 x.st.al,.int .i64 x.st.lh,.int .i64 x.st.ri,.int .i64 x.st.dn]) 75 (0,0))):=below_lies hb1 l0.out ltW
        clear hb1 bW l0 hc0 hc1
        go_wp2
        go_ret
        exact ⟨ret_bool HF.out.symm,b1⟩
       rw [hzy] at TY
       have HO:Hid (okUp ns k = true):=okUp_mk hkp hT0.out HUp.out hul HE.out HIN.out (HYt.out.trans hzy) h8
       clear HRY
       go_wp2_with (with_reducible show wpList _ _ _ (⟨some 78,Op.load 75 _,_,_,_,_⟩ :: _) _ _;refine wpList_load_midG ?qa8 75 _ rfl b (off + u * 28) ?qb8 (ndL y) _ hry Tryz.underlying75 rfl (by kernel_rfl) ?_)
       try (case qb8=>rfl)
       go_wp2_with fail
       refine (TY _).mono ?_
       rintro e w1 ⟨rfl,hb1⟩
       have b1:=bW.trans (hb1.mono bW.size)
       have l1:Hid (w1.heap[wr.heap.size]? = some (.cells (#[.int .i64 x.up,.string x.tx,.int .i64 x.st.sh,.int .i64 x.st.fl,.int .i64 x.st.cl,.bool x.st.w.a,.bool x.st.w.p,.int .i64 x.st.w.n,.bool x.st.h.a,.bool x.st.h.p,.int .i64 x.st.h.n,.int .i64 x.st.mn,.int .i64 x.st.mx,.int .i64 x.st.mt,.bool x.st.mr.a,.bool x.st.mr.p,.int .i64 x.st.mr.n,.int .i64 x.st.mb,.bool x.st.ml.a,.bool x.st.ml.p,.int .i64 x.st.ml.n,.int .i64 x.st.bo,.int .i64 x.st.pa,.int .i64 x.st.wh,.int .i64 x.st.al,.int .i64 x.st.lh,.int .i64 x.st.ri,.int .i64 x.st.dn]) 75 (0,0))):=below_lies hb1 l0.out ltW
       clear hb1 bW l0 hc0 hc1
       have rb:=range_box l1.out
       go_wp2_with (with_reducible show wpList _ _ _ (⟨some 82,Op.load 75 _,_,_,_,_⟩ :: _) _ _;refine wpList_load_mid rfl 75 _ rfl wr.heap.size 0 rfl (ndL x) _ rb Tryz.underlying75 rfl (by kernel_rfl) ?_)
       refine (TX _).mono ?_
       rintro e w2 ⟨rfl,hb2⟩
       have b2:=b1.trans (hb2.mono b1.size)
       have l2:Hid (w2.heap[wr.heap.size]? = some (.cells (#[.int .i64 x.up,.string x.tx,.int .i64 x.st.sh,.int .i64 x.st.fl,.int .i64 x.st.cl,.bool x.st.w.a,.bool x.st.w.p,.int .i64 x.st.w.n,.bool x.st.h.a,.bool x.st.h.p,.int .i64 x.st.h.n,.int .i64 x.st.mn,.int .i64 x.st.mx,.int .i64 x.st.mt,.bool x.st.mr.a,.bool x.st.mr.p,.int .i64 x.st.mr.n,.int .i64 x.st.mb,.bool x.st.ml.a,.bool x.st.ml.p,.int .i64 x.st.ml.n,.int .i64 x.st.bo,.int .i64 x.st.pa,.int .i64 x.st.wh,.int .i64 x.st.al,.int .i64 x.st.lh,.int .i64 x.st.ri,.int .i64 x.st.dn]) 75 (0,0))):=below_lies hb2 l1.out (lies_lt l1.out)
       have hd1:w2.cell? ⟨wr.heap.size,1,none⟩ = some (.string x.tx):=(lies_cell l2.out 1).trans rfl
       clear hb2 b1 l1 rb
       cases hz:zeroS x.st
       ·skip
        by_cases hx0:x.tx.size = 0
        rotate_left
        ·have HF:Hid (treeB (okB true) styleB ns = false):=tree_not_node (k:=k) (by omega) HX.out (by show okN _ _ x = false;simp [okN,hz,hx0])
         have e1:=tx_not_nil hx0
         go_wp2
         go_ret
         exact ⟨ret_bool HF.out.symm,b2⟩
        have e1:=tx_nil hx0
        have R2:w2.rangeAt wr.heap.size 2 (#[.int .i64 x.st.sh,.int .i64 x.st.fl,.int .i64 x.st.cl,.bool x.st.w.a,.bool x.st.w.p,.int .i64 x.st.w.n,.bool x.st.h.a,.bool x.st.h.p,.int .i64 x.st.h.n,.int .i64 x.st.mn,.int .i64 x.st.mx,.int .i64 x.st.mt,.bool x.st.mr.a,.bool x.st.mr.p,.int .i64 x.st.mr.n,.int .i64 x.st.mb,.bool x.st.ml.a,.bool x.st.ml.p,.int .i64 x.st.ml.n,.int .i64 x.st.bo,.int .i64 x.st.pa,.int .i64 x.st.wh,.int .i64 x.st.al,.int .i64 x.st.lh,.int .i64 x.st.ri,.int .i64 x.st.dn]:Array Value).toList:=fun j v hj=>(lies_cell l2.out (2 + j)).trans (by rw [← hj,show (#[.int .i64 x.st.sh,.int .i64 x.st.fl,.int .i64 x.st.cl,.bool x.st.w.a,.bool x.st.w.p,.int .i64 x.st.w.n,.bool x.st.h.a,.bool x.st.h.p,.int .i64 x.st.h.n,.int .i64 x.st.mn,.int .i64 x.st.mx,.int .i64 x.st.mt,.bool x.st.mr.a,.bool x.st.mr.p,.int .i64 x.st.mr.n,.int .i64 x.st.mb,.bool x.st.ml.a,.bool x.st.ml.p,.int .i64 x.st.ml.n,.int .i64 x.st.bo,.int .i64 x.st.pa,.int .i64 x.st.wh,.int .i64 x.st.al,.int .i64 x.st.lh,.int .i64 x.st.ri,.int .i64 x.st.dn]:Array Value).toList = (#[.int .i64 x.up,.string x.tx,.int .i64 x.st.sh,.int .i64 x.st.fl,.int .i64 x.st.cl,.bool x.st.w.a,.bool x.st.w.p,.int .i64 x.st.w.n,.bool x.st.h.a,.bool x.st.h.p,.int .i64 x.st.h.n,.int .i64 x.st.mn,.int .i64 x.st.mx,.int .i64 x.st.mt,.bool x.st.mr.a,.bool x.st.mr.p,.int .i64 x.st.mr.n,.int .i64 x.st.mb,.bool x.st.ml.a,.bool x.st.ml.p,.int .i64 x.st.ml.n,.int .i64 x.st.bo,.int .i64 x.st.pa,.int .i64 x.st.wh,.int .i64 x.st.al,.int .i64 x.st.lh,.int .i64 x.st.ri,.int .i64 x.st.dn]:Array Value).toList.drop 2 from rfl,List.getElem?_drop];simp)
        cases hG:styleB x.st
        ·have HF:Hid (treeB (okB true) styleB ns = false):=tree_not_node (k:=k) (by omega) HX.out (by show okN _ _ x = false;simp [okN,hz,hx0,hG])
         have GS:=fun W=>specGoodStyle_any x.st W
         rw [hG] at GS
         go_wp2_with (with_reducible show wpList _ _ _ (⟨some 102,Op.load 73 _,_,_,_,_⟩ :: _) _ _;refine wpList_load_midG ?qa9 73 _ rfl wr.heap.size 2 ?qb9 (#[.int .i64 x.st.sh,.int .i64 x.st.fl,.int .i64 x.st.cl,.bool x.st.w.a,.bool x.st.w.p,.int .i64 x.st.w.n,.bool x.st.h.a,.bool x.st.h.p,.int .i64 x.st.h.n,.int .i64 x.st.mn,.int .i64 x.st.mx,.int .i64 x.st.mt,.bool x.st.mr.a,.bool x.st.mr.p,.int .i64 x.st.mr.n,.int .i64 x.st.mb,.bool x.st.ml.a,.bool x.st.ml.p,.int .i64 x.st.ml.n,.int .i64 x.st.bo,.int .i64 x.st.pa,.int .i64 x.st.wh,.int .i64 x.st.al,.int .i64 x.st.lh,.int .i64 x.st.ri,.int .i64 x.st.dn]:Array Value).toList _ R2 Tryz.underlying73 rfl (by kernel_rfl) ?_)
         try (case qb9=>rfl)
         go_wp2_with fail
         refine (GS _).mono ?_
         rintro e w3 ⟨rfl,hb3⟩
         have b3:=b2.trans (hb3.mono b2.size)
         go_wp2
         go_ret
         exact ⟨ret_bool HF.out.symm,b3⟩
        ·have HN:Hid (okN (okB true) styleB x = true):=by show okN _ _ x = true;simp [okN,hz,hx0,hG]
         have GS:=fun W=>specGoodStyle_any x.st W
         rw [hG] at GS
         go_wp2_with (with_reducible show wpList _ _ _ (⟨some 102,Op.load 73 _,_,_,_,_⟩ :: _) _ _;refine wpList_load_midG ?qa10 73 _ rfl wr.heap.size 2 ?qb10 (#[.int .i64 x.st.sh,.int .i64 x.st.fl,.int .i64 x.st.cl,.bool x.st.w.a,.bool x.st.w.p,.int .i64 x.st.w.n,.bool x.st.h.a,.bool x.st.h.p,.int .i64 x.st.h.n,.int .i64 x.st.mn,.int .i64 x.st.mx,.int .i64 x.st.mt,.bool x.st.mr.a,.bool x.st.mr.p,.int .i64 x.st.mr.n,.int .i64 x.st.mb,.bool x.st.ml.a,.bool x.st.ml.p,.int .i64 x.st.ml.n,.int .i64 x.st.bo,.int .i64 x.st.pa,.int .i64 x.st.wh,.int .i64 x.st.al,.int .i64 x.st.lh,.int .i64 x.st.ri,.int .i64 x.st.dn]:Array Value).toList _ R2 Tryz.underlying73 rfl (by kernel_rfl) ?_)
         try (case qb10=>rfl)
         go_wp2_with fail
         refine (GS _).mono ?_
         rintro e w3 ⟨rfl,hb3⟩
         have b3:=b2.trans (hb3.mono b2.size)
         clear hb3 R2 GS b2
         go_wp2
         go_roundw
         case rel=>exact ⟨k + 1,by omega,by go_num,snocB (f:=okAt (okB true) styleB) HP.out (okAt_mk HO.out HX.out HN.out),b3⟩
         case measure=>simp [intOf];omega
       ·by_cases hx0:x.tx.size = 0
        ·have HF:Hid (treeB (okB true) styleB ns = false):=tree_not_node (k:=k) (by omega) HX.out (by show okN _ _ x = false;simp [okN,hz,hx0])
         have e1:=tx_nil hx0
         go_wp2
         go_ret
         exact ⟨ret_bool HF.out.symm,b2⟩
        have e1:=tx_not_nil hx0
        have e2:x.tx.toList.isEmpty = false:=by simpa using e1
        have PT:=fun W=>spec3Text_any true x.tx W hxs
        cases hG:okB true x.tx
        ·have HF:Hid (treeB (okB true) styleB ns = false):=tree_not_node (k:=k) (by omega) HX.out (by show okN _ _ x = false;simp [okN,hz,hG])
         rw [hG] at PT
         go_wp2_with (go_at_call 52;refine (PT _).mono ?_;rintro e w' ⟨rfl,hw⟩;have hw:=hw.symm;subst hw)
         go_ret
         exact ⟨ret_bool HF.out.symm,b2⟩
        ·have HN:Hid (okN (okB true) styleB x = true):=by show okN _ _ x = true;simp [okN,hz,hx0,hG]
         rw [hG] at PT
         go_wp2_with (go_at_call 52;refine (PT _).mono ?_;rintro e w' ⟨rfl,hw⟩;have hw:=hw.symm;subst hw)
         go_roundw
         case rel=>exact ⟨k + 1,by omega,by go_num,snocB (f:=okAt (okB true) styleB) HP.out (okAt_mk HO.out HX.out HN.out),b2⟩
         case measure=>simp [intOf];omega
      ·have HD:Hid (di + ((chainL ns v2).length:Int) = 1 + ((chainL ns u).length:Int)):=hd
       have hdl:di ≤ 43:=by have:=HLEN.out;omega
       have cv2:=CU.out v2 (by omega)
       have st2:=HST.out v2 hv2
       have ub2:=up_bound st2
       have HM:Hid (cntI ns k u (di + 1) (upL ns v2)):=cntI_step hv2 st2 hd1 HD.out
       obtain ⟨pu2,hpu2⟩:∃ pu,pu = upL ns v2:=⟨_,rfl⟩
       rw [← hpu2] at cv2 ub2 HM
       have hv20:(0:Int) ≤ (v2:Int):=by omega
       have hv2n:(v2:Int) < (n:Int):=by omega
       clear hd st2 hpu2
       go_wp2
       go_round
       case rel=>exact ⟨_,_,rfl,rfl,HM.out⟩
       case measure=>simp [intOf];omega
   ·have HF:Hid (treeB (okB true) styleB ns = false):=tree_not_up (k:=k) (by omega) (okUp_not hkp HUp.out HE.out (fun h=>hnin h.1))
    clear hnin TX TY HRY
    go_wp2_with fail
    go_loop [5,8] (fun d z=>∃ (di zi:Int),d = .int .i64 di ∧ z = .int .i64 zi ∧ cntI ns k u di zi) (fun _ z=>(intOf z + 1).toNat)
    case atStart=>exact ⟨_,_,rfl,rfl,.inr ⟨u,hul,rfl,by omega,rfl⟩⟩
    case round =>
     obtain ⟨di,zi2,rfl,rfl,hm⟩:=hrel
     rcases hm with ⟨rfl,hd⟩ | ⟨v2,hv2,rfl,hd1,hd⟩
     ·clear hd
      go_wp2
      go_ret
      exact ⟨ret_bool HF.out.symm,bW⟩
     ·have HD:Hid (di + ((chainL ns v2).length:Int) = 1 + ((chainL ns u).length:Int)):=hd
      have hdl:di ≤ 43:=by have:=HLEN.out;omega
      have cv2:=CU.out v2 (by omega)
      have st2:=HST.out v2 hv2
      have ub2:=up_bound st2
      have HM:Hid (cntI ns k u (di + 1) (upL ns v2)):=cntI_step hv2 st2 hd1 HD.out
      obtain ⟨pu2,hpu2⟩:∃ pu,pu = upL ns v2:=⟨_,rfl⟩
      rw [← hpu2] at cv2 ub2 HM
      have hv20:(0:Int) ≤ (v2:Int):=by omega
      have hv2n:(v2:Int) < (n:Int):=by omega
      clear hd st2 hpu2
      go_wp2
      go_round
      case rel=>exact ⟨_,_,rfl,rfl,HM.out⟩
      case measure=>simp [intOf];omega
   ·have HIFF:Hid ((u:Int) ∈ chainL ns (k - 1) ↔ (u:Int) ∈ chainL ns v):=hiff
    have cv:=CU.out v (by omega)
    have st:=HST.out v hv
    have ub:=up_bound st
    have HSt:Hid (Stands ns v):=st
    have hv0:(0:Int) ≤ (v:Int):=by omega
    have hvn:(v:Int) < (n:Int):=by omega
    obtain ⟨pu,hpu⟩:∃ pu,pu = upL ns v:=⟨_,rfl⟩
    rw [← hpu] at cv ub
    have HPU:Hid (pu = upL ns v):=hpu
    clear hiff st hpu TX TY HRY
    by_cases huv:v = u
    ·have huv:=huv.symm
     subst huv
     have HM:Hid (metI ns k u true pu):=metI_hit HIFF.out (by omega) (by omega)
     go_wp2
     go_round
     case rel=>exact ⟨_,_,rfl,rfl,HM.out⟩
     case measure=>simp [intOf];omega
    ·have hqv:((v:Int) == (u:Int)) = false:=by simp;omega
     have HM:Hid (metI ns k u false pu):=by rw [HPU.out];exact metI_step hv HSt.out HIFF.out (fun e=>huv e.symm)
     go_wp2
     go_round
     case rel=>exact ⟨_,_,rfl,rfl,HM.out⟩
     case measure=>simp [intOf];omega
set_option maxHeartbeats 2000000 in
theorem specTree_len (a:Option Addr) (n cap:Nat) (w:World) (h:¬ (1 ≤ n ∧ n ≤ 40)) (hl:n ≤ 1048576) :
  Calls Tryz.prog 34 #[.slice a n cap] w fun e w'=>e = .returned (.bool false) ∧ Below w.heap.size w w':=by
 have IN:=l1In_any (n:Int) 1 40
 rw [show inB 1 40 (n:Int) = false by simp [inB];omega] at IN
 go_enter Tryz.func34,Tryz.ntmps34
 go_wp2_with (go_at_call 21;refine (IN _).mono ?_;rintro e w' ⟨rfl,hw⟩;have hw:=hw.symm;subst hw)
 go_ret
 exact ⟨rfl,Below.refl _ _⟩
theorem specTree_any (a:Option Addr) (cap:Nat) (ns:List Nd) (w:World) (hr:NdRow w a ns) (hl:ns.length ≤ 1048576) (hs:∀ x ∈ ns,x.tx.size ≤ 1048576) :
  Calls Tryz.prog 34 #[.slice a ns.length cap] w fun e w'=>e = .returned (.bool (treeB (okB true) styleB ns)) ∧ Below w.heap.size w w':=by
 by_cases hlen:1 ≤ ns.length ∧ ns.length ≤ 40
 ·obtain ⟨b,off,rfl,hc⟩:∃ b off,a = some ⟨b,off,none⟩ ∧ ∀ i n,ns[i]? = some n → w.rangeAt b (off + i * 28) (ndL n):=by
   rcases hr with h | h
   ·rw [h] at hlen;simp at hlen
   ·exact h
  exact specTree_loop b off _ cap ns w rfl hlen.1 hlen.2 hs hc
 ·rw [treeB_len hlen]
  exact specTree_len a _ cap w hlen hl
structure Bx where
 kd:Int
 nd:Int
 up:Int
 tx:ByteArray
def bxL (x:Bx):List Value:=[.int .i64 x.kd,.int .i64 x.nd,.int .i64 x.up,.string x.tx]
theorem bxL_len (x:Bx):(bxL x).length = 4:=rfl
def bx0:Bx:=⟨0,0,0,ByteArray.empty⟩
/-- A byte made a blank. -/
def blk (g:Nat) (c:UInt8):UInt8:=if c.toNat = g then 32 else c
/-- What the model does in one pass. -/
def blkS (two:Bool) (c:UInt8):UInt8:=if c.toNat = 9 ∨ (c.toNat = 10 ∧ two = true) then 32 else c
theorem blk_one:blkS false = blk 9:=by funext c;simp [blkS,blk]
theorem blk_two (l:List UInt8):l.map (blkS true) = (l.map (blk 9)).map (blk 10):=by
 rw [List.map_map]
 congr 1
 funext c
 show blkS true c = blk 10 (blk 9 c)
 unfold blkS blk
 by_cases h:c.toNat = 9
 ·simp [h]
 ·by_cases h':c.toNat = 10 <;> simp [h,h']
/-- A pass that has come to place k. -/
def mapTo (f:UInt8 → UInt8) (l:List UInt8) (k:Nat):List UInt8:=(l.take k).map f ++ l.drop k
theorem mapTo_zero (f:UInt8 → UInt8) (l:List UInt8):mapTo f l 0 = l:=by simp [mapTo]
theorem mapTo_all (f:UInt8 → UInt8) (l:List UInt8):mapTo f l l.length = l.map f:=by simp [mapTo]
theorem mapTo_len (f:UInt8 → UInt8) (l:List UInt8) (k:Nat):(mapTo f l k).length = l.length:=by
 simp only [mapTo,List.length_append,List.length_map,List.length_take,List.length_drop];omega
theorem mapTo_at (f:UInt8 → UInt8) (l:List UInt8) (k:Nat) (h:k < l.length):(mapTo f l k).getD k 0 = l.getD k 0:=by
 simp only [mapTo,List.getD_eq_getElem?_getD]
 rw [List.getElem?_append_right (by simp;omega)]
 simp only [List.length_map,List.length_take,List.getElem?_drop]
 rw [show k + (k - min k l.length) = k by omega]
theorem mapTo_next (f:UInt8 → UInt8) (l:List UInt8) (k:Nat) (h:k < l.length):mapTo f l (k + 1) = (mapTo f l k).set k (f (l.getD k 0)):=by
 have e:l.getD k 0 = l[k]:=by simp [List.getD_eq_getElem?_getD,h]
 simp only [mapTo]
 rw [List.set_append_right _ _ (by simp;omega),List.take_succ_eq_append_getElem h,List.map_append,List.append_assoc,e]
 congr 1
 simp only [List.length_map,List.length_take]
 rw [show k - min k l.length = 0 by omega,List.drop_eq_getElem_cons h]
 rfl
theorem mapTo_same (f:UInt8 → UInt8) (l:List UInt8) (k:Nat) (h:k < l.length) (hf:f (l.getD k 0) = l.getD k 0):mapTo f l (k + 1) = mapTo f l k:=by
 rw [mapTo_next f l k h,hf]
 apply List.ext_getElem?
 intro j
 rw [List.getElem?_set]
 by_cases e:k = j
 ·subst e
  have h1:=mapTo_at f l k h
  have h2:=mapTo_len f l k
  rw [List.getD_eq_getElem?_getD] at h1
  rw [if_pos rfl,if_pos (by omega),← h1,List.getElem?_eq_getElem (by omega)]
  simp
 ·rw [if_neg e]
/-- The last byte. -/
def lastU (l:List UInt8):Nat:=(l.getD (l.length - 1) 0).toNat
theorem lastU_snoc (l:List UInt8) (c:UInt8):lastU (l ++ [c]) = c.toNat:=by
 simp [lastU,List.getD_eq_getElem?_getD]
/-- Nothing stands ahead in this line. -/
def begins (l:List UInt8):Bool:=decide (l.length = 0 ∨ lastU l = 10)
/-- One byte more: what is kept, and whether a blank is held back. -/
def stepJ (st:List UInt8 × Bool) (c:UInt8):List UInt8 × Bool :=
 if c.toNat = 32 then (st.1,true)
 else ((if st.2 = true ∧ c.toNat ≠ 10 ∧ begins st.1 = false then st.1 ++ [32] else st.1) ++ [c],false)
def joinK (l:List UInt8) (k:Nat):List UInt8 × Bool:=(l.take k).foldl stepJ ([],false)
theorem joinK_zero (l:List UInt8):joinK l 0 = ([],false):=rfl
theorem joinK_next (l:List UInt8) (k:Nat) (h:k < l.length):joinK l (k + 1) = stepJ (joinK l k) (l.getD k 0):=by
 unfold joinK
 rw [List.take_succ_eq_append_getElem h,List.foldl_append]
 simp [List.getD_eq_getElem?_getD,h]
theorem joinK_len (l:List UInt8) (k:Nat) (h:k ≤ l.length):(joinK l k).1.length + (if (joinK l k).2 = true then 1 else 0) ≤ k:=by
 induction k with
 | zero=>simp [joinK_zero]
 | succ k ih =>
  have ih:=ih (by omega)
  rw [joinK_next l k (by omega)]
  unfold stepJ
  split
  ·simp only [if_pos];split at ih <;> omega
  ·split
   ·rename_i h1;simp [h1.1] at ih ⊢;omega
   ·simp;split at ih <;> omega
theorem joinK_le (l:List UInt8) (k:Nat) (h:k ≤ l.length):(joinK l k).1.length ≤ k:=by
 have:=joinK_len l k h;split at this <;> omega
theorem joinK_last (l:List UInt8) (k:Nat) (h:k ≤ l.length):(joinK l k).1.length = 0 ∨ lastU (joinK l k).1 ≠ 32:=by
 induction k with
 | zero=>left;simp [joinK_zero]
 | succ k ih =>
  have ih:=ih (by omega)
  rw [joinK_next l k (by omega)]
  unfold stepJ
  split
  ·exact ih
  ·rename_i hc
   right
   rw [lastU_snoc]
   exact hc
/-- Whether what comes first that is no blank is a letter of the same line. -/
def nextOk:List UInt8 → Bool
 | []=>false
 | c :: r=>if c.toNat = 32 then nextOk r else decide (c.toNat ≠ 10)
theorem drop_cons (l:List UInt8) (k:Nat) (h:k < l.length):l.drop k = l.getD k 0 :: l.drop (k + 1):=by
 rw [List.drop_eq_getElem_cons h];simp [List.getD_eq_getElem?_getD,h]
theorem nextOk_blank (l:List UInt8) (k:Nat) (h:k < l.length) (hc:(l.getD k 0).toNat = 32):nextOk (l.drop k) = nextOk (l.drop (k + 1)):=by
 rw [drop_cons l k h];simp only [nextOk];rw [if_pos hc]
theorem nextOk_other (l:List UInt8) (k:Nat) (h:k < l.length) (hc:(l.getD k 0).toNat ≠ 32):nextOk (l.drop k) = decide ((l.getD k 0).toNat ≠ 10):=by
 rw [drop_cons l k h];simp only [nextOk];rw [if_neg hc]
theorem nextOk_far (l:List UInt8) (i:Nat):∀ d:Nat,i + d ≤ l.length → (∀ j,i ≤ j → j < i + d → (l.getD j 0).toNat = 32) → nextOk (l.drop i) = nextOk (l.drop (i + d)):=by
 intro d
 induction d with
 | zero=>intro _ _;rfl
 | succ d ih =>
  intro h hb
  rw [ih (by omega) (fun j h1 h2=>hb j h1 (by omega)),nextOk_blank l (i + d) (by omega) (hb (i + d) (by omega) (by omega))]
  rfl
/-- The model's row behind k bytes. -/
def outK (l:List UInt8) (k:Nat):List UInt8 :=
 if (joinK l k).2 = true ∧ nextOk (l.drop k) = true ∧ begins (joinK l k).1 = false then (joinK l k).1 ++ [32] else (joinK l k).1
theorem outK_zero (l:List UInt8):outK l 0 = []:=by simp [outK,joinK_zero]
theorem outK_all (l:List UInt8):outK l l.length = (joinK l l.length).1:=by simp [outK,nextOk]
theorem outK_le (l:List UInt8) (k:Nat) (h:k ≤ l.length):(outK l k).length ≤ k:=by
 have hl:=joinK_len l k h
 unfold outK
 split
 ·rename_i h1;rw [if_pos h1.1] at hl;simp;omega
 ·split at hl <;> omega
theorem outK_other (l:List UInt8) (k:Nat) (h:k < l.length) (hc:(l.getD k 0).toNat ≠ 32):outK l (k + 1) = outK l k ++ [l.getD k 0]:=by
 unfold outK
 rw [joinK_next l k h,nextOk_other l k h hc]
 unfold stepJ
 rw [if_neg hc]
 simp
/-- The model passes a blank by. -/
def skipB (l:List UInt8) (m:Nat) (out:List UInt8):Prop:=m = l.length ∨ (l.getD m 0).toNat = 10 ∨ out.length = 0 ∨ lastU out = 32 ∨ lastU out = 10
theorem outK_blank (l:List UInt8) (k m:Nat) (h:k < l.length) (hc:(l.getD k 0).toNat = 32) (hm:k ≤ m) (hml:m ≤ l.length) (hb:∀ j,k ≤ j → j < m → (l.getD j 0).toNat = 32) (hn:m < l.length → (l.getD m 0).toNat ≠ 32) :
  (skipB l m (outK l k) → outK l (k + 1) = outK l k) ∧ (¬ skipB l m (outK l k) → outK l (k + 1) = outK l k ++ [32]):=by
 have e1:nextOk (l.drop k) = nextOk (l.drop m):=by
  have:=nextOk_far l k (m - k) (by omega) (fun j h1 h2=>hb j h1 (by omega))
  rwa [show k + (m - k) = m by omega] at this
 have e2:=nextOk_blank l k h hc
 have e3:nextOk (l.drop m) = true ↔ (m < l.length ∧ (l.getD m 0).toNat ≠ 10):=by
  by_cases g:m < l.length
  ·rw [nextOk_other l m g (hn g)];simp [g]
  ·rw [List.drop_eq_nil_of_le (by omega)];simp [nextOk,g]
 have e4:=joinK_last l k (by omega)
 have e5:joinK l (k + 1) = ((joinK l k).1,true):=by rw [joinK_next l k h];unfold stepJ;rw [if_pos hc]
 have e6:outK l (k + 1) = if nextOk (l.drop k) = true ∧ begins (joinK l k).1 = false then (joinK l k).1 ++ [32] else (joinK l k).1:=by
  unfold outK;rw [e5,← e2];simp
 have e7:nextOk (l.drop k) = true ↔ (m < l.length ∧ (l.getD m 0).toNat ≠ 10):=by rw [e1];exact e3
 have e8:begins (joinK l k).1 = false ↔ ¬ ((joinK l k).1.length = 0 ∨ lastU (joinK l k).1 = 10):=by simp [begins]
 rw [e6]
 by_cases a:nextOk (l.drop k) = true
 ·by_cases b:begins (joinK l k).1 = false
  ·rw [if_pos ⟨a,b⟩]
   by_cases c:(joinK l k).2 = true
   ·have o:outK l k = (joinK l k).1 ++ [32]:=by unfold outK;rw [if_pos ⟨c,a,b⟩]
    rw [o]
    refine ⟨fun _=>rfl,fun n=>absurd ?_ n⟩
    exact .inr (.inr (.inr (.inl (lastU_snoc _ _))))
   ·have o:outK l k = (joinK l k).1:=by unfold outK;rw [if_neg (fun x=>c x.1)]
    rw [o]
    refine ⟨fun n=>?_,fun _=>rfl⟩
    have a':=e7.1 a
    have b':=e8.1 b
    exfalso
    rcases n with n | n | n | n | n
    ·omega
    ·exact a'.2 n
    ·exact b' (.inl n)
    ·rcases e4 with x | x
     ·exact b' (.inl x)
     ·exact x n
    ·exact b' (.inr n)
  ·rw [if_neg (fun x=>b x.2)]
   have o:outK l k = (joinK l k).1:=by unfold outK;rw [if_neg (fun x=>b x.2.2)]
   rw [o]
   refine ⟨fun _=>rfl,fun n=>absurd ?_ n⟩
   have b':(joinK l k).1.length = 0 ∨ lastU (joinK l k).1 = 10:=by
    apply Classical.byContradiction
    intro x
    exact b (e8.2 x)
   rcases b' with x | x
   ·exact .inr (.inr (.inl x))
   ·exact .inr (.inr (.inr (.inr x)))
 ·rw [if_neg (fun x=>a x.1)]
  have o:outK l k = (joinK l k).1:=by unfold outK;rw [if_neg (fun x=>a x.2.1)]
  rw [o]
  refine ⟨fun _=>rfl,fun n=>absurd ?_ n⟩
  by_cases g:m < l.length
  ·right;left
   apply Classical.byContradiction
   intro x
   exact a (e7.2 ⟨g,x⟩)
  ·left;omega
/-- What is kept of a text's bytes. -/
def keepL (white:Int) (l:List UInt8):List UInt8 :=
 if white = 3 ∨ white = 4 then l.map (blkS (decide (white ≤ 2)))
 else (joinK (l.map (blkS (decide (white ≤ 2)))) l.length).1
def keepN (white:Int) (s:ByteArray):ByteArray:=if inB 1 5 white = true ∧ okB true s = true then ⟨(keepL white s.data.toList).toArray⟩ else ⟨#[]⟩
def keepB (white:Int) (s:ByteArray):Bool:=inB 1 5 white && okB true s
theorem isWhite_any (n:Int) (w:World):Calls Tryz.prog 87 #[.int .i64 n] w fun e w'=>e = .returned (.bool (inB 1 5 n)) ∧ w' = w:=by
 by_cases h1:1 ≤ n <;> by_cases h2:n ≤ 5 <;>
 ·go_enter Tryz.func87,Tryz.ntmps87
  go_wp2
  go_ret
  exact ⟨ret_bool (by simp [inB,h1,h2]),rfl⟩
end Go.Proofs.YtjnmloaopnbpgaaGreatDoor
