/-
 The program's take of a node: texts.
 The program's take of a node: elements that stand in the lines.
 The program's take of a node: elements that make a box.
-/
import Derived.Test.YtjnmloaopnbpgaaGreatDoorMg13
namespace Go.Proofs.YtjnmloaopnbpgaaGreatDoor
open Go.ChangeShapes Go.WideShapes Go.ChangeAt Go.RowKit
set_option linter.unusedVariables false
theorem Bg.okp {w:World} {B p:Nat} {ls:Value} {S:Ps} {vb vi vt:Value} (h:Bg w B p ls S vb vi vt) (o:Bool):Bg w B p ls { S with ok:=o } vb vi vt:=⟨h.hp,h.lies,h.ob,h.oi,h.ot⟩
set_option maxRecDepth 100000 in
set_option maxHeartbeats 8000000 in
theorem take_text1 (B p i b off n cap:Nat) (ns:List Nd) (S:Ps) (vb vi vt:Value) (w:World) (hbg:Bg w B p (.slice (some ⟨b,off,none⟩) n cap) S vb vi vt) (hok:PsOk ns i S) (hns:NsOk ns) (hi:i < n) (hnd:NdAt w B b off n ns) (hwh:WhOk ns) (hS:S.ok = true) (h0:0 < i) (ha:¬ arP ns S i = -1) (h3:¬ (ns.getD i nd0).st.sh = 3) (ht:isT ns i = true) (hq:arP ns S i = S.ti) :
  Calls Tryz.prog 42 #[.pointer (some ⟨p,0,none⟩),.int .i64 (i:Int)] w fun e w'=>e = .returned (.bool (takeP ns S i).ok) ∧ (∃ vb' vi' vt',Bg w' B p (.slice (some ⟨b,off,none⟩) n cap) (takeP ns S i) vb' vi' vt') ∧ Below B w w':=by
 obtain ⟨i0,hinf,hz0,hz1,hz2⟩:=bgInfo3
 have hin:i < ns.length:=by rw [← hnd.len];exact hi
 obtain ⟨y,hy⟩:∃ y,ns[i]? = some y:=⟨_,List.getElem?_eq_getElem hin⟩
 obtain ⟨gU,gT,gD⟩:=getI hy
 have hTt:zeroS y.st = true:=by rw [← gT];exact ht
 obtain ⟨tOk,tNe⟩:=hns.texts i hin ht
 rw [gD] at tOk tNe h3
 have tLe:=(okB_yes tOk).1
 have TXL:Hid (y.tx.size ≤ 200):=tLe
 have HT:Hid (takeP ns S i = { S with inn:=S.inn ++ [-1],tx:=S.tx ++ y.tx }):=by
  show _ = _
  unfold takeP
  rw [gD]
  rw [if_neg (by unfold goneP;rw [decide_eq_true_eq,gD];rintro (h | h);exact ha h.2;exact h3 h),if_pos ht,if_pos hq]
 rw [HT.out]
 show Calls _ _ _ _ fun e w'=>e = .returned (.bool S.ok) ∧ _
 rw [hS]
 clear HT
 have hr:=hnd.rows i y hy
 have hn40:=hnd.le
 have lp:=lies_lt hbg.lies
 have hBs:B ≤ w.heap.size:=Nat.le_trans hbg.hp (Nat.le_of_lt lp)
 have c0:w.cell? ⟨p,0,none⟩ = some (.slice (some ⟨b,off,none⟩) n cap):=(lies_cell hbg.lies 0).trans rfl
 have BK:=fun W=>boxKind_any y.st W
 have TX:=fun W=>implIsText_any y W
 rw [hTt] at TX
 obtain ⟨u,hu,eu,_⟩:=(hns.stands i hin).ups h0
 have hyu:y.up = (u:Int):=by rw [← gU];exact eu
 have hin':S.inn.length = i:=hok.len
 obtain ⟨gi,ci,hvi⟩:=own_some hbg.oi (by omega)
 rw [hin'] at hvi
 subst hvi
 have hoi:=hbg.oi
 rw [hin'] at hoi
 have HAR:Hid (arP ns S i = S.inn.getD u 0):=by show _ = _;unfold arP;rw [gU,hyu,if_pos (by omega)];rfl
 obtain ⟨ar,har0⟩:∃ ar,ar = S.inn.getD u 0:=⟨_,rfl⟩
 have HA2:Hid (arP ns S i = ar):=HAR.out.trans har0.symm
 rw [HA2.out] at ha hq
 have qi:w.cell? ⟨gi,u,none⟩ = some (.int .i64 ar):=by
  have h:=(hoi.cellAt u (by omega))
  rw [h,List.getElem?_map,har0,List.getD_eq_getElem?_getD,List.getElem?_eq_getElem (by omega)]
  rfl
 have lgi:gi < w.heap.size:=(hbg.oi.lt gi rfl).2
 clear har0 hoi eu HAR
 have c2w:w.cell? ⟨p,2,none⟩ = some (.slice (some ⟨gi,0,none⟩) i ci):=(lies_cell hbg.lies 2).trans rfl
 have hui:(u:Int) < (i:Int):=by omega
 have HG:Hid (Bg w B p (.slice (some ⟨b,off,none⟩) n cap) S vb (.slice (some ⟨gi,0,none⟩) i ci) vt):=hbg
 clear hbg
 go_enter Tryz.func42,Tryz.ntmps42
 go_wp2_with (first
  | (with_reducible show wpList _ _ _ (⟨some 15,Op.load 75 _,_,_,_,_⟩ :: _) _ _;refine wpList_load_mid rfl 75 _ rfl b (off + i * 28) rfl (ndL y) _ hr Tryz.underlying75 rfl (by kernel_rfl) ?_)
  | (with_reducible show wpList _ _ _ (⟨none,Op.store 75 _ _,_,_,_,_⟩ :: _) _ _;refine wpList_store_box rfl 75 _ _ rfl rfl (#[.int .i64 y.up,.string y.tx,.int .i64 y.st.sh,.int .i64 y.st.fl,.int .i64 y.st.cl,.bool y.st.w.a,.bool y.st.w.p,.int .i64 y.st.w.n,.bool y.st.h.a,.bool y.st.h.p,.int .i64 y.st.h.n,.int .i64 y.st.mn,.int .i64 y.st.mx,.int .i64 y.st.mt,.bool y.st.mr.a,.bool y.st.mr.p,.int .i64 y.st.mr.n,.int .i64 y.st.mb,.bool y.st.ml.a,.bool y.st.ml.p,.int .i64 y.st.ml.n,.int .i64 y.st.bo,.int .i64 y.st.pa,.int .i64 y.st.wh,.int .i64 y.st.al,.int .i64 y.st.lh,.int .i64 y.st.ri,.int .i64 y.st.dn]) rfl rfl (by kernel_rfl) rfl (by kernel_rfl) ?_;intro W bel l0 hsz;refine stay ?_)
  | fail)
 unfold Stay
 have cu:W.cell? ⟨w.heap.size,0,none⟩ = some (.int .i64 ((u:Int))):=(lies_cell l0 0).trans (by rw [hyu];rfl)
 have RS:Hid (W.rangeAt w.heap.size 2 (stCells y.st).toList):=fun j v hj=>(lies_cell l0 (2 + j)).trans (by rw [← hj,show (stCells y.st).toList = (#[.int .i64 y.up,.string y.tx,.int .i64 y.st.sh,.int .i64 y.st.fl,.int .i64 y.st.cl,.bool y.st.w.a,.bool y.st.w.p,.int .i64 y.st.w.n,.bool y.st.h.a,.bool y.st.h.p,.int .i64 y.st.h.n,.int .i64 y.st.mn,.int .i64 y.st.mx,.int .i64 y.st.mt,.bool y.st.mr.a,.bool y.st.mr.p,.int .i64 y.st.mr.n,.int .i64 y.st.mb,.bool y.st.ml.a,.bool y.st.ml.p,.int .i64 y.st.ml.n,.int .i64 y.st.bo,.int .i64 y.st.pa,.int .i64 y.st.wh,.int .i64 y.st.al,.int .i64 y.st.lh,.int .i64 y.st.ri,.int .i64 y.st.dn]:Array Value).toList.drop 2 from rfl,List.getElem?_drop];simp)
 have cp2:W.cell? ⟨p,2,none⟩ = some (.slice (some ⟨gi,0,none⟩) i ci):=(bel.cell (p:=⟨p,2,none⟩) lp).trans c2w
 have cgi:W.cell? ⟨gi,u,none⟩ = some (.int .i64 ar):=(bel.cell (p:=⟨gi,u,none⟩) lgi).trans qi
 have HL0:Hid (W.heap[w.heap.size]? = some (.cells (#[.int .i64 y.up,.string y.tx,.int .i64 y.st.sh,.int .i64 y.st.fl,.int .i64 y.st.cl,.bool y.st.w.a,.bool y.st.w.p,.int .i64 y.st.w.n,.bool y.st.h.a,.bool y.st.h.p,.int .i64 y.st.h.n,.int .i64 y.st.mn,.int .i64 y.st.mx,.int .i64 y.st.mt,.bool y.st.mr.a,.bool y.st.mr.p,.int .i64 y.st.mr.n,.int .i64 y.st.mb,.bool y.st.ml.a,.bool y.st.ml.p,.int .i64 y.st.ml.n,.int .i64 y.st.bo,.int .i64 y.st.pa,.int .i64 y.st.wh,.int .i64 y.st.al,.int .i64 y.st.lh,.int .i64 y.st.ri,.int .i64 y.st.dn]) 75 (0,0))):=l0
 clear l0 qi c2w hr c0
 go_wp2_with fail
 go_quiet (fail)
 go_wp2_with (first
  | (with_reducible show wpList _ _ _ (⟨some 28,Op.load 73 _,_,_,_,_⟩ :: _) _ _;refine wpList_load_mid rfl 73 _ rfl w.heap.size 2 rfl (stCells y.st).toList _ (range_drewN RS.out) Tryz.underlying73 rfl (by kernel_rfl) ?_)
  | fail)
 refine (BK _).mono ?_
 rintro e w2 ⟨rfl,hb⟩
 have hbW:Below W.heap.size W w2:=⟨hb.os,hb.tape,hb.output,hb.size,hb.block⟩
 have b2:Below w.heap.size w w2:=bel.trans (hbW.mono bel.size)
 have G2:=HG.out.keep b2
 have l2:Hid (w2.heap[w.heap.size]? = some (.cells (#[.int .i64 y.up,.string y.tx,.int .i64 y.st.sh,.int .i64 y.st.fl,.int .i64 y.st.cl,.bool y.st.w.a,.bool y.st.w.p,.int .i64 y.st.w.n,.bool y.st.h.a,.bool y.st.h.p,.int .i64 y.st.h.n,.int .i64 y.st.mn,.int .i64 y.st.mx,.int .i64 y.st.mt,.bool y.st.mr.a,.bool y.st.mr.p,.int .i64 y.st.mr.n,.int .i64 y.st.mb,.bool y.st.ml.a,.bool y.st.ml.p,.int .i64 y.st.ml.n,.int .i64 y.st.bo,.int .i64 y.st.pa,.int .i64 y.st.wh,.int .i64 y.st.al,.int .i64 y.st.lh,.int .i64 y.st.ri,.int .i64 y.st.dn]) 75 (0,0))):=below_lies hbW HL0.out (by omega)
 have B2:Below B w w2:=b2.mono hBs
 have s0:w2.cell? ⟨w.heap.size,2,none⟩ = some (.int .i64 y.st.sh):=(lies_cell l2.out 2).trans rfl
 have s1:w2.cell? ⟨w.heap.size,1,none⟩ = some (.string y.tx):=(lies_cell l2.out 1).trans rfl
 have c2:w2.cell? ⟨p,2,none⟩ = some (.slice (some ⟨gi,0,none⟩) i ci):=(lies_cell G2.lies 2).trans rfl
 have f2:w2.frozen? ⟨p,2,none⟩ = false:=Lib.frozen_of_heap G2.lies 2
 have lw:w.heap.size < w2.heap.size:=lies_lt l2.out
 clear hb hbW HL0 RS cu cp2 cgi bel HG BK b2
 have hi0:(0:Int) < (i:Int):=by omega
 subst hq
 have hb1:(S.ti == -1) = false:=by simpa using ha
 have hb2:(y.st.sh == 3) = false:=by simpa using h3
 have rb:=range_box l2.out
 go_wp2_with (first
  | (with_reducible show wpList _ _ _ (⟨some 53,Op.load 75 _,_,_,_,_⟩ :: _) _ _;refine wpList_load_mid rfl 75 _ rfl w.heap.size 0 rfl (ndL y) _ rb Tryz.underlying75 rfl (by kernel_rfl) ?_)
  | fail)
 refine (TX _).mono ?_
 rintro e w5 ⟨rfl,hb5⟩
 have G5:=G2.keep hb5
 have B5:Below B w w5:=B2.trans (hb5.mono (Nat.le_trans hBs B2.size))
 have s5:w5.cell? ⟨w.heap.size,1,none⟩ = some (.string y.tx):=(hb5.cell (p:=⟨w.heap.size,1,none⟩) lw).trans s1
 have c5:w5.cell? ⟨p,2,none⟩ = some (.slice (some ⟨gi,0,none⟩) i ci):=(lies_cell G5.lies 2).trans rfl
 have f5:w5.frozen? ⟨p,2,none⟩ = false:=Lib.frozen_of_heap G5.lies 2
 have lw5:w.heap.size < w5.heap.size:=Nat.lt_of_lt_of_le lw hb5.size
 clear rb hb5 l2 s0 s1 c2 f2 G2 B2 TX lw
 have HG2:Hid (Bg w5 B p (.slice (some ⟨b,off,none⟩) n cap) S vb (.slice (some ⟨gi,0,none⟩) i ci) vt):=G5
 have o2:w5.ownsRow B 3 1 (.slice (some ⟨gi,0,none⟩) i ci) i (S.inn.map (Value.int .i64)):=by have h:=HG2.out.oi;rw [hin'] at h;exact h
 have hBw:B ≤ w5.heap.size:=Nat.le_trans hBs B5.size
 have HB2:Hid (Below B w w5):=B5
 clear G5 B5
 go_wp2_with (at_builtin;refine wpList_append_own_at _ rfl (.tmp 59) (.tmp 60) 69 rfl B 3 i0 (.int .i64 0) 1 8 Tryz.underlying69 hinf hz0 hz1 hz2 rfl (by decide) _ _ _ rfl (o2.alloc _) ⟨w5.heap.size,0,none⟩ 1 1 [.int .i64 (-1)] rfl rfl (cell_one_new _ _ _) (one_i64 _) (by unfold maxLen;omega) (by omega) (by simp;omega) ?_)
 intro v' w3 hown3 hgrow3 _ _
 obtain ⟨a3,k3,rfl⟩:=own_form hown3
 have GA:=HG2.out.keep ((Below.refl _ _).alloc (Nat.le_refl _) (.cells #[.int .i64 (-1)] 3))
 have l3:w3.heap[p]? = _:=(hgrow3.block p (lies_lt GA.lies) (fun e=>own_ne GA.oi GA.lies (by decide) e.symm)).trans GA.lies
 have d2:w3.cell? ⟨p,2,none⟩ = some (.slice (some ⟨gi,0,none⟩) i ci):=(lies_cell l3 2).trans rfl
 have g2:w3.frozen? ⟨p,2,none⟩ = false:=Lib.frozen_of_heap l3 2
 have R:=GA.putI (l:=S.inn ++ [-1]) hgrow3 (snocI hin'.symm hown3)
 have RB:=((HB2.out.alloc hBw _).grown hgrow3 (by simp;omega) (fun k hk=>(GA.oi.lt k hk).1)).setCell (p:=⟨p,2,none⟩) GA.hp (.slice a3 (i + 1) k3)
 have HR:Hid (_ ∧ _):=And.intro R RB
 have hne:¬ w.heap.size = p:=by omega
 have e1:w3.cell? ⟨w.heap.size,1,none⟩ = some (.string y.tx):=by
  rw [hgrow3.cell_far ⟨w.heap.size,1,none⟩ (by simp;omega) (fun e=>by have h:w.heap.size = gi:=Option.some.inj e;omega)]
  rw [World.cell?_alloc_some _ _ _ (by rw [s5];rfl)]
  exact s5
 have s6:(w3.setCell ⟨p,2,none⟩ (.slice a3 (i + 1) k3)).cell? ⟨w.heap.size,1,none⟩ = some (.string y.tx):=by
  rw [World.cell?_setCell_far _ _ _ _ (fun e=>hne e.symm)]
  exact e1
 clear R RB GA l3 hown3 hgrow3 o2 HG2 HB2 c5 f5 s5
 go_wp2_with fail
 refine (addText_same B p (.slice (some ⟨b,off,none⟩) n cap) { S with inn:=S.inn ++ [-1] } vb _ vt y.tx _ HR.out.1 (by have:=hok.size;show S.tx.size ≤ 8000;omega) TXL.out).mono ?_
 rintro e w7 ⟨rfl,⟨vt',G7⟩,B7⟩
 have B8:=HR.out.2.trans B7
 clear HR B7 s6 e1 d2 g2
 go_wp2
 go_ret
 exact ⟨rfl,⟨_,_,_,G7.okp true⟩,B8⟩
set_option maxRecDepth 100000 in
set_option maxHeartbeats 8000000 in
theorem take_text2 (B p i b off n cap:Nat) (ns:List Nd) (S:Ps) (vb vi vt:Value) (w:World) (hbg:Bg w B p (.slice (some ⟨b,off,none⟩) n cap) S vb vi vt) (hok:PsOk ns i S) (hns:NsOk ns) (hi:i < n) (hnd:NdAt w B b off n ns) (hwh:WhOk ns) (hS:S.ok = true) (h0:0 < i) (ha:¬ arP ns S i = -1) (h3:¬ (ns.getD i nd0).st.sh = 3) (ht:isT ns i = true) (hq:¬ arP ns S i = S.ti) :
  Calls Tryz.prog 42 #[.pointer (some ⟨p,0,none⟩),.int .i64 (i:Int)] w fun e w'=>e = .returned (.bool (takeP ns S i).ok) ∧ (∃ vb' vi' vt',Bg w' B p (.slice (some ⟨b,off,none⟩) n cap) (takeP ns S i) vb' vi' vt') ∧ Below B w w':=by
 obtain ⟨i0,hinf,hz0,hz1,hz2⟩:=bgInfo3
 have hin:i < ns.length:=by rw [← hnd.len];exact hi
 obtain ⟨y,hy⟩:∃ y,ns[i]? = some y:=⟨_,List.getElem?_eq_getElem hin⟩
 obtain ⟨gU,gT,gD⟩:=getI hy
 have hTt:zeroS y.st = true:=by rw [← gT];exact ht
 obtain ⟨tOk,tNe⟩:=hns.texts i hin ht
 rw [gD] at tOk tNe h3
 have tLe:=(okB_yes tOk).1
 have TXL:Hid (y.tx.size ≤ 200):=tLe
 have HT:Hid (takeP ns S i = { bs:=endB ns S,inn:=S.inn ++ [-1],tx:=y.tx,ti:=arP ns S i,ok:=S.ok && endO S }):=by
  show _ = _
  unfold takeP
  rw [gD]
  rw [if_neg (by unfold goneP;rw [decide_eq_true_eq,gD];rintro (h | h);exact ha h.2;exact h3 h),if_pos ht,if_neg hq]
 rw [HT.out,hS,Bool.true_and]
 show Calls _ _ _ _ fun e w'=>e = .returned (.bool (endO S)) ∧ _
 clear HT
 have hr:=hnd.rows i y hy
 have hn40:=hnd.le
 have lp:=lies_lt hbg.lies
 have hBs:B ≤ w.heap.size:=Nat.le_trans hbg.hp (Nat.le_of_lt lp)
 have c0:w.cell? ⟨p,0,none⟩ = some (.slice (some ⟨b,off,none⟩) n cap):=(lies_cell hbg.lies 0).trans rfl
 have BK:=fun W=>boxKind_any y.st W
 have TX:=fun W=>implIsText_any y W
 rw [hTt] at TX
 obtain ⟨u,hu,eu,_⟩:=(hns.stands i hin).ups h0
 have hyu:y.up = (u:Int):=by rw [← gU];exact eu
 have hin':S.inn.length = i:=hok.len
 obtain ⟨gi,ci,hvi⟩:=own_some hbg.oi (by omega)
 rw [hin'] at hvi
 subst hvi
 have hoi:=hbg.oi
 rw [hin'] at hoi
 have HAR:Hid (arP ns S i = S.inn.getD u 0):=by show _ = _;unfold arP;rw [gU,hyu,if_pos (by omega)];rfl
 obtain ⟨ar,har0⟩:∃ ar,ar = S.inn.getD u 0:=⟨_,rfl⟩
 have HA2:Hid (arP ns S i = ar):=HAR.out.trans har0.symm
 rw [HA2.out] at ha hq ⊢
 have qi:w.cell? ⟨gi,u,none⟩ = some (.int .i64 ar):=by
  have h:=(hoi.cellAt u (by omega))
  rw [h,List.getElem?_map,har0,List.getD_eq_getElem?_getD,List.getElem?_eq_getElem (by omega)]
  rfl
 have lgi:gi < w.heap.size:=(hbg.oi.lt gi rfl).2
 clear har0 hoi eu HAR
 have c2w:w.cell? ⟨p,2,none⟩ = some (.slice (some ⟨gi,0,none⟩) i ci):=(lies_cell hbg.lies 2).trans rfl
 have hui:(u:Int) < (i:Int):=by omega
 have HG:Hid (Bg w B p (.slice (some ⟨b,off,none⟩) n cap) S vb (.slice (some ⟨gi,0,none⟩) i ci) vt):=hbg
 clear hbg
 go_enter Tryz.func42,Tryz.ntmps42
 go_wp2_with (first
  | (with_reducible show wpList _ _ _ (⟨some 15,Op.load 75 _,_,_,_,_⟩ :: _) _ _;refine wpList_load_mid rfl 75 _ rfl b (off + i * 28) rfl (ndL y) _ hr Tryz.underlying75 rfl (by kernel_rfl) ?_)
  | (with_reducible show wpList _ _ _ (⟨none,Op.store 75 _ _,_,_,_,_⟩ :: _) _ _;refine wpList_store_box rfl 75 _ _ rfl rfl (#[.int .i64 y.up,.string y.tx,.int .i64 y.st.sh,.int .i64 y.st.fl,.int .i64 y.st.cl,.bool y.st.w.a,.bool y.st.w.p,.int .i64 y.st.w.n,.bool y.st.h.a,.bool y.st.h.p,.int .i64 y.st.h.n,.int .i64 y.st.mn,.int .i64 y.st.mx,.int .i64 y.st.mt,.bool y.st.mr.a,.bool y.st.mr.p,.int .i64 y.st.mr.n,.int .i64 y.st.mb,.bool y.st.ml.a,.bool y.st.ml.p,.int .i64 y.st.ml.n,.int .i64 y.st.bo,.int .i64 y.st.pa,.int .i64 y.st.wh,.int .i64 y.st.al,.int .i64 y.st.lh,.int .i64 y.st.ri,.int .i64 y.st.dn]) rfl rfl (by kernel_rfl) rfl (by kernel_rfl) ?_;intro W bel l0 hsz;refine stay ?_)
  | fail)
 unfold Stay
 have cu:W.cell? ⟨w.heap.size,0,none⟩ = some (.int .i64 ((u:Int))):=(lies_cell l0 0).trans (by rw [hyu];rfl)
 have RS:Hid (W.rangeAt w.heap.size 2 (stCells y.st).toList):=fun j v hj=>(lies_cell l0 (2 + j)).trans (by rw [← hj,show (stCells y.st).toList = (#[.int .i64 y.up,.string y.tx,.int .i64 y.st.sh,.int .i64 y.st.fl,.int .i64 y.st.cl,.bool y.st.w.a,.bool y.st.w.p,.int .i64 y.st.w.n,.bool y.st.h.a,.bool y.st.h.p,.int .i64 y.st.h.n,.int .i64 y.st.mn,.int .i64 y.st.mx,.int .i64 y.st.mt,.bool y.st.mr.a,.bool y.st.mr.p,.int .i64 y.st.mr.n,.int .i64 y.st.mb,.bool y.st.ml.a,.bool y.st.ml.p,.int .i64 y.st.ml.n,.int .i64 y.st.bo,.int .i64 y.st.pa,.int .i64 y.st.wh,.int .i64 y.st.al,.int .i64 y.st.lh,.int .i64 y.st.ri,.int .i64 y.st.dn]:Array Value).toList.drop 2 from rfl,List.getElem?_drop];simp)
 have cp2:W.cell? ⟨p,2,none⟩ = some (.slice (some ⟨gi,0,none⟩) i ci):=(bel.cell (p:=⟨p,2,none⟩) lp).trans c2w
 have cgi:W.cell? ⟨gi,u,none⟩ = some (.int .i64 ar):=(bel.cell (p:=⟨gi,u,none⟩) lgi).trans qi
 have HL0:Hid (W.heap[w.heap.size]? = some (.cells (#[.int .i64 y.up,.string y.tx,.int .i64 y.st.sh,.int .i64 y.st.fl,.int .i64 y.st.cl,.bool y.st.w.a,.bool y.st.w.p,.int .i64 y.st.w.n,.bool y.st.h.a,.bool y.st.h.p,.int .i64 y.st.h.n,.int .i64 y.st.mn,.int .i64 y.st.mx,.int .i64 y.st.mt,.bool y.st.mr.a,.bool y.st.mr.p,.int .i64 y.st.mr.n,.int .i64 y.st.mb,.bool y.st.ml.a,.bool y.st.ml.p,.int .i64 y.st.ml.n,.int .i64 y.st.bo,.int .i64 y.st.pa,.int .i64 y.st.wh,.int .i64 y.st.al,.int .i64 y.st.lh,.int .i64 y.st.ri,.int .i64 y.st.dn]) 75 (0,0))):=l0
 clear l0 qi c2w hr c0
 go_wp2_with fail
 go_quiet (fail)
 go_wp2_with (first
  | (with_reducible show wpList _ _ _ (⟨some 28,Op.load 73 _,_,_,_,_⟩ :: _) _ _;refine wpList_load_mid rfl 73 _ rfl w.heap.size 2 rfl (stCells y.st).toList _ (range_drewN RS.out) Tryz.underlying73 rfl (by kernel_rfl) ?_)
  | fail)
 refine (BK _).mono ?_
 rintro e w2 ⟨rfl,hb⟩
 have hbW:Below W.heap.size W w2:=⟨hb.os,hb.tape,hb.output,hb.size,hb.block⟩
 have b2:Below w.heap.size w w2:=bel.trans (hbW.mono bel.size)
 have G2:=HG.out.keep b2
 have l2:Hid (w2.heap[w.heap.size]? = some (.cells (#[.int .i64 y.up,.string y.tx,.int .i64 y.st.sh,.int .i64 y.st.fl,.int .i64 y.st.cl,.bool y.st.w.a,.bool y.st.w.p,.int .i64 y.st.w.n,.bool y.st.h.a,.bool y.st.h.p,.int .i64 y.st.h.n,.int .i64 y.st.mn,.int .i64 y.st.mx,.int .i64 y.st.mt,.bool y.st.mr.a,.bool y.st.mr.p,.int .i64 y.st.mr.n,.int .i64 y.st.mb,.bool y.st.ml.a,.bool y.st.ml.p,.int .i64 y.st.ml.n,.int .i64 y.st.bo,.int .i64 y.st.pa,.int .i64 y.st.wh,.int .i64 y.st.al,.int .i64 y.st.lh,.int .i64 y.st.ri,.int .i64 y.st.dn]) 75 (0,0))):=below_lies hbW HL0.out (by omega)
 have B2:Below B w w2:=b2.mono hBs
 have s0:w2.cell? ⟨w.heap.size,2,none⟩ = some (.int .i64 y.st.sh):=(lies_cell l2.out 2).trans rfl
 have s1:w2.cell? ⟨w.heap.size,1,none⟩ = some (.string y.tx):=(lies_cell l2.out 1).trans rfl
 have c2:w2.cell? ⟨p,2,none⟩ = some (.slice (some ⟨gi,0,none⟩) i ci):=(lies_cell G2.lies 2).trans rfl
 have f2:w2.frozen? ⟨p,2,none⟩ = false:=Lib.frozen_of_heap G2.lies 2
 have lw:w.heap.size < w2.heap.size:=lies_lt l2.out
 clear hb hbW HL0 RS cu cp2 cgi bel HG BK b2
 have hi0:(0:Int) < (i:Int):=by omega
 have hb1:(ar == -1) = false:=by simpa using ha
 have hb2:(y.st.sh == 3) = false:=by simpa using h3
 have rb:=range_box l2.out
 go_wp2_with (first
  | (with_reducible show wpList _ _ _ (⟨some 53,Op.load 75 _,_,_,_,_⟩ :: _) _ _;refine wpList_load_mid rfl 75 _ rfl w.heap.size 0 rfl (ndL y) _ rb Tryz.underlying75 rfl (by kernel_rfl) ?_)
  | fail)
 refine (TX _).mono ?_
 rintro e w5 ⟨rfl,hb5⟩
 have G5:=G2.keep hb5
 have B5:Below B w w5:=B2.trans (hb5.mono (Nat.le_trans hBs B2.size))
 have s5:w5.cell? ⟨w.heap.size,1,none⟩ = some (.string y.tx):=(hb5.cell (p:=⟨w.heap.size,1,none⟩) lw).trans s1
 have c5:w5.cell? ⟨p,2,none⟩ = some (.slice (some ⟨gi,0,none⟩) i ci):=(lies_cell G5.lies 2).trans rfl
 have f5:w5.frozen? ⟨p,2,none⟩ = false:=Lib.frozen_of_heap G5.lies 2
 have lw5:w.heap.size < w5.heap.size:=Nat.lt_of_lt_of_le lw hb5.size
 clear rb hb5 l2 s0 s1 c2 f2 G2 B2 TX lw
 have HG2:Hid (Bg w5 B p (.slice (some ⟨b,off,none⟩) n cap) S vb (.slice (some ⟨gi,0,none⟩) i ci) vt):=G5
 have o2:w5.ownsRow B 3 1 (.slice (some ⟨gi,0,none⟩) i ci) i (S.inn.map (Value.int .i64)):=by have h:=HG2.out.oi;rw [hin'] at h;exact h
 have hBw:B ≤ w5.heap.size:=Nat.le_trans hBs B5.size
 have HB2:Hid (Below B w w5):=B5
 clear G5 B5
 go_wp2_with (at_builtin;refine wpList_append_own_at _ rfl (.tmp 59) (.tmp 60) 69 rfl B 3 i0 (.int .i64 0) 1 8 Tryz.underlying69 hinf hz0 hz1 hz2 rfl (by decide) _ _ _ rfl (o2.alloc _) ⟨w5.heap.size,0,none⟩ 1 1 [.int .i64 (-1)] rfl rfl (cell_one_new _ _ _) (one_i64 _) (by unfold maxLen;omega) (by omega) (by simp;omega) ?_)
 intro v' w3 hown3 hgrow3 _ _
 obtain ⟨a3,k3,rfl⟩:=own_form hown3
 have GA:=HG2.out.keep ((Below.refl _ _).alloc (Nat.le_refl _) (.cells #[.int .i64 (-1)] 3))
 have l3:w3.heap[p]? = _:=(hgrow3.block p (lies_lt GA.lies) (fun e=>own_ne GA.oi GA.lies (by decide) e.symm)).trans GA.lies
 have d2:w3.cell? ⟨p,2,none⟩ = some (.slice (some ⟨gi,0,none⟩) i ci):=(lies_cell l3 2).trans rfl
 have g2:w3.frozen? ⟨p,2,none⟩ = false:=Lib.frozen_of_heap l3 2
 have R:=GA.putI (l:=S.inn ++ [-1]) hgrow3 (snocI hin'.symm hown3)
 have RB:=((HB2.out.alloc hBw _).grown hgrow3 (by simp;omega) (fun k hk=>(GA.oi.lt k hk).1)).setCell (p:=⟨p,2,none⟩) GA.hp (.slice a3 (i + 1) k3)
 have HR:Hid (_ ∧ _):=And.intro R RB
 have hne:¬ w.heap.size = p:=by omega
 have e1:w3.cell? ⟨w.heap.size,1,none⟩ = some (.string y.tx):=by
  rw [hgrow3.cell_far ⟨w.heap.size,1,none⟩ (by simp;omega) (fun e=>by have h:w.heap.size = gi:=Option.some.inj e;omega)]
  rw [World.cell?_alloc_some _ _ _ (by rw [s5];rfl)]
  exact s5
 have s6:(w3.setCell ⟨p,2,none⟩ (.slice a3 (i + 1) k3)).cell? ⟨w.heap.size,1,none⟩ = some (.string y.tx):=by
  rw [World.cell?_setCell_far _ _ _ _ (fun e=>hne e.symm)]
  exact e1
 clear R RB GA l3 hown3 hgrow3 o2 HG2 HB2 c5 f5 s5
 go_wp2_with fail
 refine (addText_other B p i b off n cap ns { S with inn:=S.inn ++ [-1] } vb _ vt ar y.tx _ HR.out.1 ⟨hok.many,hok.size,hok.good,hok.ti,hok.nds⟩ (Nat.le_of_lt hi) (hnd.below HR.out.2) hwh hq TXL.out).mono ?_
 rintro e w7 ⟨rfl,⟨vb',vt',G7⟩,B7⟩
 have B8:=HR.out.2.trans B7
 have G8:Bg w7 B p (.slice (some ⟨b,off,none⟩) n cap) { bs:=endB ns S,inn:=S.inn ++ [-1],tx:=y.tx,ti:=ar,ok:=endO S } vb' (.slice a3 (i + 1) k3) vt':=G7.okp (endO S)
 clear HR B7 s6 e1 d2 g2 G7
 have e7:endO ({ S with inn:=S.inn ++ [-1] }:Ps) = endO S:=rfl
 rw [e7]
 go_wp2
 go_ret
 exact ⟨rfl,⟨_,_,_,G8⟩,B8⟩
set_option maxRecDepth 100000 in
set_option maxHeartbeats 8000000 in
theorem take_inline (B p i b off n cap:Nat) (ns:List Nd) (S:Ps) (vb vi vt:Value) (w:World) (hbg:Bg w B p (.slice (some ⟨b,off,none⟩) n cap) S vb vi vt) (hok:PsOk ns i S) (hns:NsOk ns) (hi:i < n) (hnd:NdAt w B b off n ns) (hwh:WhOk ns) (hS:S.ok = true) (h0:0 < i) (ha:¬ arP ns S i = -1) (h3:¬ (ns.getD i nd0).st.sh = 3) (ht:isT ns i = false) (hkd:kindS (ns.getD i nd0).st = 0) :
  Calls Tryz.prog 42 #[.pointer (some ⟨p,0,none⟩),.int .i64 (i:Int)] w fun e w'=>e = .returned (.bool (takeP ns S i).ok) ∧ (∃ vb' vi' vt',Bg w' B p (.slice (some ⟨b,off,none⟩) n cap) (takeP ns S i) vb' vi' vt') ∧ Below B w w':=by
 obtain ⟨i0,hinf,hz0,hz1,hz2⟩:=bgInfo3
 have hin:i < ns.length:=by rw [← hnd.len];exact hi
 obtain ⟨y,hy⟩:∃ y,ns[i]? = some y:=⟨_,List.getElem?_eq_getElem hin⟩
 obtain ⟨gU,gT,gD⟩:=getI hy
 have hTt:zeroS y.st = false:=by rw [← gT];exact ht
 rw [gD] at h3 hkd
 have HT:Hid (takeP ns S i = { S with inn:=S.inn ++ [arP ns S i] }):=by
  show _ = _
  unfold takeP
  rw [gD]
  rw [if_neg (by unfold goneP;rw [decide_eq_true_eq,gD];rintro (h | h);exact ha h.2;exact h3 h),if_neg (by rw [ht];decide),if_pos hkd]
 rw [HT.out]
 show Calls _ _ _ _ fun e w'=>e = .returned (.bool S.ok) ∧ _
 rw [hS]
 clear HT
 have hr:=hnd.rows i y hy
 have hn40:=hnd.le
 have lp:=lies_lt hbg.lies
 have hBs:B ≤ w.heap.size:=Nat.le_trans hbg.hp (Nat.le_of_lt lp)
 have c0:w.cell? ⟨p,0,none⟩ = some (.slice (some ⟨b,off,none⟩) n cap):=(lies_cell hbg.lies 0).trans rfl
 have BK:=fun W=>boxKind_any y.st W
 have TX:=fun W=>implIsText_any y W
 rw [hTt] at TX
 rw [hkd] at BK
 obtain ⟨u,hu,eu,_⟩:=(hns.stands i hin).ups h0
 have hyu:y.up = (u:Int):=by rw [← gU];exact eu
 have hin':S.inn.length = i:=hok.len
 obtain ⟨gi,ci,hvi⟩:=own_some hbg.oi (by omega)
 rw [hin'] at hvi
 subst hvi
 have hoi:=hbg.oi
 rw [hin'] at hoi
 have HAR:Hid (arP ns S i = S.inn.getD u 0):=by show _ = _;unfold arP;rw [gU,hyu,if_pos (by omega)];rfl
 obtain ⟨ar,har0⟩:∃ ar,ar = S.inn.getD u 0:=⟨_,rfl⟩
 have HA2:Hid (arP ns S i = ar):=HAR.out.trans har0.symm
 rw [HA2.out] at ha ⊢
 have qi:w.cell? ⟨gi,u,none⟩ = some (.int .i64 ar):=by
  have h:=(hoi.cellAt u (by omega))
  rw [h,List.getElem?_map,har0,List.getD_eq_getElem?_getD,List.getElem?_eq_getElem (by omega)]
  rfl
 have lgi:gi < w.heap.size:=(hbg.oi.lt gi rfl).2
 clear har0 hoi eu HAR
 have c2w:w.cell? ⟨p,2,none⟩ = some (.slice (some ⟨gi,0,none⟩) i ci):=(lies_cell hbg.lies 2).trans rfl
 have hui:(u:Int) < (i:Int):=by omega
 have HG:Hid (Bg w B p (.slice (some ⟨b,off,none⟩) n cap) S vb (.slice (some ⟨gi,0,none⟩) i ci) vt):=hbg
 clear hbg
 go_enter Tryz.func42,Tryz.ntmps42
 go_wp2_with (first
  | (with_reducible show wpList _ _ _ (⟨some 15,Op.load 75 _,_,_,_,_⟩ :: _) _ _;refine wpList_load_mid rfl 75 _ rfl b (off + i * 28) rfl (ndL y) _ hr Tryz.underlying75 rfl (by kernel_rfl) ?_)
  | (with_reducible show wpList _ _ _ (⟨none,Op.store 75 _ _,_,_,_,_⟩ :: _) _ _;refine wpList_store_box rfl 75 _ _ rfl rfl (#[.int .i64 y.up,.string y.tx,.int .i64 y.st.sh,.int .i64 y.st.fl,.int .i64 y.st.cl,.bool y.st.w.a,.bool y.st.w.p,.int .i64 y.st.w.n,.bool y.st.h.a,.bool y.st.h.p,.int .i64 y.st.h.n,.int .i64 y.st.mn,.int .i64 y.st.mx,.int .i64 y.st.mt,.bool y.st.mr.a,.bool y.st.mr.p,.int .i64 y.st.mr.n,.int .i64 y.st.mb,.bool y.st.ml.a,.bool y.st.ml.p,.int .i64 y.st.ml.n,.int .i64 y.st.bo,.int .i64 y.st.pa,.int .i64 y.st.wh,.int .i64 y.st.al,.int .i64 y.st.lh,.int .i64 y.st.ri,.int .i64 y.st.dn]) rfl rfl (by kernel_rfl) rfl (by kernel_rfl) ?_;intro W bel l0 hsz;refine stay ?_)
  | fail)
 unfold Stay
 have cu:W.cell? ⟨w.heap.size,0,none⟩ = some (.int .i64 ((u:Int))):=(lies_cell l0 0).trans (by rw [hyu];rfl)
 have RS:Hid (W.rangeAt w.heap.size 2 (stCells y.st).toList):=fun j v hj=>(lies_cell l0 (2 + j)).trans (by rw [← hj,show (stCells y.st).toList = (#[.int .i64 y.up,.string y.tx,.int .i64 y.st.sh,.int .i64 y.st.fl,.int .i64 y.st.cl,.bool y.st.w.a,.bool y.st.w.p,.int .i64 y.st.w.n,.bool y.st.h.a,.bool y.st.h.p,.int .i64 y.st.h.n,.int .i64 y.st.mn,.int .i64 y.st.mx,.int .i64 y.st.mt,.bool y.st.mr.a,.bool y.st.mr.p,.int .i64 y.st.mr.n,.int .i64 y.st.mb,.bool y.st.ml.a,.bool y.st.ml.p,.int .i64 y.st.ml.n,.int .i64 y.st.bo,.int .i64 y.st.pa,.int .i64 y.st.wh,.int .i64 y.st.al,.int .i64 y.st.lh,.int .i64 y.st.ri,.int .i64 y.st.dn]:Array Value).toList.drop 2 from rfl,List.getElem?_drop];simp)
 have cp2:W.cell? ⟨p,2,none⟩ = some (.slice (some ⟨gi,0,none⟩) i ci):=(bel.cell (p:=⟨p,2,none⟩) lp).trans c2w
 have cgi:W.cell? ⟨gi,u,none⟩ = some (.int .i64 ar):=(bel.cell (p:=⟨gi,u,none⟩) lgi).trans qi
 have HL0:Hid (W.heap[w.heap.size]? = some (.cells (#[.int .i64 y.up,.string y.tx,.int .i64 y.st.sh,.int .i64 y.st.fl,.int .i64 y.st.cl,.bool y.st.w.a,.bool y.st.w.p,.int .i64 y.st.w.n,.bool y.st.h.a,.bool y.st.h.p,.int .i64 y.st.h.n,.int .i64 y.st.mn,.int .i64 y.st.mx,.int .i64 y.st.mt,.bool y.st.mr.a,.bool y.st.mr.p,.int .i64 y.st.mr.n,.int .i64 y.st.mb,.bool y.st.ml.a,.bool y.st.ml.p,.int .i64 y.st.ml.n,.int .i64 y.st.bo,.int .i64 y.st.pa,.int .i64 y.st.wh,.int .i64 y.st.al,.int .i64 y.st.lh,.int .i64 y.st.ri,.int .i64 y.st.dn]) 75 (0,0))):=l0
 clear l0 qi c2w hr c0
 go_wp2_with fail
 go_quiet (fail)
 go_wp2_with (first
  | (with_reducible show wpList _ _ _ (⟨some 28,Op.load 73 _,_,_,_,_⟩ :: _) _ _;refine wpList_load_mid rfl 73 _ rfl w.heap.size 2 rfl (stCells y.st).toList _ (range_drewN RS.out) Tryz.underlying73 rfl (by kernel_rfl) ?_)
  | fail)
 refine (BK _).mono ?_
 rintro e w2 ⟨rfl,hb⟩
 have hbW:Below W.heap.size W w2:=⟨hb.os,hb.tape,hb.output,hb.size,hb.block⟩
 have b2:Below w.heap.size w w2:=bel.trans (hbW.mono bel.size)
 have G2:=HG.out.keep b2
 have l2:Hid (w2.heap[w.heap.size]? = some (.cells (#[.int .i64 y.up,.string y.tx,.int .i64 y.st.sh,.int .i64 y.st.fl,.int .i64 y.st.cl,.bool y.st.w.a,.bool y.st.w.p,.int .i64 y.st.w.n,.bool y.st.h.a,.bool y.st.h.p,.int .i64 y.st.h.n,.int .i64 y.st.mn,.int .i64 y.st.mx,.int .i64 y.st.mt,.bool y.st.mr.a,.bool y.st.mr.p,.int .i64 y.st.mr.n,.int .i64 y.st.mb,.bool y.st.ml.a,.bool y.st.ml.p,.int .i64 y.st.ml.n,.int .i64 y.st.bo,.int .i64 y.st.pa,.int .i64 y.st.wh,.int .i64 y.st.al,.int .i64 y.st.lh,.int .i64 y.st.ri,.int .i64 y.st.dn]) 75 (0,0))):=below_lies hbW HL0.out (by omega)
 have B2:Below B w w2:=b2.mono hBs
 have s0:w2.cell? ⟨w.heap.size,2,none⟩ = some (.int .i64 y.st.sh):=(lies_cell l2.out 2).trans rfl
 have s1:w2.cell? ⟨w.heap.size,1,none⟩ = some (.string y.tx):=(lies_cell l2.out 1).trans rfl
 have c2:w2.cell? ⟨p,2,none⟩ = some (.slice (some ⟨gi,0,none⟩) i ci):=(lies_cell G2.lies 2).trans rfl
 have f2:w2.frozen? ⟨p,2,none⟩ = false:=Lib.frozen_of_heap G2.lies 2
 have lw:w.heap.size < w2.heap.size:=lies_lt l2.out
 clear hb hbW HL0 RS cu cp2 cgi bel HG BK b2
 have hi0:(0:Int) < (i:Int):=by omega
 have hb1:(ar == -1) = false:=by simpa using ha
 have hb2:(y.st.sh == 3) = false:=by simpa using h3
 have rb:=range_box l2.out
 go_wp2_with (first
  | (with_reducible show wpList _ _ _ (⟨some 53,Op.load 75 _,_,_,_,_⟩ :: _) _ _;refine wpList_load_mid rfl 75 _ rfl w.heap.size 0 rfl (ndL y) _ rb Tryz.underlying75 rfl (by kernel_rfl) ?_)
  | fail)
 refine (TX _).mono ?_
 rintro e w5 ⟨rfl,hb5⟩
 have G5:=G2.keep hb5
 have B5:Below B w w5:=B2.trans (hb5.mono (Nat.le_trans hBs B2.size))
 have s5:w5.cell? ⟨w.heap.size,1,none⟩ = some (.string y.tx):=(hb5.cell (p:=⟨w.heap.size,1,none⟩) lw).trans s1
 have c5:w5.cell? ⟨p,2,none⟩ = some (.slice (some ⟨gi,0,none⟩) i ci):=(lies_cell G5.lies 2).trans rfl
 have f5:w5.frozen? ⟨p,2,none⟩ = false:=Lib.frozen_of_heap G5.lies 2
 have lw5:w.heap.size < w5.heap.size:=Nat.lt_of_lt_of_le lw hb5.size
 clear rb hb5 l2 s0 s1 c2 f2 G2 B2 TX lw
 have HG2:Hid (Bg w5 B p (.slice (some ⟨b,off,none⟩) n cap) S vb (.slice (some ⟨gi,0,none⟩) i ci) vt):=G5
 have o2:w5.ownsRow B 3 1 (.slice (some ⟨gi,0,none⟩) i ci) i (S.inn.map (Value.int .i64)):=by have h:=HG2.out.oi;rw [hin'] at h;exact h
 have hBw:B ≤ w5.heap.size:=Nat.le_trans hBs B5.size
 have HB2:Hid (Below B w w5):=B5
 clear G5 B5
 go_wp2_with (at_builtin;refine wpList_append_own_at _ rfl (.tmp 76) (.tmp 78) 69 rfl B 3 i0 (.int .i64 0) 1 8 Tryz.underlying69 hinf hz0 hz1 hz2 rfl (by decide) _ _ _ rfl (o2.alloc _) ⟨w5.heap.size,0,none⟩ 1 1 [.int .i64 (ar)] rfl rfl (cell_one_new _ _ _) (one_i64 _) (by unfold maxLen;omega) (by omega) (by simp;omega) ?_)
 intro v' w3 hown3 hgrow3 _ _
 obtain ⟨a3,k3,rfl⟩:=own_form hown3
 have GA:=HG2.out.keep ((Below.refl _ _).alloc (Nat.le_refl _) (.cells #[.int .i64 (ar)] 3))
 have l3:w3.heap[p]? = _:=(hgrow3.block p (lies_lt GA.lies) (fun e=>own_ne GA.oi GA.lies (by decide) e.symm)).trans GA.lies
 have d2:w3.cell? ⟨p,2,none⟩ = some (.slice (some ⟨gi,0,none⟩) i ci):=(lies_cell l3 2).trans rfl
 have g2:w3.frozen? ⟨p,2,none⟩ = false:=Lib.frozen_of_heap l3 2
 have R:=GA.putI (l:=S.inn ++ [ar]) hgrow3 (snocI hin'.symm hown3)
 have RB:=((HB2.out.alloc hBw _).grown hgrow3 (by simp;omega) (fun k hk=>(GA.oi.lt k hk).1)).setCell (p:=⟨p,2,none⟩) GA.hp (.slice a3 (i + 1) k3)
 have HR:Hid (_ ∧ _):=And.intro R RB
 clear R RB c5 f5 s5 GA l3 hown3 hgrow3 o2 HG2 HB2
 go_wp2
 go_ret
 refine ⟨rfl,?_,HR.out.2⟩
 have h:=HR.out.1
 rw [hS] at h
 exact ⟨_,_,_,h⟩
theorem one4 (a b c:Int) (t:ByteArray):∀ u ∈ [Value.int .i64 a,.int .i64 b,.int .i64 c,.string t],u.oneCell' = true:=by
 intro u hu
 simp only [List.mem_cons,List.not_mem_nil,or_false] at hu
 rcases hu with rfl | rfl | rfl | rfl <;> rfl
set_option maxRecDepth 100000 in
set_option maxHeartbeats 8000000 in
theorem take_block (B p i b off n cap:Nat) (ns:List Nd) (S:Ps) (vb vi vt:Value) (w:World) (hbg:Bg w B p (.slice (some ⟨b,off,none⟩) n cap) S vb vi vt) (hok:PsOk ns i S) (hns:NsOk ns) (hi:i < n) (hnd:NdAt w B b off n ns) (hwh:WhOk ns) (hS:S.ok = true) (h0:0 < i) (ha:¬ arP ns S i = -1) (h3:¬ (ns.getD i nd0).st.sh = 3) (ht:isT ns i = false) (hkd:¬ kindS (ns.getD i nd0).st = 0) :
  Calls Tryz.prog 42 #[.pointer (some ⟨p,0,none⟩),.int .i64 (i:Int)] w fun e w'=>e = .returned (.bool (takeP ns S i).ok) ∧ (∃ vb' vi' vt',Bg w' B p (.slice (some ⟨b,off,none⟩) n cap) (takeP ns S i) vb' vi' vt') ∧ Below B w w':=by
 obtain ⟨i0,hinf,hz0,hz1,hz2⟩:=bgInfo3
 have hin:i < ns.length:=by rw [← hnd.len];exact hi
 obtain ⟨y,hy⟩:∃ y,ns[i]? = some y:=⟨_,List.getElem?_eq_getElem hin⟩
 obtain ⟨gU,gT,gD⟩:=getI hy
 obtain ⟨inf,hif,hx0,hx1,hx2⟩:=info_parts infoBox
 have hTt:zeroS y.st = false:=by rw [← gT];exact ht
 rw [gD] at hkd h3
 have HT:Hid (takeP ns S i = { bs:=endB ns S ++ [⟨kindS y.st,(i:Nat),arP ns S i,ByteArray.empty⟩],inn:=S.inn ++ [((endB ns S).length:Int)],tx:=ByteArray.empty,ti:=S.ti,ok:=S.ok && endO S }):=by
  show _ = _
  unfold takeP
  rw [gD]
  rw [if_neg (by unfold goneP;rw [decide_eq_true_eq,gD];rintro (h | h);exact ha h.2;exact h3 h),if_neg (by rw [ht];decide),if_neg hkd]
 rw [HT.out,hS,Bool.true_and]
 show Calls _ _ _ _ fun e w'=>e = .returned (.bool (endO S)) ∧ _
 clear HT
 obtain ⟨kd,hkd0⟩:∃ kd,kd = kindS y.st:=⟨_,rfl⟩
 rw [← hkd0] at hkd ⊢
 have HKD:Hid (kd = kindS y.st):=hkd0
 clear hkd0
 have hb3:(kd == 0) = false:=by simpa using hkd
 have hr:=hnd.rows i y hy
 have hn40:=hnd.le
 have lp:=lies_lt hbg.lies
 have hBs:B ≤ w.heap.size:=Nat.le_trans hbg.hp (Nat.le_of_lt lp)
 have c0:w.cell? ⟨p,0,none⟩ = some (.slice (some ⟨b,off,none⟩) n cap):=(lies_cell hbg.lies 0).trans rfl
 have BK:=fun W=>boxKind_any y.st W
 have TX:=fun W=>implIsText_any y W
 rw [hTt] at TX
 rw [← HKD.out] at BK
 obtain ⟨u,hu,eu,_⟩:=(hns.stands i hin).ups h0
 have hyu:y.up = (u:Int):=by rw [← gU];exact eu
 have hin':S.inn.length = i:=hok.len
 obtain ⟨gi,ci,hvi⟩:=own_some hbg.oi (by omega)
 rw [hin'] at hvi
 subst hvi
 have hoi:=hbg.oi
 rw [hin'] at hoi
 have HAR:Hid (arP ns S i = S.inn.getD u 0):=by show _ = _;unfold arP;rw [gU,hyu,if_pos (by omega)];rfl
 obtain ⟨ar,har0⟩:∃ ar,ar = S.inn.getD u 0:=⟨_,rfl⟩
 have HA2:Hid (arP ns S i = ar):=HAR.out.trans har0.symm
 rw [HA2.out] at ha ⊢
 have qi:w.cell? ⟨gi,u,none⟩ = some (.int .i64 ar):=by
  have h:=(hoi.cellAt u (by omega))
  rw [h,List.getElem?_map,har0,List.getD_eq_getElem?_getD,List.getElem?_eq_getElem (by omega)]
  rfl
 have lgi:gi < w.heap.size:=(hbg.oi.lt gi rfl).2
 clear har0 hoi eu HAR
 have c2w:w.cell? ⟨p,2,none⟩ = some (.slice (some ⟨gi,0,none⟩) i ci):=(lies_cell hbg.lies 2).trans rfl
 have hui:(u:Int) < (i:Int):=by omega
 have HG:Hid (Bg w B p (.slice (some ⟨b,off,none⟩) n cap) S vb (.slice (some ⟨gi,0,none⟩) i ci) vt):=hbg
 clear hbg
 go_enter Tryz.func42,Tryz.ntmps42
 go_wp2_with (first
  | (with_reducible show wpList _ _ _ (⟨some 15,Op.load 75 _,_,_,_,_⟩ :: _) _ _;refine wpList_load_mid rfl 75 _ rfl b (off + i * 28) rfl (ndL y) _ hr Tryz.underlying75 rfl (by kernel_rfl) ?_)
  | (with_reducible show wpList _ _ _ (⟨none,Op.store 75 _ _,_,_,_,_⟩ :: _) _ _;refine wpList_store_box rfl 75 _ _ rfl rfl (#[.int .i64 y.up,.string y.tx,.int .i64 y.st.sh,.int .i64 y.st.fl,.int .i64 y.st.cl,.bool y.st.w.a,.bool y.st.w.p,.int .i64 y.st.w.n,.bool y.st.h.a,.bool y.st.h.p,.int .i64 y.st.h.n,.int .i64 y.st.mn,.int .i64 y.st.mx,.int .i64 y.st.mt,.bool y.st.mr.a,.bool y.st.mr.p,.int .i64 y.st.mr.n,.int .i64 y.st.mb,.bool y.st.ml.a,.bool y.st.ml.p,.int .i64 y.st.ml.n,.int .i64 y.st.bo,.int .i64 y.st.pa,.int .i64 y.st.wh,.int .i64 y.st.al,.int .i64 y.st.lh,.int .i64 y.st.ri,.int .i64 y.st.dn]) rfl rfl (by kernel_rfl) rfl (by kernel_rfl) ?_;intro W bel l0 hsz;refine stay ?_)
  | fail)
 unfold Stay
 have cu:W.cell? ⟨w.heap.size,0,none⟩ = some (.int .i64 ((u:Int))):=(lies_cell l0 0).trans (by rw [hyu];rfl)
 have RS:Hid (W.rangeAt w.heap.size 2 (stCells y.st).toList):=fun j v hj=>(lies_cell l0 (2 + j)).trans (by rw [← hj,show (stCells y.st).toList = (#[.int .i64 y.up,.string y.tx,.int .i64 y.st.sh,.int .i64 y.st.fl,.int .i64 y.st.cl,.bool y.st.w.a,.bool y.st.w.p,.int .i64 y.st.w.n,.bool y.st.h.a,.bool y.st.h.p,.int .i64 y.st.h.n,.int .i64 y.st.mn,.int .i64 y.st.mx,.int .i64 y.st.mt,.bool y.st.mr.a,.bool y.st.mr.p,.int .i64 y.st.mr.n,.int .i64 y.st.mb,.bool y.st.ml.a,.bool y.st.ml.p,.int .i64 y.st.ml.n,.int .i64 y.st.bo,.int .i64 y.st.pa,.int .i64 y.st.wh,.int .i64 y.st.al,.int .i64 y.st.lh,.int .i64 y.st.ri,.int .i64 y.st.dn]:Array Value).toList.drop 2 from rfl,List.getElem?_drop];simp)
 have cp2:W.cell? ⟨p,2,none⟩ = some (.slice (some ⟨gi,0,none⟩) i ci):=(bel.cell (p:=⟨p,2,none⟩) lp).trans c2w
 have cgi:W.cell? ⟨gi,u,none⟩ = some (.int .i64 ar):=(bel.cell (p:=⟨gi,u,none⟩) lgi).trans qi
 have HL0:Hid (W.heap[w.heap.size]? = some (.cells (#[.int .i64 y.up,.string y.tx,.int .i64 y.st.sh,.int .i64 y.st.fl,.int .i64 y.st.cl,.bool y.st.w.a,.bool y.st.w.p,.int .i64 y.st.w.n,.bool y.st.h.a,.bool y.st.h.p,.int .i64 y.st.h.n,.int .i64 y.st.mn,.int .i64 y.st.mx,.int .i64 y.st.mt,.bool y.st.mr.a,.bool y.st.mr.p,.int .i64 y.st.mr.n,.int .i64 y.st.mb,.bool y.st.ml.a,.bool y.st.ml.p,.int .i64 y.st.ml.n,.int .i64 y.st.bo,.int .i64 y.st.pa,.int .i64 y.st.wh,.int .i64 y.st.al,.int .i64 y.st.lh,.int .i64 y.st.ri,.int .i64 y.st.dn]) 75 (0,0))):=l0
 clear l0 qi c2w hr c0
 go_wp2_with fail
 go_quiet (fail)
 go_wp2_with (first
  | (with_reducible show wpList _ _ _ (⟨some 28,Op.load 73 _,_,_,_,_⟩ :: _) _ _;refine wpList_load_mid rfl 73 _ rfl w.heap.size 2 rfl (stCells y.st).toList _ (range_drewN RS.out) Tryz.underlying73 rfl (by kernel_rfl) ?_)
  | fail)
 refine (BK _).mono ?_
 rintro e w2 ⟨rfl,hb⟩
 have hbW:Below W.heap.size W w2:=⟨hb.os,hb.tape,hb.output,hb.size,hb.block⟩
 have b2:Below w.heap.size w w2:=bel.trans (hbW.mono bel.size)
 have G2:=HG.out.keep b2
 have l2:Hid (w2.heap[w.heap.size]? = some (.cells (#[.int .i64 y.up,.string y.tx,.int .i64 y.st.sh,.int .i64 y.st.fl,.int .i64 y.st.cl,.bool y.st.w.a,.bool y.st.w.p,.int .i64 y.st.w.n,.bool y.st.h.a,.bool y.st.h.p,.int .i64 y.st.h.n,.int .i64 y.st.mn,.int .i64 y.st.mx,.int .i64 y.st.mt,.bool y.st.mr.a,.bool y.st.mr.p,.int .i64 y.st.mr.n,.int .i64 y.st.mb,.bool y.st.ml.a,.bool y.st.ml.p,.int .i64 y.st.ml.n,.int .i64 y.st.bo,.int .i64 y.st.pa,.int .i64 y.st.wh,.int .i64 y.st.al,.int .i64 y.st.lh,.int .i64 y.st.ri,.int .i64 y.st.dn]) 75 (0,0))):=below_lies hbW HL0.out (by omega)
 have B2:Below B w w2:=b2.mono hBs
 have s0:w2.cell? ⟨w.heap.size,2,none⟩ = some (.int .i64 y.st.sh):=(lies_cell l2.out 2).trans rfl
 have s1:w2.cell? ⟨w.heap.size,1,none⟩ = some (.string y.tx):=(lies_cell l2.out 1).trans rfl
 have c2:w2.cell? ⟨p,2,none⟩ = some (.slice (some ⟨gi,0,none⟩) i ci):=(lies_cell G2.lies 2).trans rfl
 have f2:w2.frozen? ⟨p,2,none⟩ = false:=Lib.frozen_of_heap G2.lies 2
 have lw:w.heap.size < w2.heap.size:=lies_lt l2.out
 clear hb hbW HL0 RS cu cp2 cgi bel HG BK b2
 have hi0:(0:Int) < (i:Int):=by omega
 have hb1:(ar == -1) = false:=by simpa using ha
 have hb2:(y.st.sh == 3) = false:=by simpa using h3
 have rb:=range_box l2.out
 go_wp2_with (first
  | (with_reducible show wpList _ _ _ (⟨some 53,Op.load 75 _,_,_,_,_⟩ :: _) _ _;refine wpList_load_mid rfl 75 _ rfl w.heap.size 0 rfl (ndL y) _ rb Tryz.underlying75 rfl (by kernel_rfl) ?_)
  | fail)
 refine (TX _).mono ?_
 rintro e w5 ⟨rfl,hb5⟩
 have G5:=G2.keep hb5
 have B5:Below B w w5:=B2.trans (hb5.mono (Nat.le_trans hBs B2.size))
 have s5:w5.cell? ⟨w.heap.size,1,none⟩ = some (.string y.tx):=(hb5.cell (p:=⟨w.heap.size,1,none⟩) lw).trans s1
 have c5:w5.cell? ⟨p,2,none⟩ = some (.slice (some ⟨gi,0,none⟩) i ci):=(lies_cell G5.lies 2).trans rfl
 have f5:w5.frozen? ⟨p,2,none⟩ = false:=Lib.frozen_of_heap G5.lies 2
 have lw5:w.heap.size < w5.heap.size:=Nat.lt_of_lt_of_le lw hb5.size
 clear rb hb5 l2 s0 s1 c2 f2 G2 B2 TX lw
 have o5:w5.ownsRow B 3 1 (.slice (some ⟨gi,0,none⟩) i ci) i (S.inn.map (Value.int .i64)):=by have h:=G5.oi;rw [hin'] at h;exact h
 clear s5 c5 f5
 go_wp2_with fail
 refine (endText_any B p i b off n cap ns S vb (.slice (some ⟨gi,0,none⟩) i ci) vt _ G5 hok.w (Nat.le_of_lt hi) (hnd.below B5) hwh).mono ?_
 rintro e w7 ⟨rfl,⟨vb',vt',G7⟩,B7⟩
 have hm40:(endB ns S).length ≤ 40:=by have:=(endB_ok hok).2.1;omega
 obtain ⟨ab,cb,hvb⟩:=own_form G7.ob
 have B77:Below B w w7:=B5.trans B7
 have hBw7:B ≤ w7.heap.size:=Nat.le_trans hBs B77.size
 obtain ⟨m,hmm⟩:∃ m,m = (endB ns S).length:=⟨_,rfl⟩
 have hvb2:vb' = .slice ab m cb:=by rw [hmm];exact hvb
 clear hvb
 subst hvb2
 have HMM:Hid (m = (endB ns S).length):=hmm
 rw [← hmm] at hm40
 have o7:w7.ownsRow B 3 1 (.slice (some ⟨gi,0,none⟩) i ci) i (S.inn.map (Value.int .i64)):=by have h:=G7.oi;rw [show ({ S with bs:=endB ns S,tx:=ByteArray.empty }:Ps).inn.length = i from hin'] at h;exact h
 have c1:w7.cell? ⟨p,1,none⟩ = some (.slice ab m cb):=(lies_cell G7.lies 1).trans rfl
 have c2:w7.cell? ⟨p,2,none⟩ = some (.slice (some ⟨gi,0,none⟩) i ci):=(lies_cell G7.lies 2).trans rfl
 have HG7:Hid (Bg w7 B p (.slice (some ⟨b,off,none⟩) n cap) { S with bs:=endB ns S,tx:=ByteArray.empty } (.slice ab m cb) (.slice (some ⟨gi,0,none⟩) i ci) vt'):=G7
 have HB7:Hid (Below B w w7):=B77
 have HOW:Hid (∀ W:World,W.heap = (w7.alloc (.cells #[.int .i64 (m:Int)] 3)).heap → W.ownsRow B 3 1 (.slice (some ⟨gi,0,none⟩) i ci) i (S.inn.map (Value.int .i64))):=by
  show ∀ W:World,_
  intro W hW
  have h:=o7.alloc (.cells #[.int .i64 (m:Int)] 3)
  unfold World.ownsRow at h ⊢
  rw [hW]
  exact h
 have HNW:Hid (∀ W:World,W.heap = (w7.alloc (.cells #[.int .i64 (m:Int)] 3)).heap → ∀ j u,[Value.int .i64 (m:Int)][j]? = some u → W.cell? ((⟨w7.heap.size,0,none⟩:Addr).add j) = some u):=by
  show ∀ W:World,_
  intro W hW
  exact World.news_of_block (cs:=#[.int .i64 (m:Int)]) (t:=3) (fr:=(0,0)) (by rw [hW];exact heap_at _ _ _ rfl)
 have l7:Hid (∀ W w8:World,W.grownBy w8 (Value.ownBlock (.slice (some ⟨gi,0,none⟩) i ci)) → W.heap = (w7.alloc (.cells #[.int .i64 (m:Int)] 3)).heap → w8.heap[p]? = some (.cells #[.slice (some ⟨b,off,none⟩) n cap,.slice ab m cb,.slice (some ⟨gi,0,none⟩) i ci,vt',.int .i64 S.ti] 95 (0,0))):=by
  show ∀ W w8:World,_
  intro W w8 hg hW
  have hWp:W.heap[p]? = _:=(congrArg (fun h=>h[p]?) hW).trans (heap_in HG7.out.lies)
  exact (hg.block p (lies_lt hWp) (fun e=>own_ne (HOW.out W hW) hWp (by decide) e.symm)).trans hWp
 have gb7:Hid (∀ W w8:World,∀ v',W.grownBy w8 (Value.ownBlock (.slice (some ⟨gi,0,none⟩) i ci)) → w8.ownsRow B 3 1 v' (i + 1) (S.inn.map (Value.int .i64) ++ [.int .i64 (m:Int)]) → W.heap = (w7.alloc (.cells #[.int .i64 (m:Int)] 3)).heap → W.os = w7.os → W.tape = w7.tape → W.output = w7.output → Bg (w8.setCell ⟨p,2,none⟩ v') B p (.slice (some ⟨b,off,none⟩) n cap) { S with bs:=endB ns S,inn:=S.inn ++ [(m:Int)],tx:=ByteArray.empty } (.slice ab m cb) v' vt' ∧ Below B w (w8.setCell ⟨p,2,none⟩ v')):=by
  show ∀ W w8:World,_
  intro W w8 v' hg hown hW ho ht hp
  have bW:Below w7.heap.size w7 W:=⟨ho,ht,hp,by rw [hW];simp,fun k hk=>by rw [hW];exact heap_alloc_old w7 _ hk⟩
  have GW:=HG7.out.keep bW
  refine ⟨GW.putI (l:=S.inn ++ [(m:Int)]) hg (snocI hin'.symm hown),?_⟩
  exact ((HB7.out.trans (bW.mono hBw7)).grown hg (Nat.le_trans hBw7 bW.size) (fun k hk=>((HOW.out W hW).lt k hk).1)).setCell (p:=⟨p,2,none⟩) GW.hp _
 have lp7:p < w7.heap.size:=lies_lt HG7.out.lies
 clear G7 B7 G5 B5 B77 o5 o7 hmm
 go_wp2_with fail
 go_region_law (refine step_append_lies _ (by rfl) _ _ _ (by rfl) B 3 i0 _ 1 8 Tryz.underlying69 hinf hz0 hz1 hz2 rfl (by omega) (.slice (some ⟨gi,0,none⟩) i ci) i (S.inn.map (Value.int .i64)) (by rfl) (HOW.out _ rfl) ⟨w7.heap.size,0,none⟩ 1 1 [.int .i64 (m:Int)] (by rfl) (by rfl) (HNW.out _ rfl) (one_i64 _) (by omega) (by unfold maxLen;omega) (by omega) (by simp;omega) _ rfl ?_;intro g9 cap9 w8 hown8 hgrow8 hat8 hlt8;have l8:=l7.out _ w8 hgrow8 rfl;have e2:w8.cell? ⟨p,2,none⟩ = some (.slice (some ⟨gi,0,none⟩) i ci):=(lies_cell l8 2).trans rfl;have f2:w8.frozen? ⟨p,2,none⟩ = false:=Lib.frozen_of_heap l8 2;have GG:=gb7.out _ w8 _ hgrow8 hown8 rfl rfl rfl rfl)
 all_goals
  obtain ⟨G8,B8⟩:=GG
  clear l8 e2 f2 hown8 hgrow8 hat8 hlt8 HOW HNW l7 gb7 c1 c2 HG7 HB7
  generalize World.setCell w8 _ _ = w9 at G8 B8 ⊢
  have c1:w9.cell? ⟨p,1,none⟩ = some (.slice ab m cb):=(lies_cell G8.lies 1).trans rfl
  have o9:w9.ownsRow B 41 4 (.slice ab m cb) m (flatB (endB ns S)):=by have h:=G8.ob;rw [show ({ S with bs:=endB ns S,inn:=S.inn ++ [(m:Int)],tx:=ByteArray.empty }:Ps).bs.length = m from HMM.out.symm] at h;exact h
  have hB9:B ≤ w9.heap.size:=Nat.le_trans hBs B8.size
  have HG9:Hid (Bg w9 B p (.slice (some ⟨b,off,none⟩) n cap) { S with bs:=endB ns S,inn:=S.inn ++ [(m:Int)],tx:=ByteArray.empty } (.slice ab m cb) _ vt'):=G8
  have HB9:Hid (Below B w w9):=B8
  clear G8 B8
  go_wp2_with (at_builtin;refine wpList_append_own_at _ rfl (.tmp 102) (.tmp 107) 24 rfl B 41 inf _ 4 40 Tryz.underlying24 hif hx0 hx1 hx2 rfl (by decide) _ _ _ rfl (o9.alloc _) ⟨w9.heap.size,0,none⟩ 1 1 [.int .i64 kd,.int .i64 (i:Int),.int .i64 ar,.string ByteArray.empty] rfl rfl (World.news_of_block (cs:=#[.int .i64 kd,.int .i64 (i:Int),.int .i64 ar,.string ByteArray.empty]) (heap_at _ _ _ rfl)) (one4 _ _ _ _) (by unfold maxLen;omega) (by omega) (by simp;omega) ?_)
  intro v' w10 hown10 hgrow10 _ _
  obtain ⟨a10,k10,rfl⟩:=own_form hown10
  have GA:=HG9.out.keep ((Below.refl _ _).alloc (Nat.le_refl _) (.cells #[.int .i64 kd,.int .i64 (i:Int),.int .i64 ar,.string ByteArray.empty] 41))
  have l10:w10.heap[p]? = _:=(hgrow10.block p (lies_lt GA.lies) (fun e=>own_ne GA.ob GA.lies (by decide) e.symm)).trans GA.lies
  have d1:w10.cell? ⟨p,1,none⟩ = some (.slice ab m cb):=(lies_cell l10 1).trans rfl
  have g1:w10.frozen? ⟨p,1,none⟩ = false:=Lib.frozen_of_heap l10 1
  have R:=GA.putB (bs':=endB ns S ++ [⟨kd,(i:Int),ar,ByteArray.empty⟩]) hgrow10 (by rw [flatB_snoc,List.length_append,← HMM.out];exact hown10)
  have RB:=((HB9.out.alloc hB9 _).grown hgrow10 (by simp;omega) (fun k hk=>(GA.ob.lt k hk).1)).setCell (p:=⟨p,1,none⟩) GA.hp (.slice a10 (m + 1) k10)
  have HR:Hid (_ ∧ _):=And.intro R RB
  clear R RB GA l10 hown10 hgrow10 o9 HG9 HB9 c1
  go_wp2
  go_ret
  refine ⟨rfl,?_,HR.out.2⟩
  rw [← HMM.out]
  exact ⟨_,_,_,HR.out.1.okp (endO S)⟩
end Go.Proofs.YtjnmloaopnbpgaaGreatDoor
