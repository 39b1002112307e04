/-
 Contract of MovePage of the program.
-/
import Derived.Test.YtjnmloaopnbpgaaGreatDoorMg25
namespace Go.Proofs.YtjnmloaopnbpgaaGreatDoor
open Go.ChangeShapes Go.WideShapes Go.ChangeAt Go.RowKit
set_option linter.unusedVariables false
theorem infoPlc9:(Tryz.prog.info? 35).map (fun i=>(i.zero,i.size,i.bytes)) = some (some (.agg #[.int .i64 0,.int .i64 0,.int .i64 0,.int .i64 0]),4,32):=by kernel_rfl
set_option maxRecDepth 1000000 in
set_option maxHeartbeats 6000000 in
theorem implMove_any (ndb noff n ncap:Nat) (ns:List Nd) (P:Pg) (w:World) (hn:n = ns.length) (hr:∀ i y,ns[i]? = some y → w.rangeAt ndb (noff + i * 28) (ndL y)) (hl:n ≤ 1048576) (hs:∀ x ∈ ns,x.tx.size ≤ 1048576)
  (hok:boxB ns = true → BsOk n (boxR ns)) (hP:PgRow w P) (h80:P.bs.length ≤ 80) (hnp:P.ps.length ≤ 80) (hnl:P.ls.length ≤ 400) (hnf:P.fs.length ≤ 1000) (htx:∀ x ∈ P.ls,x.tx.size ≤ 200)
  (et:TypeId) (ev:Value) (he:w.cell? ⟨0,0,none⟩ = some (.iface et ev)) :
  Calls Tryz.prog 5 #[.slice (some ⟨ndb,noff,none⟩) n ncap,.agg (pgA' P)] w fun e w'=>MovRet w ns P e w':=by
 obtain ⟨ba,bc,bs,pa,pc,ps,la,lc,ls,fa,fc,fs,hi⟩:=P
 have HP:Hid (PgRow w ⟨ba,bc,bs,pa,pc,ps,la,lc,ls,fa,fc,fs,hi⟩):=hP
 obtain ⟨nb,hnb⟩:∃ k,k = bs.length:=⟨_,rfl⟩
 obtain ⟨np,hnpe⟩:∃ k,k = ps.length:=⟨_,rfl⟩
 obtain ⟨nl,hnle⟩:∃ k,k = ls.length:=⟨_,rfl⟩
 obtain ⟨nf,hnfe⟩:∃ k,k = fs.length:=⟨_,rfl⟩
 have hnb80:nb ≤ 80:=by rw [hnb];exact h80
 have hnp80:np ≤ 80:=by rw [hnpe];exact hnp
 have hnl400:nl ≤ 400:=by rw [hnle];exact hnl
 have hnf1:nf ≤ 1000:=by rw [hnfe];exact hnf
 have H1:Hid (nb = bs.length):=hnb
 have H2:Hid (np = ps.length):=hnpe
 have H3:Hid (nl = ls.length):=hnle
 have H4:Hid (nf = fs.length):=hnfe
 have HN:Hid (n = ns.length):=hn
 have HR:Hid (∀ i y,ns[i]? = some y → w.rangeAt ndb (noff + i * 28) (ndL y)):=hr
 have HOK:Hid (boxB ns = true → BsOk n (boxR ns)):=hok
 have HTX:Hid (∀ x ∈ ls,x.tx.size ≤ 200):=htx
 have eP:pgA' ⟨ba,bc,bs,pa,pc,ps,la,lc,ls,fa,fc,fs,hi⟩ = (#[.slice ba nb bc,.slice pa np pc,.slice la nl lc,.slice fa nf fc,.int .i64 hi]:Array Value):=by unfold pgA';simp only [← hnb,← hnpe,← hnle,← hnfe]
 rw [eP]
 obtain ⟨W0,hW0⟩:∃ W,W = (w.alloc (.cells #[.slice ba nb bc,.slice pa np pc,.slice la nl lc,.slice fa nf fc,.int .i64 hi] 29)).alloc (.cells #[.slice none 0 0,.slice none 0 0,.slice none 0 0,.slice none 0 0,.int .i64 0] 29):=⟨_,rfl⟩
 have b0:Below w.heap.size w W0:=by rw [hW0];exact ((Below.refl _ _).alloc (Nat.le_refl _) _).alloc (by simp) _
 have lG0:W0.heap[w.heap.size]? = some (.cells #[.slice ba nb bc,.slice pa np pc,.slice la nl lc,.slice fa nf fc,.int .i64 hi] 29 (0,0)):=by rw [hW0];exact heap_in (heap_at _ _ _ rfl)
 have lR0:W0.heap[w.heap.size + 1]? = some (.cells #[.slice none 0 0,.slice none 0 0,.slice none 0 0,.slice none 0 0,.int .i64 0] 29 (0,0)):=by rw [hW0];exact heap_at _ _ _ (by simp)
 have hW0s:w.heap.size + 2 ≤ W0.heap.size:=by rw [hW0];simp
 have IB:=implBoxes_any (some ⟨ndb,noff,none⟩) ncap ns W0 (.inr ⟨ndb,noff,rfl,fun i y hy=>range_below (hr i y hy) b0 (range_lt (hr i y hy))⟩) (by rw [← hn];exact hl) hs et ev ((b0.cell (World.block_lt_of_cell? _ _ he)).trans he)
 rw [← hn] at IB
 clear hn hr hok htx hP h80 hnp hnl hnf hs he hnb hnpe hnle hnfe eP
 go_enter Tryz.func5,Tryz.ntmps5
 go_wp2_with fail
 rw [← hW0]
 clear hW0
 refine IB.mono ?_
 rintro e w1 ⟨v,rfl,hox,hb1⟩
 have b1:=b0.trans (hb1.mono b0.size)
 have lG1:=below_lies hb1 lG0 (lies_lt lG0)
 have lR1:=below_lies hb1 lR0 (lies_lt lR0)
 clear IB lG0 lR0
 rcases Bool.eq_false_or_eq_true (boxB ns) with hB | hB
 rotate_left
 ·rw [hB]
  have HF:Hid (mvB ns ⟨ba,bc,bs,pa,pc,ps,la,lc,ls,fa,fc,fs,hi⟩ = false):=mvB_no1 (by show gbB ns bs = false;unfold gbB;rw [hB];rfl)
  obtain ⟨ax,cx,hv,-⟩:=hox.row
  subst hv
  generalize (boxR ns).length = nx
  clear hox hb1 b0
  go_wp2_with (first | ((with_reducible show wpList _ _ _ (⟨none,Op.store 29 (Operand.tmp 4) _,_,_,_,_⟩ :: _) _ _);refine wpList_putA rfl _ _ _ rfl rfl (w.heap.size + 1) 0 5 (#[.slice none 0 0,.slice none 0 0,.slice none 0 0,.slice none 0 0,.int .i64 0]:Array Value).toList _ _ rfl rfl lR1 rfl (by kernel_rfl) (by kernel_rfl) (by kernel_rfl) ?_;intro W9 p9 l9 n9;refine stayM ?_) | fail)
  have lZ:W9.heap[w.heap.size + 1]? = some (.cells #[.slice none 0 0,.slice none 0 0,.slice none 0 0,.slice none 0 0,.int .i64 0] 29 (0,0)):=l9.trans (congrArg (fun c=>some (Obj.cells c 29 (0,0))) (show _ = (#[.slice none 0 0,.slice none 0 0,.slice none 0 0,.slice none 0 0,.int .i64 0]:Array Value) by kernel_rfl))
  have b9:=p9.below b1 (Nat.le_succ _)
  unfold StayM
  clear l9 p9 n9
  go_wp2
  exact bodyPost_ret (v:=.tuple #[.agg #[.slice none 0 0,.slice none 0 0,.slice none 0 0,.slice none 0 0,.int .i64 0],.bool false]) (results_row_tmp Tryz.results5 _ _ (w.heap.size + 1) _ _ _ _ (.bool false) rfl lZ Tryz.underlying29 rfl (by kernel_rfl) rfl) rfl (movRet_no HF.out b9)
 rcases Bool.eq_false_or_eq_true (sameX (boxR ns) bs) with hS | hS
 rotate_left
 ·rw [hB]
  have HF:Hid (mvB ns ⟨ba,bc,bs,pa,pc,ps,la,lc,ls,fa,fc,fs,hi⟩ = false):=mvB_no1 (by show gbB ns bs = false;unfold gbB;rw [hB,hS];rfl)
  obtain ⟨ax,cx,hv,hrx⟩:=hox.row
  subst hv
  have SE:=slEq_any ax ba cx bc (boxR ns) bs w1 hrx (HP.out.rb.below b1) (by have:=boxR_len ns;omega) (by have:=H1.out;omega)
  rw [hS,← H1.out] at SE
  have c0:w1.cell? ⟨w.heap.size,0,none⟩ = some (.slice ba nb bc):=(lies_cell lG1 0).trans rfl
  generalize (boxR ns).length = nx at SE ⊢
  clear hox hb1 b0 hrx
  go_wp2_with fail
  refine SE.mono ?_
  rintro e w2 ⟨rfl,hb2⟩
  have lR2:=below_lies hb2 lR1 (lies_lt lR1)
  have b2:=b1.trans (hb2.mono b1.size)
  clear SE hb2 lG1 lR1 c0
  go_wp2_with (first | ((with_reducible show wpList _ _ _ (⟨none,Op.store 29 (Operand.tmp 4) _,_,_,_,_⟩ :: _) _ _);refine wpList_putA rfl _ _ _ rfl rfl (w.heap.size + 1) 0 5 (#[.slice none 0 0,.slice none 0 0,.slice none 0 0,.slice none 0 0,.int .i64 0]:Array Value).toList _ _ rfl rfl lR2 rfl (by kernel_rfl) (by kernel_rfl) (by kernel_rfl) ?_;intro W9 p9 l9 n9;refine stayM ?_) | fail)
  have lZ:W9.heap[w.heap.size + 1]? = some (.cells #[.slice none 0 0,.slice none 0 0,.slice none 0 0,.slice none 0 0,.int .i64 0] 29 (0,0)):=l9.trans (congrArg (fun c=>some (Obj.cells c 29 (0,0))) (show _ = (#[.slice none 0 0,.slice none 0 0,.slice none 0 0,.slice none 0 0,.int .i64 0]:Array Value) by kernel_rfl))
  have b9:=p9.below b2 (Nat.le_succ _)
  unfold StayM
  clear l9 p9 n9
  go_wp2
  exact bodyPost_ret (v:=.tuple #[.agg #[.slice none 0 0,.slice none 0 0,.slice none 0 0,.slice none 0 0,.int .i64 0],.bool false]) (results_row_tmp Tryz.results5 _ _ (w.heap.size + 1) _ _ _ _ (.bool false) rfl lZ Tryz.underlying29 rfl (by kernel_rfl) rfl) rfl (movRet_no HF.out b9)
 have hbs:boxR ns = bs:=sameX_eq hS
 have HGB:Hid (gbB ns bs = true):=by show _ = _;unfold gbB;rw [hB,hS];rfl
 have hBO:=HOK.out hB
 rw [hbs] at hox hBO hS
 have HBO:Hid (BsOk n bs):=hBO
 have hpos:0 < nb:=by rw [H1.out];exact hBO.pos
 have hoxr:=hox.row
 rcases (show w1.ownsRow W0.heap.size 41 4 v bs.length (flatB bs) from hox).2 with ⟨hv,h0⟩ | ⟨gb,xcap,cur,hv,hbg,hgb,hrest⟩
 ·have:=H1.out;omega
 rw [← H1.out] at hv
 obtain ⟨ax,cx,hv2,hrx⟩:=hoxr
 rw [hv,← H1.out] at hv2
 injection hv2 with hax _ hcx
 subst hax
 subst hcx
 have hgw:W0.heap.size ≤ gb:=hbg
 have HBX:Hid (∀ W:World,W.heap[gb]? = some (.cells cur 41 (0,0)) → ∀ i x,bs[i]? = some x → W.rangeAt gb (0 + i * 4) (bxL x)):=fun W hW i x hx=>by
  rcases hrx with h0 | ⟨b',off',e',hc'⟩
  ·rw [h0] at hx;cases hx
  ·injection e' with e'
   injection e' with e1 e2 _
   subst e1 e2
   exact fun j v hv=>(World.cell?_of_block (a:=⟨gb,0 + i * 4 + j,none⟩) (hW.trans hgb.symm)).trans (hc' i x hx j v hv)
 have SE:=slEq_any (some ⟨gb,0,none⟩) ba xcap bc bs bs w1 (.inr ⟨gb,0,rfl,HBX.out w1 hgb⟩) (HP.out.rb.below b1) (by have:=H1.out;omega) (by have:=H1.out;omega)
 rw [hS,← H1.out] at SE
 have c0:w1.cell? ⟨w.heap.size,0,none⟩ = some (.slice ba nb bc):=(lies_cell lG1 0).trans rfl
 have c1:w1.cell? ⟨w.heap.size,1,none⟩ = some (.slice pa np pc):=(lies_cell lG1 1).trans rfl
 rw [hB,hv]
 clear hox hrest hbg hb1 hrx hBO hv
 go_wp2_with fail
 refine SE.mono ?_
 rintro e w2 ⟨rfl,hb2⟩
 have lG2:=below_lies hb2 lG1 (lies_lt lG1)
 have lR2:=below_lies hb2 lR1 (lies_lt lR1)
 have lB2:=below_lies hb2 hgb (lies_lt hgb)
 have b2:=b1.trans (hb2.mono b1.size)
 have c1':w2.cell? ⟨w.heap.size,1,none⟩ = some (.slice pa np pc):=(lies_cell lG2 1).trans rfl
 clear SE hb2 lG1 lR1 c0 c1 hgb b1
 by_cases hnn:np = nb
 rotate_left
 ·have HF:Hid (mvB ns ⟨ba,bc,bs,pa,pc,ps,la,lc,ls,fa,fc,fs,hi⟩ = false):=mvB_no2 (by show ¬ ps.length = bs.length;rw [← H1.out,← H2.out];exact hnn)
  have hnn':¬ ((np:Int) = (nb:Int)):=by omega
  go_wp2_with (first | ((with_reducible show wpList _ _ _ (⟨none,Op.store 29 (Operand.tmp 4) _,_,_,_,_⟩ :: _) _ _);refine wpList_putA rfl _ _ _ rfl rfl (w.heap.size + 1) 0 5 (#[.slice none 0 0,.slice none 0 0,.slice none 0 0,.slice none 0 0,.int .i64 0]:Array Value).toList _ _ rfl rfl lR2 rfl (by kernel_rfl) (by kernel_rfl) (by kernel_rfl) ?_;intro W9 p9 l9 n9;refine stayM ?_) | fail)
  have lZ:W9.heap[w.heap.size + 1]? = some (.cells #[.slice none 0 0,.slice none 0 0,.slice none 0 0,.slice none 0 0,.int .i64 0] 29 (0,0)):=l9.trans (congrArg (fun c=>some (Obj.cells c 29 (0,0))) (show _ = (#[.slice none 0 0,.slice none 0 0,.slice none 0 0,.slice none 0 0,.int .i64 0]:Array Value) by kernel_rfl))
  have b9:=p9.below b2 (Nat.le_succ _)
  unfold StayM
  clear l9 p9 n9
  go_wp2
  exact bodyPost_ret (v:=.tuple #[.agg #[.slice none 0 0,.slice none 0 0,.slice none 0 0,.slice none 0 0,.int .i64 0],.bool false]) (results_row_tmp Tryz.results5 _ _ (w.heap.size + 1) _ _ _ _ (.bool false) rfl lZ Tryz.underlying29 rfl (by kernel_rfl) rfl) rfl (movRet_no HF.out b9)
 subst hnn
 have SO:=stepsOf_any ndb noff n ncap gb 0 np xcap ns bs w2 HN.out H1.out HBO.out hl (HBX.out w2 lB2) (fun i y hy=>range_below (HR.out i y hy) b2 (range_lt (HR.out i y hy)))
 go_wp2_with fail
 refine SO.mono ?_
 rintro e w3 ⟨gs,L,rfl,hgs,hSI,hb3⟩
 have lG3:=below_lies hb3 lG2 (lies_lt lG2)
 have lR3:=below_lies hb3 lR2 (lies_lt lR2)
 have lB3:=below_lies hb3 lB2 (lies_lt lB2)
 have b3:=b2.trans (hb3.mono b2.size)
 have HST:Hid (L.length = np * 2 ∧ StAt (fun s=>s.ri) ns bs 2 0 np L ∧ StAt (fun s=>s.dn) ns bs 2 1 np L):=⟨hSI.len,hSI.ri,hSI.dn⟩
 have lS3:=hSI.lies
 have k3:w3.cell? ⟨w.heap.size,3,none⟩ = some (.slice fa nf fc):=(lies_cell lG3 3).trans rfl
 have k4:w3.cell? ⟨w.heap.size,4,none⟩ = some (.int .i64 hi):=(lies_cell lG3 4).trans rfl
 have lgp:w.heap.size < w3.heap.size:=lies_lt lG3
 have hbz:=b3.size
 have hgsz:w.heap.size + 1 < gs:=by have:=lies_lt lR2;omega
 have hgbz:w.heap.size + 1 < gb:=by omega
 have CA:Hid (∀ W:World,Below w3.heap.size w3 W → Calls Tryz.prog 15 #[.slice fa nf fc] W fun e w'=>RetV e ∧ Below W.heap.size W w'):=fun W hW=>cloneA_any fa nf fc fs W H4.out ((HP.out.rf.below b3).below hW) hnf1
 clear SO hb3 lG2 lR2 lB2 hSI hgs c1' b2
 have HM3:Hid (MvAt w w3 gs gb (.cells (numsV L).toArray 64 (0,0)) (.cells cur 41 (0,0)) ⟨ba,bc,bs,pa,pc,ps,la,lc,ls,fa,fc,fs,hi⟩):=⟨lG3.trans (by unfold pgA';simp only [← H1.out,← H2.out,← H3.out,← H4.out]),lR3,lS3,lB3,b3⟩
 clear lG3 lR3 lB3 lS3 b3
 go_upto_region 5 with fail
 go_cut [9] from 40 to 46 (fun p wx=>∃ (gm:Nat) (a4:Option Addr) (n4 c4:Nat),p = .pointer (some ⟨gm,0,none⟩) ∧ wx.heap[gm]? = some (.cells #[.slice (some ⟨gb,0,none⟩) np xcap,.slice none 0 0,.slice none 0 0,.slice a4 n4 c4,.int .i64 hi] 29 (0,0)) ∧ w3.heap.size ≤ gm ∧ Below w3.heap.size w3 wx)
 case first =>
  refine wp_region_held_drew (S:=fun W=>Below w3.heap.size w3 W) (by kernel_rfl) ((Below.refl _ _).drew) (fun hHeld=>?_)
  refine wpAnyH_take (i:=0) (oi:=⟨some 40,Op.move (.tmp 6),24,"l9_page.go:83",#[],none⟩) (v:=.slice (some ⟨gb,0,none⟩) np xcap) rfl (by kernel_rfl) (by kernel_rfl) (by kernel_rfl) (fun _ _ _ h=>h) (Or.inl ⟨by rfl,by intro wz hSw;go_simp⟩) hHeld ?_
  simp only [Act.put,List.setIfInBounds_toArray,List.set_cons_zero,List.set_cons_succ]
  refine wpAnyH_take (i:=1) (oi:=⟨some 41,Op.fieldAddr 29 (.tmp 3) 3,0,"l9_page.go:83",#[],none⟩) (v:=.pointer (some ⟨w.heap.size,3,none⟩)) rfl (by kernel_rfl) (by kernel_rfl) (by kernel_rfl) (fun _ _ _ h=>h) (Or.inl ⟨by rfl,by intro wz hSw;go_simp⟩) hHeld ?_
  simp only [Act.put,List.setIfInBounds_toArray,List.set_cons_zero,List.set_cons_succ]
  refine wpAnyH_take (i:=2) (oi:=⟨some 42,Op.load 27 (.tmp 41),27,"l9_page.go:83",#[⟨1,.data⟩],none⟩) (v:=.slice fa nf fc) rfl (by kernel_rfl) (by kernel_rfl) (by kernel_rfl) (fun _ _ _ h=>h) (Or.inl ⟨by rfl,by intro wz hSw;have hq:wz.cell? ⟨w.heap.size,3,none⟩ = some (.slice fa nf fc):=(hSw.cell (p:=⟨w.heap.size,3,none⟩) (lgp)).trans k3;clear hSw;go_simp⟩) hHeld ?_
  simp only [Act.put,List.setIfInBounds_toArray,List.set_cons_zero,List.set_cons_succ]
  refine wpAnyH_take (i:=4) (oi:=⟨some 44,Op.fieldAddr 29 (.tmp 3) 4,0,"l9_page.go:83",#[],none⟩) (v:=.pointer (some ⟨w.heap.size,4,none⟩)) rfl (by kernel_rfl) (by kernel_rfl) (by kernel_rfl) (fun _ _ _ h=>h) (Or.inl ⟨by rfl,by intro wz hSw;go_simp⟩) hHeld ?_
  simp only [Act.put,List.setIfInBounds_toArray,List.set_cons_zero,List.set_cons_succ]
  refine wpAnyH_take (i:=5) (oi:=⟨some 45,Op.load 3 (.tmp 44),3,"l9_page.go:83",#[⟨4,.data⟩],none⟩) (v:=.int .i64 hi) rfl (by kernel_rfl) (by kernel_rfl) (by kernel_rfl) (fun _ _ _ h=>h) (Or.inl ⟨by rfl,by intro wz hSw;have hq:wz.cell? ⟨w.heap.size,4,none⟩ = some (.int .i64 hi):=(hSw.cell (p:=⟨w.heap.size,4,none⟩) (lgp)).trans k4;clear hSw;go_simp⟩) hHeld ?_
  simp only [Act.put,List.setIfInBounds_toArray,List.set_cons_zero,List.set_cons_succ]
  refine wpAnyH_ready (rs:=[3,7]) (by kernel_rfl) (by simp) ?_
  refine AllReadyH.cons (o:=⟨some 43,Op.call { callee:=Callee.value (Operand.func 15),args:=#[.tmp 42],argTypes:=#[27] },27,"l9_page.go:83",#[⟨2,.data⟩],none⟩) rfl (fun K hK=>?_) (AllReadyH.cons (o:=⟨some 9,Op.alloc 29,0,"l9_page.go:83",#[],none⟩) rfl (fun K hK=>?_) AllReadyH.nil)
  ·go_simp
   refine (CA.out _ (hHeld)).mono ?_
   rintro e v1 ⟨⟨a41,n41,c41,rfl⟩,hb1⟩
   go_wp2_with fail
   refine hK.out _ _ (hHeld.trans (hb1.mono hHeld.size)) (fun hH1=>?_)
   clear hK K
   try simp only [Act.put,List.setIfInBounds_toArray,List.set_cons_zero,List.set_cons_succ]
   refine wpAnyH_take (i:=6) (oi:=⟨some 46,Op.build 29 #[(0,.tmp 40),(3,.tmp 43),(4,.tmp 45)],29,"l9_page.go:83",#[⟨0,.data⟩,⟨3,.data⟩,⟨5,.data⟩],none⟩) (v:=.agg #[.slice (some ⟨gb,0,none⟩) np xcap,.slice none 0 0,.slice none 0 0,.slice a41 n41 c41,.int .i64 hi]) rfl (by kernel_rfl) (by kernel_rfl) (by kernel_rfl) (fun _ _ _ h=>h) (Or.inl ⟨by rfl,by intro wz hSw;go_simp⟩) hH1 ?_
   simp only [Act.put,List.setIfInBounds_toArray,List.set_cons_zero,List.set_cons_succ]
   refine wpAnyH_ready (rs:=[7]) (by kernel_rfl) (by simp) ?_
   refine AllReadyH.cons (o:=⟨some 9,Op.alloc 29,0,"l9_page.go:83",#[],none⟩) rfl (fun K hK=>?_) AllReadyH.nil
   go_simp
   refine hK.out _ _ (hH1.alloc hH1.size _) (fun hH2=>?_)
   clear hK K
   try simp only [Act.put,List.setIfInBounds_toArray,List.set_cons_zero,List.set_cons_succ]
   have f9:=heap_at (v1) (.cells (#[.slice none 0 0,.slice none 0 0,.slice none 0 0,.slice none 0 0,.int .i64 0]) 29) (v1.heap.size) rfl
   have hg9:w3.heap.size ≤ v1.heap.size:=hH1.size
   refine wpAnyH_ready (rs:=[8]) (by kernel_rfl) (by simp) ?_
   refine AllReadyH.cons (o:=⟨none,Op.store 29 (.tmp 9) (.tmp 46),0,"l9_page.go:83",#[⟨7,.data⟩,⟨6,.data⟩,⟨3,.chain⟩,⟨0,.phase⟩,⟨1,.phase⟩,⟨2,.phase⟩,⟨3,.phase⟩,⟨4,.phase⟩,⟨5,.phase⟩,⟨6,.phase⟩,⟨7,.phase⟩],none⟩) rfl (fun K hK=>?_) AllReadyH.nil
   rw [if_pos (by rfl)]
   refine wp_put9 29 _ _ rfl rfl (v1.heap.size) 0 5 [.slice (some ⟨gb,0,none⟩) np xcap,.slice none 0 0,.slice none 0 0,.slice a41 n41 c41,.int .i64 hi] _ _ rfl rfl f9 rfl (by kernel_rfl) (by kernel_rfl) (by kernel_rfl) ?_
   intro v3 p9 l9
   have f9:=l9.trans (congrArg (fun c=>some (Obj.cells c 29 (0,0))) (show _ = (#[.slice (some ⟨gb,0,none⟩) np xcap,.slice none 0 0,.slice none 0 0,.slice a41 n41 c41,.int .i64 hi]:Array Value) by kernel_rfl))
   refine hK.out _ _ (p9.below hH2 hg9) (fun hH3=>?_)
   clear hK K l9
   try simp only [Act.put,List.setIfInBounds_toArray,List.set_cons_zero,List.set_cons_succ]
   refine wpAnyH_done (by kernel_rfl) ?_ _
   have HF9:=f9
   have HH:=hH3
   have HG9:=hg9
   clear f9
   go_wp2_with fail
   go_meet
   case rel=>exact ⟨_,_,_,_,rfl,HF9,HG9,HH⟩
  ·go_simp
   refine hK.out _ _ (hHeld.alloc hHeld.size _) (fun hH4=>?_)
   clear hK K
   try simp only [Act.put,List.setIfInBounds_toArray,List.set_cons_zero,List.set_cons_succ]
   have f9:=heap_at (w3.drew) (.cells (#[.slice none 0 0,.slice none 0 0,.slice none 0 0,.slice none 0 0,.int .i64 0]) 29) (w3.heap.size) rfl
   have hg9:w3.heap.size ≤ w3.heap.size:=hHeld.size
   refine wpAnyH_ready (rs:=[3]) (by kernel_rfl) (by simp) ?_
   refine AllReadyH.cons (o:=⟨some 43,Op.call { callee:=Callee.value (Operand.func 15),args:=#[.tmp 42],argTypes:=#[27] },27,"l9_page.go:83",#[⟨2,.data⟩],none⟩) rfl (fun K hK=>?_) AllReadyH.nil
   go_simp
   refine (CA.out _ (hH4)).mono ?_
   rintro e v5 ⟨⟨a45,n45,c45,rfl⟩,hb5⟩
   have f9:=below_lies hb5 f9 (lies_lt f9)
   go_wp2_with fail
   refine hK.out _ _ (hH4.trans (hb5.mono hH4.size)) (fun hH5=>?_)
   clear hK K
   try simp only [Act.put,List.setIfInBounds_toArray,List.set_cons_zero,List.set_cons_succ]
   refine wpAnyH_take (i:=6) (oi:=⟨some 46,Op.build 29 #[(0,.tmp 40),(3,.tmp 43),(4,.tmp 45)],29,"l9_page.go:83",#[⟨0,.data⟩,⟨3,.data⟩,⟨5,.data⟩],none⟩) (v:=.agg #[.slice (some ⟨gb,0,none⟩) np xcap,.slice none 0 0,.slice none 0 0,.slice a45 n45 c45,.int .i64 hi]) rfl (by kernel_rfl) (by kernel_rfl) (by kernel_rfl) (fun _ _ _ h=>h) (Or.inl ⟨by rfl,by intro wz hSw;go_simp⟩) hH5 ?_
   simp only [Act.put,List.setIfInBounds_toArray,List.set_cons_zero,List.set_cons_succ]
   refine wpAnyH_ready (rs:=[8]) (by kernel_rfl) (by simp) ?_
   refine AllReadyH.cons (o:=⟨none,Op.store 29 (.tmp 9) (.tmp 46),0,"l9_page.go:83",#[⟨7,.data⟩,⟨6,.data⟩,⟨3,.chain⟩,⟨0,.phase⟩,⟨1,.phase⟩,⟨2,.phase⟩,⟨3,.phase⟩,⟨4,.phase⟩,⟨5,.phase⟩,⟨6,.phase⟩,⟨7,.phase⟩],none⟩) rfl (fun K hK=>?_) AllReadyH.nil
   rw [if_pos (by rfl)]
   refine wp_put9 29 _ _ rfl rfl (w3.heap.size) 0 5 [.slice (some ⟨gb,0,none⟩) np xcap,.slice none 0 0,.slice none 0 0,.slice a45 n45 c45,.int .i64 hi] _ _ rfl rfl f9 rfl (by kernel_rfl) (by kernel_rfl) (by kernel_rfl) ?_
   intro v6 p9 l9
   have f9:=l9.trans (congrArg (fun c=>some (Obj.cells c 29 (0,0))) (show _ = (#[.slice (some ⟨gb,0,none⟩) np xcap,.slice none 0 0,.slice none 0 0,.slice a45 n45 c45,.int .i64 hi]:Array Value) by kernel_rfl))
   refine hK.out _ _ (p9.below hH5 hg9) (fun hH6=>?_)
   clear hK K l9
   try simp only [Act.put,List.setIfInBounds_toArray,List.set_cons_zero,List.set_cons_succ]
   refine wpAnyH_done (by kernel_rfl) ?_ _
   have HF9:=f9
   have HH:=hH6
   have HG9:=hg9
   clear f9
   go_wp2_with fail
   go_meet
   case rel=>exact ⟨_,_,_,_,rfl,HF9,HG9,HH⟩
 case rest =>
  obtain ⟨gm,a4,n4,c4,rfl,lM,hgm,b4⟩:=hcut
  obtain ⟨q0,hq0⟩:∃ q,ps[0]? = some q:=⟨_,List.getElem?_eq_getElem (by rw [← H2.out];exact hpos)⟩
  obtain ⟨pb,poff,hpa,hpc⟩:=pl_some HP.out.rp hq0
  subst hpa
  have HPC:Hid (∀ i q,ps[i]? = some q → w.rangeAt pb (poff + i * 4) (plL q)):=hpc
  have M4:=HM3.out.below b4
  have HM4:Hid (MvAt w wc gs gb (.cells (numsV L).toArray 64 (0,0)) (.cells cur 41 (0,0)) ⟨ba,bc,bs,some ⟨pb,poff,none⟩,pc,ps,la,lc,ls,fa,fc,fs,hi⟩):=M4
  have HLM:Hid (wc.heap[gm]? = some (.cells #[.slice (some ⟨gb,0,none⟩) np xcap,.slice none 0 0,.slice none 0 0,.slice a4 n4 c4,.int .i64 hi] 29 (0,0))):=lM
  have c1:wc.cell? ⟨w.heap.size,1,none⟩ = some (.slice (some ⟨pb,poff,none⟩) np pc):=(lies_cell M4.pg 1).trans (by show some (Value.slice _ ps.length _) = _;rw [← H2.out])
  have hgm1:w.heap.size + 1 < gm:=by have:=lies_lt HM3.out.rs;omega
  have hgms:gm ≠ gs:=by have:=lies_lt HM3.out.st;omega
  have hgmb:gm ≠ gb:=by have:=lies_lt HM3.out.bx;omega
  clear M4 lM b4 hpc hq0 k3 k4 CA
  clear lgp hbz
  go_wp2_with fail
  go_loopw [50] (fun i wr=>∃ (k:Nat) (vq:Value),k ≤ np ∧ i = .int .i64 k ∧ MvAt w wr gs gb (.cells (numsV L).toArray 64 (0,0)) (.cells cur 41 (0,0)) ⟨ba,bc,bs,some ⟨pb,poff,none⟩,pc,ps,la,lc,ls,fa,fc,fs,hi⟩ ∧ wr.heap[gm]? = some (.cells #[.slice (some ⟨gb,0,none⟩) np xcap,vq,.slice none 0 0,.slice a4 n4 c4,.int .i64 hi] 29 (0,0)) ∧ OwnQ wr w.heap.size vq (placesM ns bs ps k)) (fun i _=>np - (intOf i).toNat)
  case atStart=>exact ⟨0,.slice none 0 0,Nat.zero_le _,rfl,HM4.out,HLM.out,ownQ_nil _ _⟩
  case round =>
   obtain ⟨k,vq,hk,rfl,hMA,lM,hoq⟩:=hrel
   obtain ⟨aq,cq,hvq,hcq,hrq,-⟩:=OwnQ.form hoq
   rw [placesM_len] at hvq
   subst hvq
   clear HM4 HLM
   have HOQ:Hid (OwnQ wr w.heap.size (.slice aq k cq) (placesM ns bs ps k)):=hoq
   have HMA:Hid (MvAt w wr gs gb (.cells (numsV L).toArray 64 (0,0)) (.cells cur 41 (0,0)) ⟨ba,bc,bs,some ⟨pb,poff,none⟩,pc,ps,la,lc,ls,fa,fc,fs,hi⟩):=hMA
   have HLM:Hid (wr.heap[gm]? = some (.cells #[.slice (some ⟨gb,0,none⟩) np xcap,.slice aq k cq,.slice none 0 0,.slice a4 n4 c4,.int .i64 hi] 29 (0,0))):=lM
   clear hoq hrq hcq
   by_cases hlt:k < np
   ·have hlt':(k:Int) < (np:Int):=by omega
    obtain ⟨q,hq⟩:∃ q,ps[k]? = some q:=⟨_,List.getElem?_eq_getElem (by rw [← H2.out];exact hlt)⟩
    obtain ⟨x,hx⟩:∃ x,bs[k]? = some x:=⟨_,List.getElem?_eq_getElem (by rw [← H1.out];exact hlt)⟩
    have HQ:Hid (ps[k]? = some q):=hq
    have HX:Hid (bs[k]? = some x):=hx
    have hpb:pb < w.heap.size:=pl_lt (HPC.out k q hq)
    obtain ⟨p0,p1,p2,p3⟩:=pl_cells (pl_below (HPC.out k q hq) hMA.bel hpb)
    obtain ⟨W1,hW1⟩:∃ W,W = wr.alloc (.cells #[.int .i64 q.x,.int .i64 q.y,.int .i64 q.w,.int .i64 q.h] 35):=⟨_,rfl⟩
    have bA:Below wr.heap.size wr W1:=by rw [hW1];exact (Below.refl _ _).alloc (Nat.le_refl _) _
    have M1:=hMA.below bA
    have lM1:=below_lies bA lM (lies_lt lM)
    have lx1:W1.heap[wr.heap.size]? = some (.cells #[.int .i64 q.x,.int .i64 q.y,.int .i64 q.w,.int .i64 q.h] 35 (0,0)):=by rw [hW1];exact heap_at _ _ _ rfl
    have hoq1:OwnQ W1 w.heap.size (.slice aq k cq) (placesM ns bs ps k):=OwnQ.keep HOQ.out bA
    have rx:=HBX.out W1 M1.bx k x hx
    rw [Nat.zero_add] at rx
    obtain ⟨x0,-⟩:=bx_cells rx
    have ry:=HBX.out wr hMA.bx k x hx
    rw [Nat.zero_add] at ry
    have x0':∀ o,(wr.alloc o).cell? ⟨gb,k * 4,none⟩ = some (.int .i64 x.kd):=fun o=>(World.cell?_alloc_lt _ _ _ (lies_lt hMA.bx)).trans (bx_cells ry).1
    have hgmr:gm < wr.heap.size:=lies_lt lM
    have hgsr:gs < wr.heap.size:=lies_lt hMA.st
    have hgbr:gb < wr.heap.size:=lies_lt hMA.bx
    have hwr:=hMA.bel.size
    have HNO:Hid (∀ (W:World),OwnQ W w.heap.size (.slice aq k cq) (placesM ns bs ps k) → wr.heap.size < W.heap.size → W.heap[wr.heap.size]? = W.heap[wr.heap.size]?):=fun _ _ _=>rfl
    have HB1:Hid (Below wr.heap.size wr W1):=bA
    have HM1:Hid (MvAt w W1 gs gb (.cells (numsV L).toArray 64 (0,0)) (.cells cur 41 (0,0)) ⟨ba,bc,bs,some ⟨pb,poff,none⟩,pc,ps,la,lc,ls,fa,fc,fs,hi⟩):=M1
    have HL1:Hid (W1.heap[gm]? = some (.cells #[.slice (some ⟨gb,0,none⟩) np xcap,.slice aq k cq,.slice none 0 0,.slice a4 n4 c4,.int .i64 hi] 29 (0,0))):=lM1
    have HX1:Hid (W1.heap[wr.heap.size]? = some (.cells #[.int .i64 q.x,.int .i64 q.y,.int .i64 q.w,.int .i64 q.h] 35 (0,0))):=lx1
    have HO1:Hid (OwnQ W1 w.heap.size (.slice aq k cq) (placesM ns bs ps k)):=hoq1
    have HOLT:Hid (∀ b,(Value.slice aq k cq).ownBlock = some b → b < wr.heap.size):=fun b hb=>OwnQ.lt HOQ.out b hb
    clear hq hx hMA lM bA M1 lM1 lx1 hoq1 rx ry HNO
    go_upto_if 60 with fail
    rw [← hW1]
    clear hW1 p0 p1 p2 p3 x0'
    go_cut [] from 60 to 66 (fun wx=>∃ q':Plc,wx.heap[wr.heap.size]? = some (.cells #[.int .i64 q'.x,.int .i64 q'.y,.int .i64 q'.w,.int .i64 q'.h] 35 (0,0)) ∧ placesM ns bs ps (k + 1) = placesM ns bs ps k ++ [q'] ∧ Below wr.heap.size wr wx)
    case first =>
     by_cases hkd:x.kd = 2
     ·have RES:Hid (∃ q':Plc,W1.heap[wr.heap.size]? = some (.cells #[.int .i64 q'.x,.int .i64 q'.y,.int .i64 q'.w,.int .i64 q'.h] 35 (0,0)) ∧ placesM ns bs ps (k + 1) = placesM ns bs ps k ++ [q'] ∧ Below wr.heap.size wr W1):=⟨q,HX1.out,placesM_no HX.out HQ.out hkd,HB1.out⟩
      go_wp2_with fail
      go_meet
      case rel=>exact RES.out
     ·have hL2:k * 2 + 1 < L.length:=by have:=HST.out.1;omega
      have s0:W1.cell? ⟨gs,k * 2,none⟩ = some (.int .i64 (L.getD (k * 2) 0)):=ints_cell HM1.out.st (by omega)
      have s1:W1.cell? ⟨gs,k * 2 + 1,none⟩ = some (.int .i64 (L.getD (k * 2 + 1) 0)):=ints_cell HM1.out.st hL2
      have t0:W1.cell? ⟨wr.heap.size,0,none⟩ = some (.int .i64 q.x):=(lies_cell HX1.out 0).trans rfl
      have t1:W1.cell? ⟨wr.heap.size,1,none⟩ = some (.int .i64 q.y):=(lies_cell HX1.out 1).trans rfl
      have t2:W1.cell? ⟨wr.heap.size,2,none⟩ = some (.int .i64 q.w):=(lies_cell HX1.out 2).trans rfl
      have t3:W1.cell? ⟨wr.heap.size,3,none⟩ = some (.int .i64 q.h):=(lies_cell HX1.out 3).trans rfl
      have HR0:Hid ((rightM ns bs).getD k 0 = L.getD (k * 2) 0 ∧ (downM ns bs).getD k 0 = L.getD (k * 2 + 1) 0):=by
       have hkb:k < bs.length:=by rw [← H1.out];exact hlt
       have e1:=HST.out.2.1
       have e2:=HST.out.2.2
       rw [H1.out] at e1 e2
       exact ⟨rightM_at e1 hkb,downM_at e2 hkb⟩
      generalize L.getD (k * 2) 0 = r0 at s0 HR0
      generalize L.getD (k * 2 + 1) 0 = d0 at s1 HR0
      have FIN:Hid (∀ w5:World,Below W1.heap.size W1 w5 → (w5.cell? ⟨wr.heap.size,0,none⟩ = some (.int .i64 q.x) ∧ w5.cell? ⟨wr.heap.size,1,none⟩ = some (.int .i64 q.y) ∧ w5.cell? ⟨wr.heap.size,2,none⟩ = some (.int .i64 q.w) ∧ w5.cell? ⟨wr.heap.size,3,none⟩ = some (.int .i64 q.h) ∧ w5.frozen? ⟨wr.heap.size,0,none⟩ = false ∧ w5.frozen? ⟨wr.heap.size,1,none⟩ = false ∧ w5.frozen? ⟨wr.heap.size,2,none⟩ = false ∧ w5.frozen? ⟨wr.heap.size,3,none⟩ = false) ∧
        Hid (∃ q':Plc,((((w5.setCell ⟨wr.heap.size,0,none⟩ (.int .i64 (wrap64 (q.x + r0)))).setCell ⟨wr.heap.size,1,none⟩ (.int .i64 (wrap64 (q.y + d0)))).setCell ⟨wr.heap.size,2,none⟩ (.int .i64 q.w)).setCell ⟨wr.heap.size,3,none⟩ (.int .i64 q.h)).heap[wr.heap.size]? = some (.cells #[.int .i64 q'.x,.int .i64 q'.y,.int .i64 q'.w,.int .i64 q'.h] 35 (0,0)) ∧ placesM ns bs ps (k + 1) = placesM ns bs ps k ++ [q'] ∧ Below wr.heap.size wr ((((w5.setCell ⟨wr.heap.size,0,none⟩ (.int .i64 (wrap64 (q.x + r0)))).setCell ⟨wr.heap.size,1,none⟩ (.int .i64 (wrap64 (q.y + d0)))).setCell ⟨wr.heap.size,2,none⟩ (.int .i64 q.w)).setCell ⟨wr.heap.size,3,none⟩ (.int .i64 q.h)))):=fun w5 d5=>by
       have l5:=below_lies d5 HX1.out (lies_lt HX1.out)
       refine ⟨⟨(lies_cell l5 0).trans rfl,(lies_cell l5 1).trans rfl,(lies_cell l5 2).trans rfl,(lies_cell l5 3).trans rfl,Lib.frozen_of_heap l5 0,Lib.frozen_of_heap l5 1,Lib.frozen_of_heap l5 2,Lib.frozen_of_heap l5 3⟩,⟨mvP q r0 d0,?_,?_,?_⟩⟩
       ·exact lies_set (lies_set (lies_set (lies_set l5)))
       ·rw [placesM_yes HX.out HQ.out hkd,HR0.out.1,HR0.out.2]
       ·exact ((((HB1.out.trans (d5.mono HB1.out.size)).setCell (p:=⟨wr.heap.size,0,none⟩) (Nat.le_refl _) _).setCell (p:=⟨wr.heap.size,1,none⟩) (Nat.le_refl _) _).setCell (p:=⟨wr.heap.size,2,none⟩) (Nat.le_refl _) _).setCell (p:=⟨wr.heap.size,3,none⟩) (Nat.le_refl _) _
      clear hL2
      go_wp2_with fail
      go_region_law (first
       | (go_simp;refine (movedP_any q r0 d0 _).mono ?_;rintro e w5 ⟨rfl,hb5⟩;have d5:Below W1.heap.size W1 w5:=⟨hb5.os,hb5.tape,hb5.output,hb5.size,hb5.block⟩;obtain ⟨⟨y0,y1,y2,y3,z0,z1,z2,z3⟩,FF⟩:=FIN.out w5 d5;clear d5 hb5;go_wp2_with fail)
       | fail)
      all_goals
       go_wp2_with fail
       go_meet
       case rel=>exact FF.out
    case rest =>
     obtain ⟨q',lx,hpm,b5⟩:=hcut
     obtain ⟨V,hV⟩:∃ W,W = wc:=⟨_,rfl⟩
     subst hV
     have MV:=HMA.out.below b5
     have lMV:=below_lies b5 HLM.out hgmr
     have hoV:V.ownsRow w.heap.size 35 4 (.slice aq k cq) k (flatPl (placesM ns bs ps k)):=by
      have h:=OwnQ.keep HOQ.out b5
      unfold OwnQ at h
      rw [placesM_len] at h
      exact h
     have e0:V.cell? ⟨wr.heap.size,0,none⟩ = some (.int .i64 q'.x):=(lies_cell lx 0).trans rfl
     have e1:V.cell? ⟨wr.heap.size,1,none⟩ = some (.int .i64 q'.y):=(lies_cell lx 1).trans rfl
     have e2:V.cell? ⟨wr.heap.size,2,none⟩ = some (.int .i64 q'.w):=(lies_cell lx 2).trans rfl
     have e3:V.cell? ⟨wr.heap.size,3,none⟩ = some (.int .i64 q'.h):=(lies_cell lx 3).trans rfl
     have m1:V.cell? ⟨gm,1,none⟩ = some (.slice aq k cq):=(lies_cell lMV 1).trans rfl
     have hsV:wr.heap.size < V.heap.size:=lies_lt lx
     obtain ⟨iP,hi0,hz0,hz1,hz2⟩:=info_parts infoPlc9
     have neM:(Value.slice aq k cq).ownBlock ≠ some gm:=own_ne hoV lMV (by decide)
     have FIN:Hid (∀ (w2':World) (g2 cap2:Nat),(V.alloc (.cells #[.int .i64 q'.x,.int .i64 q'.y,.int .i64 q'.w,.int .i64 q'.h] 35)).grownBy w2' (Value.slice aq k cq).ownBlock → w2'.ownsRow w.heap.size 35 4 (.slice (some ⟨g2,0,none⟩) (k + 1) cap2) (k + 1) (flatPl (placesM ns bs ps k) ++ plL q') →
       (w2'.cell? ⟨gm,1,none⟩ = some (.slice aq k cq) ∧ w2'.frozen? ⟨gm,1,none⟩ = false) ∧ Hid (MvAt w (w2'.setCell ⟨gm,1,none⟩ (.slice (some ⟨g2,0,none⟩) (k + 1) cap2)) gs gb (.cells (numsV L).toArray 64 (0,0)) (.cells cur 41 (0,0)) ⟨ba,bc,bs,some ⟨pb,poff,none⟩,pc,ps,la,lc,ls,fa,fc,fs,hi⟩ ∧ (w2'.setCell ⟨gm,1,none⟩ (.slice (some ⟨g2,0,none⟩) (k + 1) cap2)).heap[gm]? = some (.cells #[.slice (some ⟨gb,0,none⟩) np xcap,.slice (some ⟨g2,0,none⟩) (k + 1) cap2,.slice none 0 0,.slice a4 n4 c4,.int .i64 hi] 29 (0,0)) ∧ OwnQ (w2'.setCell ⟨gm,1,none⟩ (.slice (some ⟨g2,0,none⟩) (k + 1) cap2)) w.heap.size (.slice (some ⟨g2,0,none⟩) (k + 1) cap2) (placesM ns bs ps (k + 1)))):=fun w2' g2 cap2 hg ho=>by
      have MA:=MV.below ((Below.refl V.heap.size V).alloc (Nat.le_refl _) (.cells #[.int .i64 q'.x,.int .i64 q'.y,.int .i64 q'.w,.int .i64 q'.h] 35))
      have hoA:=hoV.alloc (.cells #[.int .i64 q'.x,.int .i64 q'.y,.int .i64 q'.w,.int .i64 q'.h] 35)
      have M2:=MA.grown hg (own_ne hoA MA.pg (by decide)) (own_ne hoA MA.rs (by decide)) (own_ne hoA MA.st (by decide)) (own_ne hoA MA.bx (by decide)) (fun b hb=>(hoA.lt b hb).1)
      have l2:w2'.heap[gm]? = some (.cells #[.slice (some ⟨gb,0,none⟩) np xcap,.slice aq k cq,.slice none 0 0,.slice a4 n4 c4,.int .i64 hi] 29 (0,0)):=(hg.block gm (by simp;omega) (fun e=>neM e.symm)).trans (heap_in lMV)
      have ho2:OwnQ w2' w.heap.size (.slice (some ⟨g2,0,none⟩) (k + 1) cap2) (placesM ns bs ps (k + 1)):=by
       rw [hpm]
       exact OwnQ.snoc (placesM_len ns bs ps k).symm ho
      refine ⟨⟨(lies_cell l2 1).trans rfl,Lib.frozen_of_heap l2 1⟩,⟨M2.set _ (by omega) (by omega) hgms hgmb (by omega),lies_set l2,?_⟩⟩
      exact own_set ho2 _ (own_ne (show w2'.ownsRow w.heap.size 35 4 (.slice (some ⟨g2,0,none⟩) (k + 1) cap2) (placesM ns bs ps (k + 1)).length (flatPl (placesM ns bs ps (k + 1))) from ho2) l2 (by decide))
     clear hpm MV lMV lx b5 HMA HOQ HLM HM1 HL1 HX1 HO1
     go_wp2_with (at_builtin;refine wpList_append_lies _ rfl _ _ _ rfl w.heap.size 35 iP _ 4 32 Tryz.underlying25 hi0 hz0 hz1 hz2 rfl (by decide) _ k (flatPl (placesM ns bs ps k)) rfl (hoV.alloc _) ⟨V.heap.size,0,none⟩ 1 1 (plL q') rfl rfl (fun j u hj=>fourP_cells V q' _ _ rfl j u hj) (plL_one _) (by decide) (by unfold maxLen;omega) (by omega) (by simp;omega) _ rfl ?_)
     intro g2 cap2 w2' hown2 hgrow2 hat2 hlt2
     obtain ⟨⟨n1,n2⟩,FF⟩:=FIN.out w2' g2 cap2 hgrow2 hown2
     clear hown2 hgrow2 hat2 FIN e0 e1 e2 e3 m1
     go_wp2_with fail
     go_roundw
     case rel=>exact ⟨k + 1,_,by omega,by go_num,FF.out.1,FF.out.2.1,FF.out.2.2⟩
     case measure=>simp [intOf];omega
   ·have hlt':¬ ((k:Int) < (np:Int)):=by omega
    have hkn:k = np:=by omega
    subst hkn
    have c2:wr.cell? ⟨w.heap.size,2,none⟩ = some (.slice la nl lc):=(lies_cell hMA.pg 2).trans (by show some (Value.slice _ ls.length _) = _;rw [← H3.out])
    clear hMA lM c1
    go_wp2_with fail
    rename_i QX KX aX
    have HAX0:Hid (_):=aX
    clear aX
    go_loopw [77] (fun i wx=>∃ (j:Nat) (vl:Value),j ≤ nl ∧ i = .int .i64 j ∧ MvAt w wx gs gb (.cells (numsV L).toArray 64 (0,0)) (.cells cur 41 (0,0)) ⟨ba,bc,bs,some ⟨pb,poff,none⟩,pc,ps,la,lc,ls,fa,fc,fs,hi⟩ ∧ wx.heap[gm]? = some (.cells #[.slice (some ⟨gb,0,none⟩) k xcap,.slice aq k cq,vl,.slice a4 n4 c4,.int .i64 hi] 29 (0,0)) ∧ OwnQ wx w.heap.size (.slice aq k cq) (placesM ns bs ps k) ∧ OwnL wx w.heap.size vl (linesM ns bs ls j) ∧ Hid (∀ (i:Nat) (x:Ln),i < j → ls[i]? = some x → (decide (0 ≤ x.bx) && decide (x.bx < (bs.length:Int))) = true)) (fun i _=>nl - (intOf i).toNat)
    case atStart=>exact ⟨0,.slice none 0 0,Nat.zero_le _,rfl,HMA.out,HLM.out,HOQ.out,ownL_nil _ _,fun i x h _=>by omega⟩
    case round =>
     obtain ⟨j,vl,hj,rfl,hMA,lM,hoq,hol,hgood⟩:=hrel
     obtain ⟨wz,hwz⟩:∃ W,W = wr:=⟨_,rfl⟩
     subst hwz
     obtain ⟨al,cl,hvl,hcl,hrl,-⟩:=OwnL.form hol
     rw [linesM_len] at hvl
     subst hvl
     clear HMA HLM HOQ
     have HOQ:Hid (OwnQ wz w.heap.size (.slice aq k cq) (placesM ns bs ps k)):=hoq
     have HOL:Hid (OwnL wz w.heap.size (.slice al j cl) (linesM ns bs ls j)):=hol
     have HLM:Hid (wz.heap[gm]? = some (.cells #[.slice (some ⟨gb,0,none⟩) k xcap,.slice aq k cq,.slice al j cl,.slice a4 n4 c4,.int .i64 hi] 29 (0,0))):=lM
     clear hoq hol hrl hcl
     by_cases hjl:j < nl
     ·have hjl':(j:Int) < (nl:Int):=by omega
      obtain ⟨x,hx⟩:∃ x,ls[j]? = some x:=⟨_,List.getElem?_eq_getElem (by rw [← H3.out];exact hjl)⟩
      obtain ⟨lb,loff,hla,hlc⟩:=ln_some9 HP.out.rl hx
      subst hla
      have HX:Hid (ls[j]? = some x):=hx
      have hlb:lb < w.heap.size:=ln_lt (hlc j x hx)
      have rl:=ln_below (hlc j x hx) hMA.bel hlb
      have p0:wz.cell? ⟨lb,loff + j * 6,none⟩ = some (.int .i64 x.bx):=rl 0 _ rfl
      have p1:wz.cell? ⟨lb,loff + j * 6 + 1,none⟩ = some (.int .i64 x.x):=rl 1 _ rfl
      have p2:wz.cell? ⟨lb,loff + j * 6 + 2,none⟩ = some (.int .i64 x.y):=rl 2 _ rfl
      have p3:wz.cell? ⟨lb,loff + j * 6 + 3,none⟩ = some (.int .i64 x.w):=rl 3 _ rfl
      have p4:wz.cell? ⟨lb,loff + j * 6 + 4,none⟩ = some (.int .i64 x.h):=rl 4 _ rfl
      have p5:wz.cell? ⟨lb,loff + j * 6 + 5,none⟩ = some (.string x.tx):=rl 5 _ rfl
      have hsz:x.tx.size ≤ 281474976710656:=by have:=HTX.out x (List.mem_of_getElem? hx);omega
      obtain ⟨W1,hW1⟩:∃ W,W = wz.alloc (.cells #[.int .i64 x.bx,.int .i64 x.x,.int .i64 x.y,.int .i64 x.w,.int .i64 x.h,.string x.tx] 37):=⟨_,rfl⟩
      have bA:Below wz.heap.size wz W1:=by rw [hW1];exact (Below.refl _ _).alloc (Nat.le_refl _) _
      have M1:=hMA.below bA
      have lM1:=below_lies bA lM (lies_lt lM)
      have lx1:W1.heap[wz.heap.size]? = some (.cells #[.int .i64 x.bx,.int .i64 x.x,.int .i64 x.y,.int .i64 x.w,.int .i64 x.h,.string x.tx] 37 (0,0)):=by rw [hW1];exact heap_at _ _ _ rfl
      have hgmr:gm < wz.heap.size:=lies_lt lM
      have hgsr:gs < wz.heap.size:=lies_lt hMA.st
      have hwr:=hMA.bel.size
      have HM1:Hid (MvAt w W1 gs gb (.cells (numsV L).toArray 64 (0,0)) (.cells cur 41 (0,0)) ⟨ba,bc,bs,some ⟨pb,poff,none⟩,pc,ps,some ⟨lb,loff,none⟩,lc,ls,fa,fc,fs,hi⟩):=M1
      have HL1:Hid (W1.heap[gm]? = some (.cells #[.slice (some ⟨gb,0,none⟩) k xcap,.slice aq k cq,.slice al j cl,.slice a4 n4 c4,.int .i64 hi] 29 (0,0))):=lM1
      have HX1:Hid (W1.heap[wz.heap.size]? = some (.cells #[.int .i64 x.bx,.int .i64 x.x,.int .i64 x.y,.int .i64 x.w,.int .i64 x.h,.string x.tx] 37 (0,0))):=lx1
      have HO1:Hid (OwnL W1 w.heap.size (.slice al j cl) (linesM ns bs ls j)):=OwnL.keep HOL.out bA
      have HQ1:Hid (OwnQ W1 w.heap.size (.slice aq k cq) (placesM ns bs ps k)):=OwnQ.keep HOQ.out bA
      have HBA:Hid (Below wz.heap.size wz W1):=bA
      have IBX:=isBox_any (some ⟨gb,0,none⟩) k xcap x.bx W1 (by omega)
      have t0:W1.cell? ⟨wz.heap.size,0,none⟩ = some (.int .i64 x.bx):=(lies_cell lx1 0).trans rfl
      have lR1:=M1.rs
      have bB1:=M1.bel
      clear hx hlc hMA lM bA M1 lM1 lx1 rl
      go_wp2_with fail
      rw [← hW1]
      clear hW1 p0 p1 p2 p3 p4 p5
      refine IBX.mono ?_
      rintro e w5 ⟨rfl,h5⟩
      rw [h5]
      clear IBX h5 w5
      rcases Bool.eq_false_or_eq_true (decide (0 ≤ x.bx) && decide (x.bx < (k:Int))) with hgd | hgd
      rotate_left
      ·rw [hgd]
       have HF:Hid (mvB ns ⟨ba,bc,bs,some ⟨pb,poff,none⟩,pc,ps,some ⟨lb,loff,none⟩,lc,ls,fa,fc,fs,hi⟩ = false):=mvB_no3 HX.out (by show (decide (0 ≤ x.bx) && decide (x.bx < (bs.length:Int))) = false;rw [← H1.out];exact hgd)
       go_wp2_with (first | ((with_reducible show wpList _ _ _ (⟨none,Op.store 29 (Operand.tmp 4) _,_,_,_,_⟩ :: _) _ _);refine wpList_putA rfl _ _ _ rfl rfl (w.heap.size + 1) 0 5 (#[.slice none 0 0,.slice none 0 0,.slice none 0 0,.slice none 0 0,.int .i64 0]:Array Value).toList _ _ rfl rfl lR1 rfl (by kernel_rfl) (by kernel_rfl) (by kernel_rfl) ?_;intro W9 p9 l9 n9;refine stayM ?_) | fail)
       have lZ:W9.heap[w.heap.size + 1]? = some (.cells #[.slice none 0 0,.slice none 0 0,.slice none 0 0,.slice none 0 0,.int .i64 0] 29 (0,0)):=l9.trans (congrArg (fun c=>some (Obj.cells c 29 (0,0))) (show _ = (#[.slice none 0 0,.slice none 0 0,.slice none 0 0,.slice none 0 0,.int .i64 0]:Array Value) by kernel_rfl))
       have b9:=p9.below bB1 (Nat.le_succ _)
       unfold StayM
       clear l9 p9 n9
       go_wp2
       exact bodyPost_ret (v:=.tuple #[.agg #[.slice none 0 0,.slice none 0 0,.slice none 0 0,.slice none 0 0,.int .i64 0],.bool false]) (results_row_tmp Tryz.results5 _ _ (w.heap.size + 1) _ _ _ _ (.bool false) rfl lZ Tryz.underlying29 rfl (by kernel_rfl) rfl) rfl (movRet_no HF.out b9)
      rw [hgd]
      have hgd2:0 ≤ x.bx ∧ x.bx < (k:Int):=by simpa using hgd
      have HGD:Hid (∀ (i:Nat) (y:Ln),i < j + 1 → ls[i]? = some y → (decide (0 ≤ y.bx) && decide (y.bx < (bs.length:Int))) = true):=fun i y hi hy=>by
       by_cases e:i = j
       ·subst e
        have e2:y = x:=Option.some.inj (hy.symm.trans HX.out)
        rw [e2,← H1.out]
        exact hgd
       ·exact hgood.out i y (by omega) hy
      clear hgd
      have HBQ:Hid (x.bx = (x.bx.toNat:Int)):=by show _ = _;omega
      have hL2:x.bx.toNat * 2 + 1 < L.length:=by have:=HST.out.1;omega
      have s0:W1.cell? ⟨gs,x.bx.toNat * 2,none⟩ = some (.int .i64 (L.getD (x.bx.toNat * 2) 0)):=ints_cell HM1.out.st (by omega)
      have s1:W1.cell? ⟨gs,x.bx.toNat * 2 + 1,none⟩ = some (.int .i64 (L.getD (x.bx.toNat * 2 + 1) 0)):=ints_cell HM1.out.st hL2
      have t1:W1.cell? ⟨wz.heap.size,1,none⟩ = some (.int .i64 x.x):=(lies_cell HX1.out 1).trans rfl
      have t2:W1.cell? ⟨wz.heap.size,2,none⟩ = some (.int .i64 x.y):=(lies_cell HX1.out 2).trans rfl
      have t3:W1.cell? ⟨wz.heap.size,3,none⟩ = some (.int .i64 x.w):=(lies_cell HX1.out 3).trans rfl
      have t4:W1.cell? ⟨wz.heap.size,4,none⟩ = some (.int .i64 x.h):=(lies_cell HX1.out 4).trans rfl
      have t5:W1.cell? ⟨wz.heap.size,5,none⟩ = some (.string x.tx):=(lies_cell HX1.out 5).trans rfl
      have m2:W1.cell? ⟨gm,2,none⟩ = some (.slice al j cl):=(lies_cell HL1.out 2).trans rfl
      have HR0:Hid ((rightM ns bs).getD x.bx.toNat 0 = L.getD (x.bx.toNat * 2) 0 ∧ (downM ns bs).getD x.bx.toNat 0 = L.getD (x.bx.toNat * 2 + 1) 0):=by
       have hkb:x.bx.toNat < bs.length:=by rw [← H1.out];omega
       have e1:=HST.out.2.1
       have e2:=HST.out.2.2
       rw [H1.out] at e1 e2
       exact ⟨rightM_at e1 hkb,downM_at e2 hkb⟩
      generalize L.getD (x.bx.toNat * 2) 0 = r0 at s0 HR0
      generalize L.getD (x.bx.toNat * 2 + 1) 0 = d0 at s1 HR0
      have HNX:Hid (linesM ns bs ls (j + 1) = linesM ns bs ls j ++ [(⟨x.bx,wrap64 (x.x + r0),wrap64 (x.y + d0),x.w,x.h,x.tx⟩:Ln)]):=by
       show _ = _
       rw [linesM_next HX.out HBQ.out,HR0.out.1,HR0.out.2]
       rfl
      have hOwn:W1.ownsRow w.heap.size 37 6 (.slice al j cl) j (flatLn (linesM ns bs ls j)):=by
       have h:=HO1.out
       unfold OwnL at h
       rw [linesM_len] at h
       exact h
      have PREP1:Hid (∀ w5:World,Below W1.heap.size W1 w5 → w5.cell? ⟨gs,x.bx.toNat * 2,none⟩ = some (.int .i64 r0) ∧ w5.cell? ⟨gs,x.bx.toNat * 2 + 1,none⟩ = some (.int .i64 d0) ∧ w5.cell? ⟨wz.heap.size,0,none⟩ = some (.int .i64 x.bx) ∧ w5.cell? ⟨gm,2,none⟩ = some (.slice al j cl)):=fun w5 d5=>by
       have h1:=lies_lt HM1.out.st
       have h2:=lies_lt HX1.out
       have h3:=lies_lt HL1.out
       exact ⟨(d5.cell (p:=⟨gs,x.bx.toNat * 2,none⟩) h1).trans s0,(d5.cell (p:=⟨gs,x.bx.toNat * 2 + 1,none⟩) h1).trans s1,(d5.cell (p:=⟨wz.heap.size,0,none⟩) h2).trans t0,(d5.cell (p:=⟨gm,2,none⟩) h3).trans m2⟩
      have PREP2:Hid (∀ w6:World,Below W1.heap.size W1 w6 → w6.cell? ⟨gm,2,none⟩ = some (.slice al j cl) ∧ (∀ o,(w6.alloc o).cell? ⟨gm,2,none⟩ = some (.slice al j cl)) ∧ w.heap.size ≤ w6.heap.size ∧
        Hid (∀ W:World,W.heap = (w6.alloc (.cells #[.int .i64 x.bx,.int .i64 (wrap64 (x.x + r0)),.int .i64 (wrap64 (x.y + d0)),.int .i64 x.w,.int .i64 x.h,.string x.tx] 37)).heap → W.ownsRow w.heap.size 37 6 (.slice al j cl) j (flatLn (linesM ns bs ls j))) ∧
        Hid (∀ W:World,W.heap = (w6.alloc (.cells #[.int .i64 x.bx,.int .i64 (wrap64 (x.x + r0)),.int .i64 (wrap64 (x.y + d0)),.int .i64 x.w,.int .i64 x.h,.string x.tx] 37)).heap → ∀ i u,(lnL (⟨x.bx,wrap64 (x.x + r0),wrap64 (x.y + d0),x.w,x.h,x.tx⟩:Ln))[i]? = some u → W.cell? ((⟨w6.heap.size,0,none⟩:Addr).add i) = some u) ∧
        Hid (∀ W w3:World,W.grownBy w3 (Value.slice al j cl).ownBlock → W.heap = (w6.alloc (.cells #[.int .i64 x.bx,.int .i64 (wrap64 (x.x + r0)),.int .i64 (wrap64 (x.y + d0)),.int .i64 x.w,.int .i64 x.h,.string x.tx] 37)).heap → w3.cell? ⟨gm,2,none⟩ = some (.slice al j cl) ∧ w3.frozen? ⟨gm,2,none⟩ = false) ∧
        Hid (∀ (W w3:World) (g9 cap9:Nat),W.grownBy w3 (Value.slice al j cl).ownBlock → w3.ownsRow w.heap.size 37 6 (.slice (some ⟨g9,0,none⟩) (j + 1) cap9) (j + 1) (flatLn (linesM ns bs ls j) ++ lnL (⟨x.bx,wrap64 (x.x + r0),wrap64 (x.y + d0),x.w,x.h,x.tx⟩:Ln)) → W.heap = (w6.alloc (.cells #[.int .i64 x.bx,.int .i64 (wrap64 (x.x + r0)),.int .i64 (wrap64 (x.y + d0)),.int .i64 x.w,.int .i64 x.h,.string x.tx] 37)).heap → W.os = w6.os → W.tape = w6.tape → W.output = w6.output →
         MvAt w (w3.setCell ⟨gm,2,none⟩ (.slice (some ⟨g9,0,none⟩) (j + 1) cap9)) gs gb (.cells (numsV L).toArray 64 (0,0)) (.cells cur 41 (0,0)) ⟨ba,bc,bs,some ⟨pb,poff,none⟩,pc,ps,some ⟨lb,loff,none⟩,lc,ls,fa,fc,fs,hi⟩ ∧ (w3.setCell ⟨gm,2,none⟩ (.slice (some ⟨g9,0,none⟩) (j + 1) cap9)).heap[gm]? = some (.cells #[.slice (some ⟨gb,0,none⟩) k xcap,.slice aq k cq,.slice (some ⟨g9,0,none⟩) (j + 1) cap9,.slice a4 n4 c4,.int .i64 hi] 29 (0,0)) ∧ OwnQ (w3.setCell ⟨gm,2,none⟩ (.slice (some ⟨g9,0,none⟩) (j + 1) cap9)) w.heap.size (.slice aq k cq) (placesM ns bs ps k) ∧ OwnL (w3.setCell ⟨gm,2,none⟩ (.slice (some ⟨g9,0,none⟩) (j + 1) cap9)) w.heap.size (.slice (some ⟨g9,0,none⟩) (j + 1) cap9) (linesM ns bs ls (j + 1)))):=fun w6 d6=>by
       have M6:=HM1.out.below d6
       have l6:=below_lies d6 HL1.out (lies_lt HL1.out)
       have o6:w6.ownsRow w.heap.size 37 6 (.slice al j cl) j (flatLn (linesM ns bs ls j)):=owns_at9 hOwn (fun b hb=>d6.block b ((hOwn.lt b hb).2))
       have q6:=OwnQ.keep HQ1.out d6
       have neM:(Value.slice al j cl).ownBlock ≠ some gm:=own_ne o6 l6 (by decide)
       have MA:=M6.below ((Below.refl w6.heap.size w6).alloc (Nat.le_refl _) (.cells #[.int .i64 x.bx,.int .i64 (wrap64 (x.x + r0)),.int .i64 (wrap64 (x.y + d0)),.int .i64 x.w,.int .i64 x.h,.string x.tx] 37))
       have oA:=o6.alloc (.cells #[.int .i64 x.bx,.int .i64 (wrap64 (x.x + r0)),.int .i64 (wrap64 (x.y + d0)),.int .i64 x.w,.int .i64 x.h,.string x.tx] 37)
       have qA:=OwnQ.keep q6 ((Below.refl w6.heap.size w6).alloc (Nat.le_refl _) (.cells #[.int .i64 x.bx,.int .i64 (wrap64 (x.x + r0)),.int .i64 (wrap64 (x.y + d0)),.int .i64 x.w,.int .i64 x.h,.string x.tx] 37))
       have lA:(w6.alloc (.cells #[.int .i64 x.bx,.int .i64 (wrap64 (x.x + r0)),.int .i64 (wrap64 (x.y + d0)),.int .i64 x.w,.int .i64 x.h,.string x.tx] 37)).heap[gm]? = _:=heap_in l6
       have hgw:∀ (W w3:World),W.grownBy w3 (Value.slice al j cl).ownBlock → W.heap = (w6.alloc (.cells #[.int .i64 x.bx,.int .i64 (wrap64 (x.x + r0)),.int .i64 (wrap64 (x.y + d0)),.int .i64 x.w,.int .i64 x.h,.string x.tx] 37)).heap → w3.heap[gm]? = some (.cells #[.slice (some ⟨gb,0,none⟩) k xcap,.slice aq k cq,.slice al j cl,.slice a4 n4 c4,.int .i64 hi] 29 (0,0)):=fun W w3 hg hW=>by
        rw [hg.block gm (by rw [hW];exact lies_lt lA) (fun e=>neM e.symm),hW]
        exact lA
       refine ⟨(lies_cell l6 2).trans rfl,(fun o=>(lies_cell (heap_in l6) 2).trans rfl),M6.bel.size,fun W hW=>owns_at9 oA (fun b hb=>by rw [hW]),fun W hW=>?_,fun W w3 hg hW=>?_,fun W w3 g9 cap9 hg ho hW e1 e2 e3=>?_⟩
       ·exact World.news_of_block (cs:=#[.int .i64 x.bx,.int .i64 (wrap64 (x.x + r0)),.int .i64 (wrap64 (x.y + d0)),.int .i64 x.w,.int .i64 x.h,.string x.tx]) (t:=37) (fr:=(0,0)) (by rw [hW];exact heap_at _ _ _ rfl)
       ·have h3:=hgw W w3 hg hW
        exact ⟨(lies_cell h3 2).trans rfl,Lib.frozen_of_heap h3 2⟩
       ·have h3:=hgw W w3 hg hW
        have hg':(w6.alloc (.cells #[.int .i64 x.bx,.int .i64 (wrap64 (x.x + r0)),.int .i64 (wrap64 (x.y + d0)),.int .i64 x.w,.int .i64 x.h,.string x.tx] 37)).grownBy w3 (Value.slice al j cl).ownBlock:=⟨hg.os.trans e1,hg.tape.trans e2,hg.output.trans e3,by have h9:=hg.size;rw [hW] at h9;exact h9,fun b hb hne=>by rw [hg.block b (by rw [hW];exact hb) hne,hW]⟩
        have M3:=MA.grown hg' (own_ne oA MA.pg (by decide)) (own_ne oA MA.rs (by decide)) (own_ne oA MA.st (by decide)) (own_ne oA MA.bx (by decide)) (fun b hb=>(oA.lt b hb).1)
        have oL:OwnL w3 w.heap.size (.slice (some ⟨g9,0,none⟩) (j + 1) cap9) (linesM ns bs ls (j + 1)):=by
         rw [HNX.out]
         exact OwnL.snoc (linesM_len ns bs ls j).symm ho
        have oQ:OwnQ w3 w.heap.size (.slice aq k cq) (placesM ns bs ps k):=World.ownsRow.kept qA hg' (own_ne2 (show (w6.alloc (.cells #[.int .i64 x.bx,.int .i64 (wrap64 (x.x + r0)),.int .i64 (wrap64 (x.y + d0)),.int .i64 x.w,.int .i64 x.h,.string x.tx] 37)).ownsRow w.heap.size 35 4 (.slice aq k cq) (placesM ns bs ps k).length (flatPl (placesM ns bs ps k)) from qA) oA (by decide))
        exact ⟨M3.set _ (by omega) (by omega) hgms hgmb (by omega),lies_set h3,own_set oQ _ (own_ne (show w3.ownsRow w.heap.size 35 4 (.slice aq k cq) (placesM ns bs ps k).length (flatPl (placesM ns bs ps k)) from oQ) h3 (by decide)),own_set oL _ (own_ne (show w3.ownsRow w.heap.size 37 6 (.slice (some ⟨g9,0,none⟩) (j + 1) cap9) (linesM ns bs ls (j + 1)).length (flatLn (linesM ns bs ls (j + 1))) from oL) h3 (by decide))⟩
      obtain ⟨iL,hi0,hz0,hz1,hz2⟩:=info_parts infoLine
      have H1L:Hid (∀ u ∈ lnL (⟨x.bx,wrap64 (x.x + r0),wrap64 (x.y + d0),x.w,x.h,x.tx⟩:Ln),u.oneCell' = true):=lnL_one _
      clear hL2 hOwn HO1 HQ1 lR1 bB1
      go_wp2_with fail
      rename_i QY KY aY
      have HAX:Hid (_):=aY
      clear aY
      go_region_law (first
       | (refine step_append_lies _ (by rfl) _ _ _ (by rfl) w.heap.size 37 iL _ 6 56 Tryz.underlying26 hi0 hz0 hz1 hz2 rfl (by omega) (.slice al j cl) j (flatLn (linesM ns bs ls j)) (by rfl) (HOW.out _ rfl) ⟨w6.heap.size,0,none⟩ 1 1 (lnL (⟨x.bx,wrap64 (x.x + r0),wrap64 (x.y + d0),x.w,x.h,x.tx⟩:Ln)) (by rfl) (by rfl) (HNW.out _ rfl) H1L.out (by omega) (by unfold maxLen;omega) (by omega) (by simp;omega) _ rfl ?_;intro g9 cap9 w3 hown3 hgrow3 hat3 hlt3;have p8:=(HLI.out _ w3 hgrow3 rfl).1;have r8:=(HLI.out _ w3 hgrow3 rfl).2;have GG:=HGG.out _ w3 g9 cap9 hgrow3 hown3 rfl rfl rfl rfl)
       | (go_simp;refine (cloned_any x _ hsz).mono ?_;rintro e w5 ⟨rfl,hb5⟩;have d5:Below W1.heap.size W1 w5:=⟨hb5.os,hb5.tape,hb5.output,hb5.size,hb5.block⟩;obtain ⟨y0,y1,y2,y3⟩:=PREP1.out w5 d5;have D5:Hid (Below W1.heap.size W1 w5):=d5;clear hb5 d5;go_wp2_with fail)
       | (go_simp;refine (movedL_any x r0 d0 _).mono ?_;rintro e w6 ⟨rfl,hb6⟩;have d6:Below W1.heap.size W1 w6:=D5.out.trans (Below.mono (⟨hb6.os,hb6.tape,hb6.output,hb6.size,hb6.block⟩:Below w5.heap.size w5 w6) D5.out.size);obtain ⟨k2,k3,hs6,HOW,HNW,HLI,HGG⟩:=PREP2.out w6 d6;clear hb6 d6;go_wp2_with fail)
       | fail)
      all_goals
       obtain ⟨G1,G2,G3,G4⟩:=GG
       have aY:=HAX.out
       clear HAX p8 r8 hown3 hgrow3 hat3 hlt3 HOW HNW HLI HGG k2 k3
       go_wp2
       go_roundw
       case rel=>exact ⟨j + 1,_,by omega,by go_num,G1,G2,G3,G4,HGD⟩
       case measure=>simp [intOf];omega
     ·have hjl':¬ ((j:Int) < (nl:Int)):=by omega
      have hjn:j = nl:=by omega
      subst hjn
      have i0:wz.cell? ⟨gm,0,none⟩ = some (.slice (some ⟨gb,0,none⟩) k xcap):=(lies_cell HLM.out 0).trans rfl
      have i1:wz.cell? ⟨gm,1,none⟩ = some (.slice aq k cq):=(lies_cell HLM.out 1).trans rfl
      have i2:wz.cell? ⟨gm,2,none⟩ = some (.slice al j cl):=(lies_cell HLM.out 2).trans rfl
      have i3:wz.cell? ⟨gm,3,none⟩ = some (.slice a4 n4 c4):=(lies_cell HLM.out 3).trans rfl
      have i4:wz.cell? ⟨gm,4,none⟩ = some (.int .i64 hi):=(lies_cell HLM.out 4).trans rfl
      have lR:=hMA.rs
      have HBW:Hid (Below w.heap.size w wz):=hMA.bel
      have HY:Hid (mvB ns ⟨ba,bc,bs,some ⟨pb,poff,none⟩,pc,ps,la,lc,ls,fa,fc,fs,hi⟩ = true):=mvB_yes HGB.out (by show ps.length = bs.length;rw [← H1.out,← H2.out]) (fun i x hx=>hgood.out i x (by rw [H3.out];exact (List.getElem?_eq_some_iff.1 hx).1) hx)
      clear hMA lM
      have aX:=HAX0.out
      clear HAX0
      go_wp2_with (first | ((with_reducible show wpList _ _ _ (⟨none,Op.store 29 (Operand.tmp 4) _,_,_,_,_⟩ :: _) _ _);refine wpList_putA rfl _ _ _ rfl rfl (w.heap.size + 1) 0 5 (#[.slice (some ⟨gb,0,none⟩) k xcap,.slice aq k cq,.slice al j cl,.slice a4 n4 c4,.int .i64 hi]:Array Value).toList _ _ rfl rfl lR rfl (by kernel_rfl) (by kernel_rfl) (by kernel_rfl) ?_;intro W9 p9 l9 n9;refine stayM ?_) | fail)
      have lZ:W9.heap[w.heap.size + 1]? = some (.cells #[.slice (some ⟨gb,0,none⟩) k xcap,.slice aq k cq,.slice al j cl,.slice a4 n4 c4,.int .i64 hi] 29 (0,0)):=l9.trans (congrArg (fun c=>some (Obj.cells c 29 (0,0))) (show _ = (#[.slice (some ⟨gb,0,none⟩) k xcap,.slice aq k cq,.slice al j cl,.slice a4 n4 c4,.int .i64 hi]:Array Value) by kernel_rfl))
      have b9:=p9.below HBW.out (Nat.le_succ _)
      have oQ:OwnQ W9 w.heap.size (.slice aq k cq) (placesM ns bs ps k):=owns_at9 HOQ.out (fun b hb=>p9.other b (fun e=>own_ne (show wz.ownsRow w.heap.size 35 4 (.slice aq k cq) (placesM ns bs ps k).length (flatPl (placesM ns bs ps k)) from HOQ.out) lR (by decide) (by rw [hb,e])))
      have oL:OwnL W9 w.heap.size (.slice al j cl) (linesM ns bs ls j):=owns_at9 HOL.out (fun b hb=>p9.other b (fun e=>own_ne (show wz.ownsRow w.heap.size 37 6 (.slice al j cl) (linesM ns bs ls j).length (flatLn (linesM ns bs ls j)) from HOL.out) lR (by decide) (by rw [hb,e])))
      have RES:Hid (MovRet w ns ⟨ba,bc,bs,some ⟨pb,poff,none⟩,pc,ps,la,lc,ls,fa,fc,fs,hi⟩ (.returned (.tuple #[.agg #[.slice (some ⟨gb,0,none⟩) k xcap,.slice aq k cq,.slice al j cl,.slice a4 n4 c4,.int .i64 hi],.bool true])) W9):=⟨.inr ⟨HY.out,some ⟨gb,0,none⟩,aq,al,a4,k,xcap,cq,cl,n4,c4,by show _ = Ending.returned (.tuple #[.agg #[_,.slice aq ps.length cq,.slice al ls.length cl,_,_],_]);rw [← H2.out,← H3.out],by show OwnQ W9 _ (.slice aq ps.length cq) (placesM ns bs ps ps.length);rw [← H2.out];exact oQ,by show OwnL W9 _ (.slice al ls.length cl) (linesM ns bs ls ls.length);rw [← H3.out];exact oL⟩,b9⟩
      unfold StayM
      clear l9 p9 n9 oQ oL b9 lR
      go_wp2
      exact bodyPost_ret (v:=.tuple #[.agg #[.slice (some ⟨gb,0,none⟩) k xcap,.slice aq k cq,.slice al j cl,.slice a4 n4 c4,.int .i64 hi],.bool true]) (results_row_tmp Tryz.results5 _ _ (w.heap.size + 1) _ _ _ _ (.bool true) rfl lZ Tryz.underlying29 rfl (by kernel_rfl) rfl) rfl RES.out
end Go.Proofs.YtjnmloaopnbpgaaGreatDoor
