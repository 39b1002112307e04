/-
 The law FnMoved walked: what is moved keeps its sizes, its texts and its order, for drawn pages.
-/
import Derived.Test.YtjnmloaopnbpgaaGreatDoorMg36
import Derived.Test.YtjnmloaopnbpgaaGreatDoorMg26
import Derived.Test.YtjnmloaopnbpgaaGreatDoorMg28
namespace Go.Proofs.YtjnmloaopnbpgaaGreatDoor
open Go.ChangeShapes Go.WideShapes Go.ChangeAt Go.RowKit
set_option linter.unusedVariables false
set_option maxRecDepth 1000000 in
set_option maxHeartbeats 8000000 in
theorem moved_law (a:Option Addr) (len cap:Nat) (w:World) (hB:RowB w a len) (hl:len ≤ 140737488355328) (et:TypeId) (ev:Value) (he:w.cell? ⟨0,0,none⟩ = some (.iface et ev)) :
  Calls Tryz.prog 3 #[.slice a len cap] w fun e w'=>e = .returned (.bool true) ∧ Below w.heap.size w w':=by
 by_cases hbig:1048576 < len
 ·have hbig':(1048576:Int) < (len:Int):=by omega
  clear hB he
  go_enter Tryz.func3,Tryz.ntmps3
  go_wp2
  go_ret
  exact ⟨rfl,Below.refl _ _⟩
 have hbig':¬ ((1048576:Int) < (len:Int)):=by omega
 have D:=drawMove_any a len cap w (by omega) hB
 have HE:Hid (w.cell? ⟨0,0,none⟩ = some (.iface et ev)):=he
 clear hB he
 go_enter Tryz.func3,Tryz.ntmps3
 go_wp2_with fail
 refine D.mono ?_
 rintro e w1 ⟨v,ns,P,rfl,hO,hT,hP,b1⟩
 clear D hbig hbig' hl
 obtain ⟨ndb,ncap,hv⟩:=nOwn_some hO (by have:=hT.1;omega)
 obtain ⟨n,hn⟩:∃ n,n = ns.length:=⟨_,rfl⟩
 rw [← hn] at hv
 subst hv
 obtain ⟨ba,bc,bs,pa,pc,ps,la,lc,ls,fa,fc,fs,hi⟩:=P
 have h80:bs.length ≤ 80:=hP.nb
 have hnp:ps.length ≤ 80:=hP.np
 have hnl:ls.length ≤ 397:=hP.nl
 have hnf:fs.length ≤ 1000:=hP.nf
 obtain ⟨nb,hnb⟩:∃ k,k = bs.length:=⟨_,rfl⟩
 obtain ⟨np,hnpe⟩:∃ k,k = ps.length:=⟨_,rfl⟩
 obtain ⟨nl,hnle⟩:∃ k,k = ls.length:=⟨_,rfl⟩
 obtain ⟨nf,hnfe⟩:∃ k,k = fs.length:=⟨_,rfl⟩
 have H1:Hid (nb = bs.length):=hnb
 have H2:Hid (np = ps.length):=hnpe
 have H3:Hid (nl = ls.length):=hnle
 have H4:Hid (nf = fs.length):=hnfe
 have eP:pgA ⟨ba,bc,bs,pa,pc,ps,la,lc,ls,fa,fc,fs,hi⟩ = (#[.slice ba nb bc,.slice pa np pc,.slice la nl lc,.slice fa nf fc,.int .i64 hi]:Array Value):=by unfold pgA;simp only [← hnb,← hnpe,← hnle,← hnfe]
 have eP':pgA' ⟨ba,bc,bs,pa,pc,ps,la,lc,ls,fa,fc,fs,hi⟩ = (#[.slice ba nb bc,.slice pa np pc,.slice la nl lc,.slice fa nf fc,.int .i64 hi]:Array Value):=by unfold pgA';simp only [← hnb,← hnpe,← hnle,← hnfe]
 rw [eP]
 obtain ⟨W2,hW2⟩:∃ W,W = w1.alloc (.cells #[.slice ba nb bc,.slice pa np pc,.slice la nl lc,.slice fa nf fc,.int .i64 hi] 29):=⟨_,rfl⟩
 have bA:Below w1.heap.size w1 W2:=by rw [hW2];exact (Below.refl _ _).alloc (Nat.le_refl _) _
 have lp2:W2.heap[w1.heap.size]? = some (.cells #[.slice ba nb bc,.slice pa np pc,.slice la nl lc,.slice fa nf fc,.int .i64 hi] 29 (0,0)):=by rw [hW2];exact heap_at _ _ _ rfl
 have b2:=b1.trans (bA.mono b1.size)
 have hP2:=hP.below bA
 have hnd:∀ (W:World),Below W2.heap.size W2 W → ∀ i y,ns[i]? = some y → W.rangeAt ndb (0 + i * 28) (ndL y):=fun W hW i y hy j u hj=>by
  have h1:=OwnN.cell (k:=i) (c:=j) hn hO hy hj
  have h2:=World.block_lt_of_cell? _ ⟨ndb,i * 28 + j,none⟩ h1
  rw [Nat.zero_add]
  exact (hW.cell (p:=⟨ndb,i * 28 + j,none⟩) (Nat.lt_of_lt_of_le h2 bA.size)).trans ((bA.cell (p:=⟨ndb,i * 28 + j,none⟩) h2).trans h1)
 have hs:∀ x ∈ ns,x.tx.size ≤ 1048576:=fun x hx=>by
  obtain ⟨j,hj⟩:=List.getElem?_of_mem hx
  have:=(hT.2.2 j x hj).1
  omega
 have hn41:n ≤ 1048576:=by have:=hT.2.1;omega
 have hok:boxB ns = true → BsOk n (boxR ns):=fun h=>by rw [hn];exact bsOk_of h
 have IM:Hid (Calls Tryz.prog 5 #[.slice (some ⟨ndb,0,none⟩) n ncap,.agg #[.slice ba nb bc,.slice pa np pc,.slice la nl lc,.slice fa nf fc,.int .i64 hi]] W2 fun e w'=>MovRet W2 ns ⟨ba,bc,bs,pa,pc,ps,la,lc,ls,fa,fc,fs,hi⟩ e w'):=by
  have h:=implMove_any ndb 0 n ncap ns ⟨ba,bc,bs,pa,pc,ps,la,lc,ls,fa,fc,fs,hi⟩ W2 hn (hnd W2 (Below.refl _ _)) hn41 hs hok hP2.row h80 hnp (by show ls.length ≤ 400;omega) hnf hP2.tx et ev ((b2.cell (World.block_lt_of_cell? _ _ HE.out)).trans HE.out)
  rw [eP'] at h
  exact h
 have SM:Hid (∀ W:World,Below W2.heap.size W2 W → Calls Tryz.prog 6 #[.slice (some ⟨ndb,0,none⟩) n ncap,.agg #[.slice ba nb bc,.slice pa np pc,.slice la nl lc,.slice fa nf fc,.int .i64 hi]] W fun e w'=>MovRet W ns ⟨ba,bc,bs,pa,pc,ps,la,lc,ls,fa,fc,fs,hi⟩ e w'):=fun W hW=>by
  have h:=specMove_any ndb 0 n ncap ns ⟨ba,bc,bs,pa,pc,ps,la,lc,ls,fa,fc,fs,hi⟩ W hn (hnd W hW) hn41 hs hok (hP2.row.below hW) h80 hnp (by show ls.length ≤ 400;omega) hnf
  rw [eP'] at h
  exact h
 have HROW:Hid (PgRow W2 ⟨ba,bc,bs,pa,pc,ps,la,lc,ls,fa,fc,fs,hi⟩):=hP2.row
 have HNEAR:Hid (∀ q ∈ ps,nearQ q = true):=hP2.near
 have hnb80:nb ≤ 80:=by rw [hnb];exact h80
 have hnp80:np ≤ 80:=by rw [hnpe];exact hnp
 have hnl400:nl ≤ 400:=by rw [hnle];omega
 have hnf1:nf ≤ 1000:=by rw [hnfe];exact hnf
 have IM':=IM.out
 clear hP hP2 hnd hs hn41 hok eP eP' hnb hnpe hnle hnfe h80 hnp hnl hnf hO hT hn b1 bA IM HE
 go_wp2_with fail
 rw [← hW2]
 clear hW2
 refine IM'.mono ?_
 rintro e w3 ⟨hR,b3⟩
 have lp3:=below_lies b3 lp2 (lies_lt lp2)
 have HB23:Hid (Below W2.heap.size W2 w3):=b3
 clear IM'
 rcases hR with ⟨hF,rfl⟩ | ⟨hY,a1,a2,a3,a4,n1,c1,c2,c3,n4,c4,he1,oQ,oL⟩
 ·obtain ⟨W4,hW4⟩:∃ W,W = w3.alloc (.cells #[.slice none 0 0,.slice none 0 0,.slice none 0 0,.slice none 0 0,.int .i64 0] 29):=⟨_,rfl⟩
  have bB:Below w3.heap.size w3 W4:=by rw [hW4];exact (Below.refl _ _).alloc (Nat.le_refl _) _
  have lq4:W4.heap[w3.heap.size]? = some (.cells #[.slice none 0 0,.slice none 0 0,.slice none 0 0,.slice none 0 0,.int .i64 0] 29 (0,0)):=by rw [hW4];exact heap_at _ _ _ rfl
  have b4:=b3.trans (bB.mono b3.size)
  have SM':=SM.out W4 b4
  have g0:∀ o,(w3.alloc o).cell? ⟨w1.heap.size,0,none⟩ = some (.slice ba nb bc):=fun o=>(lies_cell (heap_in lp3) 0).trans rfl
  have g1:∀ o,(w3.alloc o).cell? ⟨w1.heap.size,1,none⟩ = some (.slice pa np pc):=fun o=>(lies_cell (heap_in lp3) 1).trans rfl
  have g2:∀ o,(w3.alloc o).cell? ⟨w1.heap.size,2,none⟩ = some (.slice la nl lc):=fun o=>(lies_cell (heap_in lp3) 2).trans rfl
  have g3:∀ o,(w3.alloc o).cell? ⟨w1.heap.size,3,none⟩ = some (.slice fa nf fc):=fun o=>(lies_cell (heap_in lp3) 3).trans rfl
  have g4:∀ o,(w3.alloc o).cell? ⟨w1.heap.size,4,none⟩ = some (.int .i64 hi):=fun o=>(lies_cell (heap_in lp3) 4).trans rfl
  clear SM
  go_wp2_with fail
  rw [← hW4]
  clear hW4 g0 g1 g2 g3 g4
  refine SM'.mono ?_
  rintro e w5 ⟨hR,b5⟩
  rcases hR with ⟨-,rfl⟩ | ⟨hY,-⟩
  rotate_left
  ·rw [hF] at hY;cases hY
  have lq5:=below_lies b5 lq4 (lies_lt lq4)
  have hb5:=b2.trans ((b4.trans (b5.mono b4.size)).mono b2.size)
  have i0:∀ o,(w5.alloc o).cell? ⟨w3.heap.size,0,none⟩ = some (.slice none 0 0):=fun o=>(lies_cell (heap_in lq5) 0).trans rfl
  have i1:∀ o,(w5.alloc o).cell? ⟨w3.heap.size,1,none⟩ = some (.slice none 0 0):=fun o=>(lies_cell (heap_in lq5) 1).trans rfl
  have i2:∀ o,(w5.alloc o).cell? ⟨w3.heap.size,2,none⟩ = some (.slice none 0 0):=fun o=>(lies_cell (heap_in lq5) 2).trans rfl
  have hfin:∀ o,Below w.heap.size w (w5.alloc o):=fun o=>hb5.alloc hb5.size _
  clear SM' b5 b4 b3 b2 bB lq4 lp3 lp2
  go_wp2
  go_ret
  exact ⟨rfl,hfin _⟩
 have hnn:np = nb:=by
  unfold mvB at hY
  simp only [Bool.and_eq_true,decide_eq_true_eq] at hY
  have h:=hY.1.2
  rw [H1.out,H2.out]
  exact h
 have hpos:0 < np:=by
  unfold mvB gbB at hY
  simp only [Bool.and_eq_true,decide_eq_true_eq] at hY
  have h1:=(bsOk_of hY.1.1.1).pos
  rw [sameX_eq hY.1.1.2] at h1
  rw [hnn,H1.out]
  exact h1
 subst hnn
 have HY:Hid (mvB ns ⟨ba,bc,bs,pa,pc,ps,la,lc,ls,fa,fc,fs,hi⟩ = true):=hY
 have oQ1:OwnQ w3 W2.heap.size (.slice a2 np c2) (placesM ns bs ps np):=by rw [H2.out];exact oQ
 have oL1:OwnL w3 W2.heap.size (.slice a3 nl c3) (linesM ns bs ls nl):=by rw [H3.out];exact oL
 have ee:Ending.returned (.tuple #[.agg #[.slice a1 n1 c1,.slice a2 ps.length c2,.slice a3 ls.length c3,.slice a4 n4 c4,.int .i64 hi],.bool true]) = .returned (.tuple #[.agg #[.slice a1 n1 c1,.slice a2 np c2,.slice a3 nl c3,.slice a4 n4 c4,.int .i64 hi],.bool true]):=by rw [← H2.out,← H3.out]
 have he2:e = .returned (.tuple #[.agg #[.slice a1 n1 c1,.slice a2 np c2,.slice a3 nl c3,.slice a4 n4 c4,.int .i64 hi],.bool true]):=he1.trans ee
 subst he2
 clear he1 ee oQ oL hY
 obtain ⟨W4,hW4⟩:∃ W,W = w3.alloc (.cells #[.slice a1 n1 c1,.slice a2 np c2,.slice a3 nl c3,.slice a4 n4 c4,.int .i64 hi] 29):=⟨_,rfl⟩
 have bB:Below w3.heap.size w3 W4:=by rw [hW4];exact (Below.refl _ _).alloc (Nat.le_refl _) _
 have lq4:W4.heap[w3.heap.size]? = some (.cells #[.slice a1 n1 c1,.slice a2 np c2,.slice a3 nl c3,.slice a4 n4 c4,.int .i64 hi] 29 (0,0)):=by rw [hW4];exact heap_at _ _ _ rfl
 have b4:=b3.trans (bB.mono b3.size)
 have SM':=SM.out W4 b4
 have g0:∀ o,(w3.alloc o).cell? ⟨w1.heap.size,0,none⟩ = some (.slice ba np bc):=fun o=>(lies_cell (heap_in lp3) 0).trans rfl
 have g1:∀ o,(w3.alloc o).cell? ⟨w1.heap.size,1,none⟩ = some (.slice pa np pc):=fun o=>(lies_cell (heap_in lp3) 1).trans rfl
 have g2:∀ o,(w3.alloc o).cell? ⟨w1.heap.size,2,none⟩ = some (.slice la nl lc):=fun o=>(lies_cell (heap_in lp3) 2).trans rfl
 have g3:∀ o,(w3.alloc o).cell? ⟨w1.heap.size,3,none⟩ = some (.slice fa nf fc):=fun o=>(lies_cell (heap_in lp3) 3).trans rfl
 have g4:∀ o,(w3.alloc o).cell? ⟨w1.heap.size,4,none⟩ = some (.int .i64 hi):=fun o=>(lies_cell (heap_in lp3) 4).trans rfl
 have HO1:Hid (OwnQ w3 W2.heap.size (.slice a2 np c2) (placesM ns bs ps np) ∧ OwnL w3 W2.heap.size (.slice a3 nl c3) (linesM ns bs ls nl)):=⟨oQ1,oL1⟩
 clear SM oQ1 oL1
 go_wp2_with fail
 rw [← hW4]
 clear hW4 g0 g1 g2 g3 g4
 refine SM'.mono ?_
 rintro e w5 ⟨hR,b5⟩
 rcases hR with ⟨hF,-⟩ | ⟨-,a1',a2',a3',a4',n1',c1',c2',c3',n4',c4',he1,oQ,oL⟩
 ·have:=HY.out;rw [hF] at this;cases this
 have oQ1:OwnQ w5 W4.heap.size (.slice a2' np c2') (placesM ns bs ps np):=by rw [H2.out];exact oQ
 have oL1:OwnL w5 W4.heap.size (.slice a3' nl c3') (linesM ns bs ls nl):=by rw [H3.out];exact oL
 have ee:Ending.returned (.tuple #[.agg #[.slice a1' n1' c1',.slice a2' ps.length c2',.slice a3' ls.length c3',.slice a4' n4' c4',.int .i64 hi],.bool true]) = .returned (.tuple #[.agg #[.slice a1' n1' c1',.slice a2' np c2',.slice a3' nl c3',.slice a4' n4' c4',.int .i64 hi],.bool true]):=by rw [← H2.out,← H3.out]
 have he2:e = .returned (.tuple #[.agg #[.slice a1' n1' c1',.slice a2' np c2',.slice a3' nl c3',.slice a4' n4' c4',.int .i64 hi],.bool true]):=he1.trans ee
 subst he2
 clear he1 ee oQ oL SM'
 obtain ⟨V,hV⟩:∃ W,W = w5.alloc (.cells #[.slice a1' n1' c1',.slice a2' np c2',.slice a3' nl c3',.slice a4' n4' c4',.int .i64 hi] 29):=⟨_,rfl⟩
 have bC:Below w5.heap.size w5 V:=by rw [hV];exact (Below.refl _ _).alloc (Nat.le_refl _) _
 have lw:V.heap[w5.heap.size]? = some (.cells #[.slice a1' n1' c1',.slice a2' np c2',.slice a3' nl c3',.slice a4' n4' c4',.int .i64 hi] 29 (0,0)):=by rw [hV];exact heap_at _ _ _ rfl
 have b4V:Below W4.heap.size W4 V:=b5.trans (bC.mono b5.size)
 have b3V:Below w3.heap.size w3 V:=bB.trans (b4V.mono bB.size)
 have b2V:Below W2.heap.size W2 V:=b3.trans (b3V.mono b3.size)
 have bwV:Below w.heap.size w V:=b2.trans (b2V.mono b2.size)
 have lq:=below_lies b4V lq4 (lies_lt lq4)
 have lp:=below_lies b3V lp3 (lies_lt lp3)
 obtain ⟨aa,cc,hv1,-,rQ0,-⟩:=OwnQ.form HO1.out.1
 rw [placesM_len] at hv1
 injection hv1 with e1 _ e3
 subst e1
 clear e3
 obtain ⟨aa,cc',hv1,-,rL0,-⟩:=OwnL.form HO1.out.2
 rw [linesM_len] at hv1
 injection hv1 with e1 _ e3
 subst e1
 clear e3
 obtain ⟨aa,cc'',hv1,-,rQ0',-⟩:=OwnQ.form oQ1
 rw [placesM_len] at hv1
 injection hv1 with e1 _ e3
 subst e1
 clear e3
 obtain ⟨aa,cc''',hv1,-,rL0',-⟩:=OwnL.form oL1
 rw [linesM_len] at hv1
 injection hv1 with e1 _ e3
 subst e1
 clear e3
 have HRQ:Hid (PlRow V a2 (placesM ns bs ps np)):=rQ0.below b3V
 have HRL:Hid (LnRow V a3 (linesM ns bs ls nl)):=rL0.below b3V
 have HRQ':Hid (PlRow V a2' (placesM ns bs ps np)):=rQ0'.below bC
 have HRL':Hid (LnRow V a3' (linesM ns bs ls nl)):=rL0'.below bC
 have HRP:Hid (PgRow V ⟨ba,bc,bs,pa,pc,ps,la,lc,ls,fa,fc,fs,hi⟩):=HROW.out.below b2V
 have HLP:Hid (V.heap[w1.heap.size]? = some (.cells #[.slice ba np bc,.slice pa np pc,.slice la nl lc,.slice fa nf fc,.int .i64 hi] 29 (0,0))):=lp
 have HLQ:Hid (V.heap[w3.heap.size]? = some (.cells #[.slice a1 n1 c1,.slice a2 np c2,.slice a3 nl c3,.slice a4 n4 c4,.int .i64 hi] 29 (0,0))):=lq
 have HLW:Hid (V.heap[w5.heap.size]? = some (.cells #[.slice a1' n1' c1',.slice a2' np c2',.slice a3' nl c3',.slice a4' n4' c4',.int .i64 hi] 29 (0,0))):=lw
 have HBV:Hid (Below w.heap.size w V):=bwV
 have i1:∀ o,(w5.alloc o).cell? ⟨w3.heap.size,1,none⟩ = some (.slice a2 np c2):=fun o=>(lies_cell (heap_in (below_lies b5 lq4 (lies_lt lq4))) 1).trans rfl
 have i2:∀ o,(w5.alloc o).cell? ⟨w3.heap.size,2,none⟩ = some (.slice a3 nl c3):=fun o=>(lies_cell (heap_in (below_lies b5 lq4 (lies_lt lq4))) 2).trans rfl
 clear rQ0 rL0 rQ0' rL0' lp lq lw lp2 lp3 lq4 b2 b3 b4 b5 bB bC b4V b3V b2V bwV oQ1 oL1 HO1 HROW HB23
 go_wp2_with fail
 rw [← hV]
 clear hV i1 i2
 obtain ⟨y0,hy0⟩:∃ y,(placesM ns bs ps np)[0]? = some y:=⟨_,placesM_at ns bs ps np 0 hpos⟩
 obtain ⟨qb,qo,hqa,hqc⟩:=pl_some HRQ.out hy0
 obtain ⟨wb,wo,hwa,hwc⟩:=pl_some HRQ'.out hy0
 obtain ⟨z0,hz0⟩:∃ z,ps[0]? = some z:=⟨_,List.getElem?_eq_getElem (by rw [← H2.out];exact hpos)⟩
 obtain ⟨pb,po,hpa,hpc⟩:=pl_some HRP.out.rp hz0
 subst hqa
 subst hwa
 subst hpa
 have HQC:Hid (∀ i q,(placesM ns bs ps np)[i]? = some q → V.rangeAt qb (qo + i * 4) (plL q)):=hqc
 have HWC:Hid (∀ i q,(placesM ns bs ps np)[i]? = some q → V.rangeAt wb (wo + i * 4) (plL q)):=hwc
 have HPC:Hid (∀ i q,ps[i]? = some q → V.rangeAt pb (po + i * 4) (plL q)):=hpc
 clear hqc hwc hpc hy0 hz0
 go_loopw [69] (fun i wr=>∃ k:Nat,k ≤ np ∧ i = .int .i64 k ∧ Below V.heap.size V wr) (fun i _=>np - (intOf i).toNat)
 case atStart=>exact ⟨0,Nat.zero_le _,rfl,Below.refl _ _⟩
 case round =>
  obtain ⟨k,hk,rfl,hbr⟩:=hrel
  by_cases hlt:k < np
  ·have hlt':(k:Int) < (np:Int):=by omega
   obtain ⟨z,hz⟩:∃ z,ps[k]? = some z:=⟨_,List.getElem?_eq_getElem (by rw [← H2.out];exact hlt)⟩
   obtain ⟨qx,qy,hq⟩:∃ qx qy:Int,(placesM ns bs ps np)[k]? = some ⟨qx,qy,z.w,z.h⟩:=by
    have h1:=placesM_at ns bs ps np k hlt
    have h2:ps.getD k pl0 = z:=by rw [List.getD_eq_getElem?_getD,hz];rfl
    rw [h2] at h1
    by_cases h3:(bs.getD k bx0).kd = 2
    ·rw [if_pos h3] at h1
     exact ⟨z.x,z.y,h1⟩
    ·rw [if_neg h3] at h1
     exact ⟨_,_,h1⟩
   have rq:=HQC.out k _ hq
   have rw9:=HWC.out k _ hq
   have rz:=HPC.out k z hz
   obtain ⟨p0,p1,p2,p3⟩:=pl_cells (pl_below rq hbr (pl_lt rq))
   obtain ⟨W1,hW1⟩:∃ W,W = wr.alloc (.cells #[.int .i64 qx,.int .i64 qy,.int .i64 z.w,.int .i64 z.h] 35):=⟨_,rfl⟩
   have bA:Below wr.heap.size wr W1:=by rw [hW1];exact (Below.refl _ _).alloc (Nat.le_refl _) _
   have b1:Below V.heap.size V W1:=hbr.trans (bA.mono hbr.size)
   have HB1:Hid (Below V.heap.size V W1):=b1
   have lx:W1.heap[wr.heap.size]? = some (.cells #[.int .i64 qx,.int .i64 qy,.int .i64 z.w,.int .i64 z.h] 35 (0,0)):=by rw [hW1];exact heap_at _ _ _ rfl
   have x0:W1.cell? ⟨wr.heap.size,0,none⟩ = some (.int .i64 qx):=(lies_cell lx 0).trans rfl
   have x1:W1.cell? ⟨wr.heap.size,1,none⟩ = some (.int .i64 qy):=(lies_cell lx 1).trans rfl
   have x2:W1.cell? ⟨wr.heap.size,2,none⟩ = some (.int .i64 z.w):=(lies_cell lx 2).trans rfl
   have x3:W1.cell? ⟨wr.heap.size,3,none⟩ = some (.int .i64 z.h):=(lies_cell lx 3).trans rfl
   obtain ⟨u0,u1,u2,u3⟩:=pl_cells (pl_below rw9 b1 (pl_lt rw9))
   obtain ⟨-,-,v2,v3⟩:=pl_cells (pl_below rz b1 (pl_lt rz))
   have lw1:=below_lies b1 HLW.out (lies_lt HLW.out)
   have lp1:=below_lies b1 HLP.out (lies_lt HLP.out)
   have c1w:W1.cell? ⟨w5.heap.size,1,none⟩ = some (.slice (some ⟨wb,wo,none⟩) np c2'):=(lies_cell lw1 1).trans rfl
   have c1p:W1.cell? ⟨w1.heap.size,1,none⟩ = some (.slice (some ⟨pb,po,none⟩) np pc):=(lies_cell lp1 1).trans rfl
   have NE:=nePl_run qx qy z.w z.h
   have GD:=fun (w:World) (xo yo:Operand)=>run_eqGuard_agg (P:=Tryz.prog) w .neq 35 xo yo #[.int .i64 qx,.int .i64 qy,.int .i64 z.w,.int .i64 z.h] #[.int .i64 qx,.int .i64 qy,.int .i64 z.w,.int .i64 z.h] eqPl_guard
   clear rq rw9 rz hq hz bA b1 lx lw1 lp1 hbr
   go_upto_region 13 with fail
   rw [← hW1]
   clear hW1 p0 p1 p2 p3
   go_quiet (fail)
   all_goals
    go_wp2_with fail
    go_roundw
    case rel=>exact ⟨k + 1,by omega,by go_num,below_drewN HB1.out _⟩
    case measure=>simp [intOf];omega
  ·have hlt':¬ ((k:Int) < (np:Int)):=by omega
   have HB1:Hid (Below V.heap.size V wr):=hbr
   have lq1:=below_lies hbr HLQ.out (lies_lt HLQ.out)
   have c2q:wr.cell? ⟨w3.heap.size,2,none⟩ = some (.slice a3 nl c3):=(lies_cell lq1 2).trans rfl
   clear lq1 hbr hk hlt
   go_wp2_with fail
   go_loopw [107] (fun i wr=>∃ j:Nat,j ≤ nl ∧ i = .int .i64 j ∧ Below V.heap.size V wr) (fun i _=>nl - (intOf i).toNat)
   case atStart=>exact ⟨0,Nat.zero_le _,rfl,HB1.out⟩
   case round =>
    clear HB1 c2q
    obtain ⟨j,hj,rfl,hbr⟩:=hrel
    obtain ⟨wz,hwz⟩:∃ W,W = wr:=⟨_,rfl⟩
    subst hwz
    by_cases hjl:j < nl
    ·have hjl':(j:Int) < (nl:Int):=by omega
     obtain ⟨x,hx⟩:∃ x,ls[j]? = some x:=⟨_,List.getElem?_eq_getElem (by rw [← H3.out];exact hjl)⟩
     obtain ⟨qx,qy,hq⟩:∃ qx qy:Int,(linesM ns bs ls nl)[j]? = some ⟨x.bx,qx,qy,x.w,x.h,x.tx⟩:=by
      have h1:=linesM_at ns bs ls nl j hjl
      have h2:ls.getD j ln0 = x:=by rw [List.getD_eq_getElem?_getD,hx];rfl
      rw [h2] at h1
      exact ⟨_,_,h1⟩
     obtain ⟨eb,eo,hea,hec⟩:=ln_some9 HRL.out hq
     obtain ⟨fb,fo,hfa,hfc⟩:=ln_some9 HRL'.out hq
     obtain ⟨lb,lo,hla,hlc⟩:=ln_some9 HRP.out.rl hx
     subst hea
     subst hfa
     have hla':la = some ⟨lb,lo,none⟩:=hla
     subst hla'
     have re:=hec j _ hq
     have rf:=hfc j _ hq
     have rl:=hlc j x hx
     have re':=ln_below re hbr (ln_lt re)
     have p0:wz.cell? ⟨eb,eo + j * 6,none⟩ = some (.int .i64 x.bx):=re' 0 _ rfl
     have p1:wz.cell? ⟨eb,eo + j * 6 + 1,none⟩ = some (.int .i64 qx):=re' 1 _ rfl
     have p2:wz.cell? ⟨eb,eo + j * 6 + 2,none⟩ = some (.int .i64 qy):=re' 2 _ rfl
     have p3:wz.cell? ⟨eb,eo + j * 6 + 3,none⟩ = some (.int .i64 x.w):=re' 3 _ rfl
     have p4:wz.cell? ⟨eb,eo + j * 6 + 4,none⟩ = some (.int .i64 x.h):=re' 4 _ rfl
     have p5:wz.cell? ⟨eb,eo + j * 6 + 5,none⟩ = some (.string x.tx):=re' 5 _ rfl
     obtain ⟨W1,hW1⟩:∃ W,W = wz.alloc (.cells #[.int .i64 x.bx,.int .i64 qx,.int .i64 qy,.int .i64 x.w,.int .i64 x.h,.string x.tx] 37):=⟨_,rfl⟩
     have bA:Below wz.heap.size wz W1:=by rw [hW1];exact (Below.refl _ _).alloc (Nat.le_refl _) _
     have b1:Below V.heap.size V W1:=hbr.trans (bA.mono hbr.size)
     have HB1:Hid (Below V.heap.size V W1):=b1
     have lx:W1.heap[wz.heap.size]? = some (.cells #[.int .i64 x.bx,.int .i64 qx,.int .i64 qy,.int .i64 x.w,.int .i64 x.h,.string x.tx] 37 (0,0)):=by rw [hW1];exact heap_at _ _ _ rfl
     have x0:W1.cell? ⟨wz.heap.size,0,none⟩ = some (.int .i64 x.bx):=(lies_cell lx 0).trans rfl
     have x1:W1.cell? ⟨wz.heap.size,1,none⟩ = some (.int .i64 qx):=(lies_cell lx 1).trans rfl
     have x2:W1.cell? ⟨wz.heap.size,2,none⟩ = some (.int .i64 qy):=(lies_cell lx 2).trans rfl
     have x3:W1.cell? ⟨wz.heap.size,3,none⟩ = some (.int .i64 x.w):=(lies_cell lx 3).trans rfl
     have x4:W1.cell? ⟨wz.heap.size,4,none⟩ = some (.int .i64 x.h):=(lies_cell lx 4).trans rfl
     have x5:W1.cell? ⟨wz.heap.size,5,none⟩ = some (.string x.tx):=(lies_cell lx 5).trans rfl
     have rf':=ln_below rf b1 (ln_lt rf)
     have u0:W1.cell? ⟨fb,fo + j * 6,none⟩ = some (.int .i64 x.bx):=rf' 0 _ rfl
     have u1:W1.cell? ⟨fb,fo + j * 6 + 1,none⟩ = some (.int .i64 qx):=rf' 1 _ rfl
     have u2:W1.cell? ⟨fb,fo + j * 6 + 2,none⟩ = some (.int .i64 qy):=rf' 2 _ rfl
     have u3:W1.cell? ⟨fb,fo + j * 6 + 3,none⟩ = some (.int .i64 x.w):=rf' 3 _ rfl
     have u4:W1.cell? ⟨fb,fo + j * 6 + 4,none⟩ = some (.int .i64 x.h):=rf' 4 _ rfl
     have u5:W1.cell? ⟨fb,fo + j * 6 + 5,none⟩ = some (.string x.tx):=rf' 5 _ rfl
     have rl':=ln_below rl b1 (ln_lt rl)
     have v0:W1.cell? ⟨lb,lo + j * 6,none⟩ = some (.int .i64 x.bx):=rl' 0 _ rfl
     have v5:W1.cell? ⟨lb,lo + j * 6 + 5,none⟩ = some (.string x.tx):=rl' 5 _ rfl
     have lw1:=below_lies b1 HLW.out (lies_lt HLW.out)
     have lp1:=below_lies b1 HLP.out (lies_lt HLP.out)
     have c2w:W1.cell? ⟨w5.heap.size,2,none⟩ = some (.slice (some ⟨fb,fo,none⟩) nl c3'):=(lies_cell lw1 2).trans rfl
     have c2p:W1.cell? ⟨w1.heap.size,2,none⟩ = some (.slice (some ⟨lb,lo,none⟩) nl lc):=(lies_cell lp1 2).trans rfl
     have NE:=neLn_run x.bx qx qy x.w x.h x.tx
     have GD:=fun (w:World) (xo yo:Operand)=>run_eqGuard_agg (P:=Tryz.prog) w .neq 37 xo yo #[.int .i64 x.bx,.int .i64 qx,.int .i64 qy,.int .i64 x.w,.int .i64 x.h,.string x.tx] #[.int .i64 x.bx,.int .i64 qx,.int .i64 qy,.int .i64 x.w,.int .i64 x.h,.string x.tx] eqLn_guard
     clear re re' rf rf' rl rl' hx hq hec hfc hlc bA b1 lx lw1 lp1 hbr
     go_upto_region 19 with fail
     rw [← hW1]
     clear hW1 p0 p1 p2 p3 p4 p5
     go_quiet (fail)
     all_goals
      go_wp2_with fail
      go_roundw
      case rel=>exact ⟨j + 1,by omega,by go_num,below_drewN HB1.out _⟩
      case measure=>simp [intOf];omega
    ·have hjl':¬ ((j:Int) < (nl:Int)):=by omega
     have HB1:Hid (Below V.heap.size V wz):=hbr
     have lp1:=below_lies hbr HLP.out (lies_lt HLP.out)
     have c1p:wz.cell? ⟨w1.heap.size,1,none⟩ = some (.slice (some ⟨pb,po,none⟩) np pc):=(lies_cell lp1 1).trans rfl
     clear lp1 hbr hj hjl
     go_wp2_with fail
     go_loopw [145] (fun i wr=>∃ k:Nat,k ≤ np ∧ i = .int .i64 k ∧ Below V.heap.size V wr) (fun i _=>np - (intOf i).toNat)
     case atStart=>exact ⟨0,Nat.zero_le _,rfl,HB1.out⟩
     case round =>
      clear HB1 c1p
      obtain ⟨k,hk,rfl,hbr⟩:=hrel
      obtain ⟨wy,hwy⟩:∃ W,W = wr:=⟨_,rfl⟩
      subst hwy
      by_cases hlt:k < np
      ·have hlt':(k:Int) < (np:Int):=by omega
       obtain ⟨q,hq⟩:∃ q,ps[k]? = some q:=⟨_,List.getElem?_eq_getElem (by rw [← H2.out];exact hlt)⟩
       obtain ⟨b,hb⟩:∃ b,bs[k]? = some b:=⟨_,List.getElem?_eq_getElem (by rw [← H1.out];exact hlt)⟩
       obtain ⟨bb,bo,hba,hbc⟩:=bx_some HRP.out.rb hb
       have hba':ba = some ⟨bb,bo,none⟩:=hba
       subst hba'
       have rq:=HPC.out k q hq
       obtain ⟨p0,p1,p2,p3⟩:=pl_cells (pl_below rq hbr (pl_lt rq))
       obtain ⟨W1,hW1⟩:∃ W,W = wy.alloc (.cells #[.int .i64 q.x,.int .i64 q.y,.int .i64 q.w,.int .i64 q.h] 35):=⟨_,rfl⟩
       have bA:Below wy.heap.size wy W1:=by rw [hW1];exact (Below.refl _ _).alloc (Nat.le_refl _) _
       have b1:Below V.heap.size V W1:=hbr.trans (bA.mono hbr.size)
       have lx:W1.heap[wy.heap.size]? = some (.cells #[.int .i64 q.x,.int .i64 q.y,.int .i64 q.w,.int .i64 q.h] 35 (0,0)):=by rw [hW1];exact heap_at _ _ _ rfl
       have lpy:=below_lies hbr HLP.out (lies_lt HLP.out)
       have g0:∀ o,(wy.alloc o).cell? ⟨w1.heap.size,0,none⟩ = some (.slice (some ⟨bb,bo,none⟩) np bc):=fun o=>(lies_cell (heap_in lpy) 0).trans rfl
       have g1:∀ o,(wy.alloc o).cell? ⟨w1.heap.size,1,none⟩ = some (.slice (some ⟨pb,po,none⟩) np pc):=fun o=>(lies_cell (heap_in lpy) 1).trans rfl
       have g2:∀ o,(wy.alloc o).cell? ⟨w1.heap.size,2,none⟩ = some (.slice la nl lc):=fun o=>(lies_cell (heap_in lpy) 2).trans rfl
       have g3:∀ o,(wy.alloc o).cell? ⟨w1.heap.size,3,none⟩ = some (.slice fa nf fc):=fun o=>(lies_cell (heap_in lpy) 3).trans rfl
       have g4:∀ o,(wy.alloc o).cell? ⟨w1.heap.size,4,none⟩ = some (.int .i64 hi):=fun o=>(lies_cell (heap_in lpy) 4).trans rfl
       have hln:PgLen ⟨some ⟨bb,bo,none⟩,bc,bs,some ⟨pb,po,none⟩,pc,ps,la,lc,ls,fa,fc,fs,hi⟩ 1048576:=⟨by show bs.length ≤ _;have:=H1.out;omega,by show ps.length ≤ _;have:=H2.out;omega,by show ls.length ≤ _;have:=H3.out;omega,by show fs.length ≤ _;have:=H4.out;omega⟩
       have eK:(#[.slice (some ⟨bb,bo,none⟩) bs.length bc,.slice (some ⟨pb,po,none⟩) ps.length pc,.slice la ls.length lc,.slice fa fs.length fc,.int .i64 hi]:Array Value) = #[.slice (some ⟨bb,bo,none⟩) np bc,.slice (some ⟨pb,po,none⟩) np pc,.slice la nl lc,.slice fa nf fc,.int .i64 hi]:=by rw [← H1.out,← H2.out,← H3.out,← H4.out]
       have BAI:Hid (∀ W:World,Below V.heap.size V W → Calls Tryz.prog 7 #[.agg #[.slice (some ⟨bb,bo,none⟩) np bc,.slice (some ⟨pb,po,none⟩) np pc,.slice la nl lc,.slice fa nf fc,.int .i64 hi],.int .i64 q.x,.int .i64 q.y] W fun e w'=>e = .returned (.tuple #[.int .i64 (baV ⟨some ⟨bb,bo,none⟩,bc,bs,some ⟨pb,po,none⟩,pc,ps,la,lc,ls,fa,fc,fs,hi⟩ q.x q.y),.bool (baB ⟨some ⟨bb,bo,none⟩,bc,bs,some ⟨pb,po,none⟩,pc,ps,la,lc,ls,fa,fc,fs,hi⟩ q.x q.y)]) ∧ Below W.heap.size W w'):=fun W hW=>by
        have h:=implBoxAt9 ⟨some ⟨bb,bo,none⟩,bc,bs,some ⟨pb,po,none⟩,pc,ps,la,lc,ls,fa,fc,fs,hi⟩ q.x q.y W (HRP.out.below hW) hln HNEAR.out
        have h2:Calls Tryz.prog 7 #[.agg #[.slice (some ⟨bb,bo,none⟩) bs.length bc,.slice (some ⟨pb,po,none⟩) ps.length pc,.slice la ls.length lc,.slice fa fs.length fc,.int .i64 hi],.int .i64 q.x,.int .i64 q.y] W fun e w'=>e = .returned (.tuple #[.int .i64 (baV ⟨some ⟨bb,bo,none⟩,bc,bs,some ⟨pb,po,none⟩,pc,ps,la,lc,ls,fa,fc,fs,hi⟩ q.x q.y),.bool (baB ⟨some ⟨bb,bo,none⟩,bc,bs,some ⟨pb,po,none⟩,pc,ps,la,lc,ls,fa,fc,fs,hi⟩ q.x q.y)]) ∧ Below W.heap.size W w':=h
        rw [eK] at h2
        exact h2
       have BAS:Hid (∀ W:World,Below V.heap.size V W → Calls Tryz.prog 8 #[.agg #[.slice (some ⟨bb,bo,none⟩) np bc,.slice (some ⟨pb,po,none⟩) np pc,.slice la nl lc,.slice fa nf fc,.int .i64 hi],.int .i64 q.x,.int .i64 q.y] W fun e w'=>e = .returned (.tuple #[.int .i64 (baV ⟨some ⟨bb,bo,none⟩,bc,bs,some ⟨pb,po,none⟩,pc,ps,la,lc,ls,fa,fc,fs,hi⟩ q.x q.y),.bool (baB ⟨some ⟨bb,bo,none⟩,bc,bs,some ⟨pb,po,none⟩,pc,ps,la,lc,ls,fa,fc,fs,hi⟩ q.x q.y)]) ∧ Below W.heap.size W w'):=fun W hW=>by
        have h:=specBoxAt_any ⟨some ⟨bb,bo,none⟩,bc,bs,some ⟨pb,po,none⟩,pc,ps,la,lc,ls,fa,fc,fs,hi⟩ q.x q.y W (HRP.out.below hW) hln
        have h2:Calls Tryz.prog 8 #[.agg #[.slice (some ⟨bb,bo,none⟩) bs.length bc,.slice (some ⟨pb,po,none⟩) ps.length pc,.slice la ls.length lc,.slice fa fs.length fc,.int .i64 hi],.int .i64 q.x,.int .i64 q.y] W fun e w'=>e = .returned (.tuple #[.int .i64 (baV ⟨some ⟨bb,bo,none⟩,bc,bs,some ⟨pb,po,none⟩,pc,ps,la,lc,ls,fa,fc,fs,hi⟩ q.x q.y),.bool (baB ⟨some ⟨bb,bo,none⟩,bc,bs,some ⟨pb,po,none⟩,pc,ps,la,lc,ls,fa,fc,fs,hi⟩ q.x q.y)]) ∧ Below W.heap.size W w':=h
        rw [eK] at h2
        exact h2
       have HAT:Hid (¬ b.kd = 2 → 0 < q.w → 0 < q.h → baB ⟨some ⟨bb,bo,none⟩,bc,bs,some ⟨pb,po,none⟩,pc,ps,la,lc,ls,fa,fc,fs,hi⟩ q.x q.y = true → (k:Int) ≤ baV ⟨some ⟨bb,bo,none⟩,bc,bs,some ⟨pb,po,none⟩,pc,ps,la,lc,ls,fa,fc,fs,hi⟩ q.x q.y):=fun h1 h2 h3 h4=>ba_at (P:=⟨some ⟨bb,bo,none⟩,bc,bs,some ⟨pb,po,none⟩,pc,ps,la,lc,ls,fa,fc,fs,hi⟩) hb hq h1 h2 h3 h4
       generalize baV ⟨some ⟨bb,bo,none⟩,bc,bs,some ⟨pb,po,none⟩,pc,ps,la,lc,ls,fa,fc,fs,hi⟩ q.x q.y = at9 at BAI BAS HAT
       generalize baB ⟨some ⟨bb,bo,none⟩,bc,bs,some ⟨pb,po,none⟩,pc,ps,la,lc,ls,fa,fc,fs,hi⟩ q.x q.y = fd9 at BAI BAS HAT
       have HBC:Hid (∀ W,Below V.heap.size V W → W.cell? ⟨bb,bo + k * 4,none⟩ = some (.int .i64 b.kd)):=fun W hW=>(bx_cells (bx_below (hbc k b hb) hW (bx_lt (hbc k b hb)))).1
       have HB1:Hid (Below V.heap.size V W1):=b1
       have HLX:Hid (W1.heap[wy.heap.size]? = some (.cells #[.int .i64 q.x,.int .i64 q.y,.int .i64 q.w,.int .i64 q.h] 35 (0,0))):=lx
       clear rq hq hb hbc hba bA b1 lx lpy hln eK hbr
       go_wp2_with fail
       rw [← hW1]
       clear hW1 p0 p1 p2 p3 g0 g1 g2 g3 g4
       refine (BAI.out W1 HB1.out).mono ?_
       rintro e w6 ⟨rfl,b6⟩
       have B6:Below V.heap.size V w6:=HB1.out.trans (b6.mono HB1.out.size)
       have lp6:=below_lies B6 HLP.out (lies_lt HLP.out)
       have lx6:=below_lies b6 HLX.out (lies_lt HLX.out)
       have f0:w6.cell? ⟨w1.heap.size,0,none⟩ = some (.slice (some ⟨bb,bo,none⟩) np bc):=(lies_cell lp6 0).trans rfl
       have f1:w6.cell? ⟨w1.heap.size,1,none⟩ = some (.slice (some ⟨pb,po,none⟩) np pc):=(lies_cell lp6 1).trans rfl
       have f2:w6.cell? ⟨w1.heap.size,2,none⟩ = some (.slice la nl lc):=(lies_cell lp6 2).trans rfl
       have f3:w6.cell? ⟨w1.heap.size,3,none⟩ = some (.slice fa nf fc):=(lies_cell lp6 3).trans rfl
       have f4:w6.cell? ⟨w1.heap.size,4,none⟩ = some (.int .i64 hi):=(lies_cell lp6 4).trans rfl
       have x0:w6.cell? ⟨wy.heap.size,0,none⟩ = some (.int .i64 q.x):=(lies_cell lx6 0).trans rfl
       have x1:w6.cell? ⟨wy.heap.size,1,none⟩ = some (.int .i64 q.y):=(lies_cell lx6 1).trans rfl
       have HL6:Hid (w6.heap[wy.heap.size]? = some (.cells #[.int .i64 q.x,.int .i64 q.y,.int .i64 q.w,.int .i64 q.h] 35 (0,0))):=lx6
       have HB6:Hid (Below V.heap.size V w6):=B6
       clear BAI b6 B6 lp6 lx6 HLX HB1
       go_wp2_with fail
       refine (BAS.out w6 HB6.out).mono ?_
       rintro e w7 ⟨rfl,b7⟩
       have B7:Below V.heap.size V w7:=HB6.out.trans (b7.mono HB6.out.size)
       have lp7:=below_lies B7 HLP.out (lies_lt HLP.out)
       have lx7:=below_lies b7 HL6.out (lies_lt HL6.out)
       have h0:w7.cell? ⟨w1.heap.size,0,none⟩ = some (.slice (some ⟨bb,bo,none⟩) np bc):=(lies_cell lp7 0).trans rfl
       have y2:w7.cell? ⟨wy.heap.size,2,none⟩ = some (.int .i64 q.w):=(lies_cell lx7 2).trans rfl
       have y3:w7.cell? ⟨wy.heap.size,3,none⟩ = some (.int .i64 q.h):=(lies_cell lx7 3).trans rfl
       have kd7:=HBC.out w7 B7
       have HB7:Hid (Below V.heap.size V w7):=B7
       clear BAS b7 B7 lp7 lx7 HL6 HB6 f0 f1 f2 f3 f4 x0 x1
       rcases Bool.eq_false_or_eq_true fd9 with hf | hf
       rotate_left
       ·subst hf
        go_wp2_with fail
        go_roundw
        case rel=>exact ⟨k + 1,by omega,by go_num,HB7.out⟩
        case measure=>simp [intOf];omega
       ·subst hf
        by_cases h1:b.kd = 2
        ·go_wp2_with fail
         go_roundw
         case rel=>exact ⟨k + 1,by omega,by go_num,HB7.out⟩
         case measure=>simp [intOf];omega
        ·by_cases h2:0 < q.w
         rotate_left
         ·go_wp2_with fail
          go_roundw
          case rel=>exact ⟨k + 1,by omega,by go_num,HB7.out⟩
          case measure=>simp [intOf];omega
         ·by_cases h3:0 < q.h
          rotate_left
          ·go_wp2_with fail
           go_roundw
           case rel=>exact ⟨k + 1,by omega,by go_num,HB7.out⟩
           case measure=>simp [intOf];omega
          ·have hat:¬ (at9 < (k:Int)):=Int.not_lt.2 (HAT.out h1 h2 h3 rfl)
           go_wp2_with fail
           go_roundw
           case rel=>exact ⟨k + 1,by omega,by go_num,HB7.out⟩
           case measure=>simp [intOf];omega
      ·have hlt':¬ ((k:Int) < (np:Int)):=by omega
       have HBF:Hid (Below w.heap.size w wy):=HBV.out.trans (hbr.mono HBV.out.size)
       clear hbr
       go_wp2
       go_ret
       exact ⟨rfl,HBF.out⟩
end Go.Proofs.YtjnmloaopnbpgaaGreatDoor
