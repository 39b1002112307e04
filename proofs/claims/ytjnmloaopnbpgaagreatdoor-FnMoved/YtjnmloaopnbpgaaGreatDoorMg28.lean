/-
 Contract of MovePage of the model.
-/
import Derived.Test.YtjnmloaopnbpgaaGreatDoorMg27
namespace Go.Proofs.YtjnmloaopnbpgaaGreatDoor
open Go.ChangeShapes Go.WideShapes Go.ChangeAt Go.RowKit
set_option linter.unusedVariables false
theorem infoPlc8:(Tryz.prog.info? 35).map (fun i=>(i.zero,i.size,i.bytes)) = some (some (.agg #[.int .i64 0,.int .i64 0,.int .i64 0,.int .i64 0]),4,32):=by kernel_rfl
set_option maxRecDepth 1000000 in
set_option maxHeartbeats 6000000 in
theorem specMove_any (ndb noff n ncap:Nat) (ns:List Nd) (P:Pg) (w:World) (hn:n = ns.length) (hr:∀ i y,ns[i]? = some y → w.rangeAt ndb (noff + i * 28) (ndL y)) (hl:n ≤ 1048576) (hs:∀ x ∈ ns,x.tx.size ≤ 1048576)
  (hok:boxB ns = true → BsOk n (boxR ns)) (hP:PgRow w P) (h80:P.bs.length ≤ 80) (hnp:P.ps.length ≤ 80) (hnl:P.ls.length ≤ 400) (hnf:P.fs.length ≤ 1000) :
  Calls Tryz.prog 6 #[.slice (some ⟨ndb,noff,none⟩) n ncap,.agg (pgA' P)] w fun e w'=>MovRet w ns P e w':=by
 obtain ⟨ba,bc,bs,pa,pc,ps,la,lc,ls,fa,fc,fs,hi⟩:=P
 have HP:Hid (PgRow w ⟨ba,bc,bs,pa,pc,ps,la,lc,ls,fa,fc,fs,hi⟩):=hP
 obtain ⟨nb,hnb⟩:∃ k,k = bs.length:=⟨_,rfl⟩
 obtain ⟨np,hnpe⟩:∃ k,k = ps.length:=⟨_,rfl⟩
 obtain ⟨nl,hnle⟩:∃ k,k = ls.length:=⟨_,rfl⟩
 obtain ⟨nf,hnfe⟩:∃ k,k = fs.length:=⟨_,rfl⟩
 have hnb80:nb ≤ 80:=by rw [hnb];exact h80
 have hnp80:np ≤ 80:=by rw [hnpe];exact hnp
 have hnl400:nl ≤ 400:=by rw [hnle];exact hnl
 have hnf1:nf ≤ 1000:=by rw [hnfe];exact hnf
 have H1:Hid (nb = bs.length):=hnb
 have H2:Hid (np = ps.length):=hnpe
 have H3:Hid (nl = ls.length):=hnle
 have H4:Hid (nf = fs.length):=hnfe
 have HN:Hid (n = ns.length):=hn
 have HR:Hid (∀ i y,ns[i]? = some y → w.rangeAt ndb (noff + i * 28) (ndL y)):=hr
 have HOK:Hid (boxB ns = true → BsOk n (boxR ns)):=hok
 have eP:pgA' ⟨ba,bc,bs,pa,pc,ps,la,lc,ls,fa,fc,fs,hi⟩ = (#[.slice ba nb bc,.slice pa np pc,.slice la nl lc,.slice fa nf fc,.int .i64 hi]:Array Value):=by unfold pgA';simp only [← hnb,← hnpe,← hnle,← hnfe]
 rw [eP]
 obtain ⟨W0,hW0⟩:∃ W,W = (w.alloc (.cells #[.slice ba nb bc,.slice pa np pc,.slice la nl lc,.slice fa nf fc,.int .i64 hi] 29)).alloc (.cells #[.slice none 0 0,.slice none 0 0,.slice none 0 0,.slice none 0 0,.int .i64 0] 29):=⟨_,rfl⟩
 have b0:Below w.heap.size w W0:=by rw [hW0];exact ((Below.refl _ _).alloc (Nat.le_refl _) _).alloc (by simp) _
 have lG0:W0.heap[w.heap.size]? = some (.cells #[.slice ba nb bc,.slice pa np pc,.slice la nl lc,.slice fa nf fc,.int .i64 hi] 29 (0,0)):=by rw [hW0];exact heap_in (heap_at _ _ _ rfl)
 have lR0:W0.heap[w.heap.size + 1]? = some (.cells #[.slice none 0 0,.slice none 0 0,.slice none 0 0,.slice none 0 0,.int .i64 0] 29 (0,0)):=by rw [hW0];exact heap_at _ _ _ (by simp)
 have hW0s:w.heap.size + 2 ≤ W0.heap.size:=by rw [hW0];simp
 have GB:=specGoodBoxes_any (some ⟨ndb,noff,none⟩) ba ncap bc ns bs W0 (.inr ⟨ndb,noff,rfl,fun i y hy=>range_below (hr i y hy) b0 (range_lt (hr i y hy))⟩) (by rw [← hn];exact hl) hs (hP.rb.below b0) (by have h80':bs.length ≤ 80:=h80;omega)
 rw [← hn,← hnb] at GB
 have c0:∀ o,((w.alloc (.cells #[.slice ba nb bc,.slice pa np pc,.slice la nl lc,.slice fa nf fc,.int .i64 hi] 29)).alloc o).cell? ⟨w.heap.size,0,none⟩ = some (.slice ba nb bc):=fun o=>(lies_cell (heap_in (heap_at _ _ _ rfl)) 0).trans rfl
 clear hn hr hok hP h80 hnp hnl hnf hs hnb hnpe hnle hnfe eP
 go_enter Tryz.func6,Tryz.ntmps6
 go_wp2_with fail
 rw [← hW0]
 clear hW0 c0
 refine GB.mono ?_
 rintro e w1 ⟨rfl,hb1⟩
 have b1:=b0.trans (hb1.mono b0.size)
 have lG1:=below_lies hb1 lG0 (lies_lt lG0)
 have lR1:=below_lies hb1 lR0 (lies_lt lR0)
 have c0:w1.cell? ⟨w.heap.size,0,none⟩ = some (.slice ba nb bc):=(lies_cell lG1 0).trans rfl
 have c1:w1.cell? ⟨w.heap.size,1,none⟩ = some (.slice pa np pc):=(lies_cell lG1 1).trans rfl
 have c2:w1.cell? ⟨w.heap.size,2,none⟩ = some (.slice la nl lc):=(lies_cell lG1 2).trans rfl
 clear GB lG0 lR0
 rcases Bool.eq_false_or_eq_true (gbB ns bs) with hG | hG
 rotate_left
 ·rw [hG]
  have HF:Hid (mvB ns ⟨ba,bc,bs,pa,pc,ps,la,lc,ls,fa,fc,fs,hi⟩ = false):=mvB_no1 hG
  go_wp2_with (first | ((with_reducible show wpList _ _ _ (⟨none,Op.store 29 (Operand.tmp 4) _,_,_,_,_⟩ :: _) _ _);refine wpList_putA rfl _ _ _ rfl rfl (w.heap.size + 1) 0 5 (#[.slice none 0 0,.slice none 0 0,.slice none 0 0,.slice none 0 0,.int .i64 0]:Array Value).toList _ _ rfl rfl lR1 rfl (by kernel_rfl) (by kernel_rfl) (by kernel_rfl) ?_;intro W9 p9 l9 n9;refine stayM ?_) | fail)
  have lZ:W9.heap[w.heap.size + 1]? = some (.cells #[.slice none 0 0,.slice none 0 0,.slice none 0 0,.slice none 0 0,.int .i64 0] 29 (0,0)):=l9.trans (congrArg (fun c=>some (Obj.cells c 29 (0,0))) (show _ = (#[.slice none 0 0,.slice none 0 0,.slice none 0 0,.slice none 0 0,.int .i64 0]:Array Value) by kernel_rfl))
  have b9:=p9.below b1 (Nat.le_succ _)
  unfold StayM
  clear l9 p9 n9
  go_wp2
  exact bodyPost_ret (v:=.tuple #[.agg #[.slice none 0 0,.slice none 0 0,.slice none 0 0,.slice none 0 0,.int .i64 0],.bool false]) (results_row_tmp Tryz.results6 _ _ (w.heap.size + 1) _ _ _ _ (.bool false) rfl lZ Tryz.underlying29 rfl (by kernel_rfl) rfl) rfl (movRet_no HF.out b9)
 have HGB:Hid (gbB ns bs = true):=hG
 rw [hG]
 by_cases hnn:np = nb
 rotate_left
 ·have HF:Hid (mvB ns ⟨ba,bc,bs,pa,pc,ps,la,lc,ls,fa,fc,fs,hi⟩ = false):=mvB_no2 (by show ¬ ps.length = bs.length;rw [← H1.out,← H2.out];exact hnn)
  have hnn':¬ ((np:Int) = (nb:Int)):=by omega
  go_wp2_with (first | ((with_reducible show wpList _ _ _ (⟨none,Op.store 29 (Operand.tmp 4) _,_,_,_,_⟩ :: _) _ _);refine wpList_putA rfl _ _ _ rfl rfl (w.heap.size + 1) 0 5 (#[.slice none 0 0,.slice none 0 0,.slice none 0 0,.slice none 0 0,.int .i64 0]:Array Value).toList _ _ rfl rfl lR1 rfl (by kernel_rfl) (by kernel_rfl) (by kernel_rfl) ?_;intro W9 p9 l9 n9;refine stayM ?_) | fail)
  have lZ:W9.heap[w.heap.size + 1]? = some (.cells #[.slice none 0 0,.slice none 0 0,.slice none 0 0,.slice none 0 0,.int .i64 0] 29 (0,0)):=l9.trans (congrArg (fun c=>some (Obj.cells c 29 (0,0))) (show _ = (#[.slice none 0 0,.slice none 0 0,.slice none 0 0,.slice none 0 0,.int .i64 0]:Array Value) by kernel_rfl))
  have b9:=p9.below b1 (Nat.le_succ _)
  unfold StayM
  clear l9 p9 n9
  go_wp2
  exact bodyPost_ret (v:=.tuple #[.agg #[.slice none 0 0,.slice none 0 0,.slice none 0 0,.slice none 0 0,.int .i64 0],.bool false]) (results_row_tmp Tryz.results6 _ _ (w.heap.size + 1) _ _ _ _ (.bool false) rfl lZ Tryz.underlying29 rfl (by kernel_rfl) rfl) rfl (movRet_no HF.out b9)
 subst hnn
 have hBO:BsOk n bs:=by
  unfold gbB at hG
  rw [Bool.and_eq_true] at hG
  have h1:=HOK.out hG.1
  rw [sameX_eq hG.2] at h1
  exact h1
 have HBO:Hid (BsOk n bs):=hBO
 have hpos:0 < np:=by rw [H1.out];exact hBO.pos
 obtain ⟨x0,hx0⟩:∃ x,bs[0]? = some x:=⟨_,List.getElem?_eq_getElem hBO.pos⟩
 obtain ⟨bb,boff,hba,hbc⟩:=bx_some HP.out.rb hx0
 subst hba
 obtain ⟨q0,hq0⟩:∃ q,ps[0]? = some q:=⟨_,List.getElem?_eq_getElem (by rw [← H2.out];exact hpos)⟩
 obtain ⟨pb,poff,hpa,hpc⟩:=pl_some HP.out.rp hq0
 subst hpa
 have HPC:Hid (∀ i q,ps[i]? = some q → w.rangeAt pb (poff + i * 4) (plL q)):=hpc
 have HBC:Hid (∀ i x,bs[i]? = some x → w.rangeAt bb (boff + i * 4) (bxL x)):=hbc
 have hbb:bb < w.heap.size:=bx_lt (hbc 0 x0 hx0)
 have hpb:pb < w.heap.size:=pl_lt (hpc 0 q0 hq0)
 have hnl4:¬ ((400:Int) < (nl:Int)):=by omega
 have MK:=makeI_run np hnp80
 have HM1:Hid (w1.heap[w.heap.size]? = some (.cells (pgA' ⟨some ⟨bb,boff,none⟩,bc,bs,some ⟨pb,poff,none⟩,pc,ps,la,lc,ls,fa,fc,fs,hi⟩) 29 (0,0)) ∧ w1.heap[w.heap.size + 1]? = some (.cells #[.slice none 0 0,.slice none 0 0,.slice none 0 0,.slice none 0 0,.int .i64 0] 29 (0,0)) ∧ Below w.heap.size w w1):=⟨lG1.trans (by unfold pgA';simp only [← H1.out,← H2.out,← H3.out,← H4.out]),lR1,b1⟩
 have c0':∀ o,(w1.alloc o).cell? ⟨w.heap.size,0,none⟩ = some (.slice (some ⟨bb,boff,none⟩) np bc):=fun o=>(World.cell?_alloc_lt _ _ _ (lies_lt lG1)).trans c0
 have c0'':∀ o o',((w1.alloc o).alloc o').cell? ⟨w.heap.size,0,none⟩ = some (.slice (some ⟨bb,boff,none⟩) np bc):=fun o o'=>(World.cell?_alloc_lt _ _ _ (by have:=lies_lt lG1;simp;omega)).trans (c0' o)
 have hg1:w.heap.size + 1 < w1.heap.size:=lies_lt lR1
 clear lG1 lR1 b0 b1 hb1 hbc hpc hx0 hq0 hG hBO
 go_wp2_with fail
 go_loopw [47] (fun i wr=>∃ (k:Nat) (R D:List Int),k ≤ np ∧ i = .int .i64 k ∧ MvAt w wr w1.heap.size (w1.heap.size + 1) (.cells (numsV R).toArray 3 (0,0)) (.cells (numsV D).toArray 3 (0,0)) ⟨some ⟨bb,boff,none⟩,bc,bs,some ⟨pb,poff,none⟩,pc,ps,la,lc,ls,fa,fc,fs,hi⟩ ∧ R.length = np ∧ D.length = np ∧ StAt (fun s=>s.ri) ns bs 1 0 k R ∧ StAt (fun s=>s.dn) ns bs 1 0 k D) (fun i _=>np - (intOf i).toNat)
 case atStart =>
  have hb:Below w1.heap.size w1 ((w1.alloc (.cells (numsV (List.replicate np 0)).toArray 3)).alloc (.cells (numsV (List.replicate np 0)).toArray 3)):=((Below.refl _ _).alloc (Nat.le_refl _) _).alloc (by simp) _
  exact ⟨0,List.replicate np 0,List.replicate np 0,Nat.zero_le _,rfl,⟨below_lies hb HM1.out.1 (lies_lt HM1.out.1),below_lies hb HM1.out.2.1 (lies_lt HM1.out.2.1),heap_in (heap_at _ _ _ rfl),heap_at _ _ _ (by simp),HM1.out.2.2.trans (hb.mono HM1.out.2.2.size)⟩,by simp,by simp,stAt_zero _ _ _ _ _ _,stAt_zero _ _ _ _ _ _⟩
 case round =>
  clear c0 c1 c2 c0' c0'' HM1 MK
  obtain ⟨k,R,D,hk,rfl,hMA,hlR,hlD,hsR,hsD⟩:=hrel
  have HMA:Hid (MvAt w wr w1.heap.size (w1.heap.size + 1) (.cells (numsV R).toArray 3 (0,0)) (.cells (numsV D).toArray 3 (0,0)) ⟨some ⟨bb,boff,none⟩,bc,bs,some ⟨pb,poff,none⟩,pc,ps,la,lc,ls,fa,fc,fs,hi⟩):=hMA
  have HS:Hid (R.length = np ∧ D.length = np ∧ StAt (fun s=>s.ri) ns bs 1 0 k R ∧ StAt (fun s=>s.dn) ns bs 1 0 k D):=⟨hlR,hlD,hsR,hsD⟩
  clear hlR hlD hsR hsD
  by_cases hlt:k < np
  ·have hlt':(k:Int) < (np:Int):=by omega
   obtain ⟨x,hx⟩:∃ x,bs[k]? = some x:=⟨_,List.getElem?_eq_getElem (by rw [← H1.out];exact hlt)⟩
   obtain ⟨p0,p1,p2,p3⟩:=bx_cells (bx_below (HBC.out k x hx) hMA.bel hbb)
   obtain ⟨q,hq,hqn⟩:=HBO.out.nd k x hx
   obtain ⟨u0,u1⟩:=HBO.out.up k x hx
   obtain ⟨y,hy⟩:∃ y,ns[q]? = some y:=⟨_,List.getElem?_eq_getElem (by rw [← HN.out];exact hqn)⟩
   have HX:Hid (bs[k]? = some x):=hx
   have HY:Hid (ns[q]? = some y):=hy
   have HQ:Hid (x.nd = (q:Int)):=hq
   have HKB:Hid (k < bs.length):=by show k < bs.length;rw [← H1.out];exact hlt
   obtain ⟨W1,hW1⟩:∃ W,W = wr.alloc (.cells #[.int .i64 x.kd,.int .i64 x.nd,.int .i64 x.up,.string x.tx] 41):=⟨_,rfl⟩
   have bA:Below wr.heap.size wr W1:=by rw [hW1];exact (Below.refl _ _).alloc (Nat.le_refl _) _
   have M1:=hMA.below bA
   have HM1:Hid (MvAt w W1 w1.heap.size (w1.heap.size + 1) (.cells (numsV R).toArray 3 (0,0)) (.cells (numsV D).toArray 3 (0,0)) ⟨some ⟨bb,boff,none⟩,bc,bs,some ⟨pb,poff,none⟩,pc,ps,la,lc,ls,fa,fc,fs,hi⟩):=M1
   have lx:W1.heap[wr.heap.size]? = some (.cells #[.int .i64 x.kd,.int .i64 x.nd,.int .i64 x.up,.string x.tx] 41 (0,0)):=by rw [hW1];exact heap_at _ _ _ rfl
   have HLX:Hid (W1.heap[wr.heap.size]? = some (.cells #[.int .i64 x.kd,.int .i64 x.nd,.int .i64 x.up,.string x.tx] 41 (0,0))):=lx
   have c2:W1.cell? ⟨wr.heap.size,2,none⟩ = some (.int .i64 x.up):=(lies_cell lx 2).trans rfl
   have hgR:w1.heap.size < wr.heap.size:=lies_lt hMA.st
   have hgD:w1.heap.size + 1 < wr.heap.size:=lies_lt hMA.bx
   clear hx hy hq hMA bA M1 lx
   go_upto_if 54 with fail
   rw [← hW1]
   clear hW1 p0 p1 p2 p3
   go_cut [] from 54 to 70 (fun wx=>∃ R1 D1:List Int,MvAt w wx w1.heap.size (w1.heap.size + 1) (.cells (numsV R1).toArray 3 (0,0)) (.cells (numsV D1).toArray 3 (0,0)) ⟨some ⟨bb,boff,none⟩,bc,bs,some ⟨pb,poff,none⟩,pc,ps,la,lc,ls,fa,fc,fs,hi⟩ ∧ wx.heap[wr.heap.size]? = some (.cells #[.int .i64 x.kd,.int .i64 x.nd,.int .i64 x.up,.string x.tx] 41 (0,0)) ∧ R1.length = np ∧ D1.length = np ∧ R1.getD k 0 = fromM (stepsM (fun s=>s.ri) ns bs k) bs k ∧ D1.getD k 0 = fromM (stepsM (fun s=>s.dn) ns bs k) bs k ∧ (∀ j,j ≠ k → R1.getD j 0 = R.getD j 0) ∧ (∀ j,j ≠ k → D1.getD j 0 = D.getD j 0))
   case first =>
    by_cases hup:0 ≤ x.up
    ·have HU:Hid (x.up = (x.up.toNat:Int)):=by show _ = _;omega
     have hum:x.up < (np:Int):=by omega
     have hRl:=HS.out.1
     have hDl:=HS.out.2.1
     have d0:W1.cell? ⟨w1.heap.size,x.up.toNat,none⟩ = some (.int .i64 (R.getD x.up.toNat 0)):=ints_cell HM1.out.st (by omega)
     have d1:W1.cell? ⟨w1.heap.size + 1,x.up.toNat,none⟩ = some (.int .i64 (D.getD x.up.toNat 0)):=ints_cell HM1.out.bx (by omega)
     have e0:W1.cell? ⟨w1.heap.size,k,none⟩ = some (.int .i64 (R.getD k 0)):=ints_cell HM1.out.st (by omega)
     have e1:W1.cell? ⟨w1.heap.size + 1,k,none⟩ = some (.int .i64 (D.getD k 0)):=ints_cell HM1.out.bx (by omega)
     have f0:=Lib.frozen_of_heap HM1.out.st k
     have f1:=Lib.frozen_of_heap HM1.out.bx k
     have HFR:Hid (fromM (stepsM (fun s=>s.ri) ns bs k) bs k = R.getD x.up.toNat 0):=(fromM_up HS.out.2.2.1 HX.out HU.out (by have:=HKB.out;omega)).trans (by rw [Nat.mul_one,Nat.add_zero])
     have HFD:Hid (fromM (stepsM (fun s=>s.dn) ns bs k) bs k = D.getD x.up.toNat 0):=(fromM_up HS.out.2.2.2 HX.out HU.out (by have:=HKB.out;omega)).trans (by rw [Nat.mul_one,Nat.add_zero])
     generalize R.getD x.up.toNat 0 = z0 at d0 HFR
     generalize D.getD x.up.toNat 0 = z1 at d1 HFD
     clear hRl hDl
     go_wp2_with fail
     go_meet
     case rel =>
      have hRl:=HS.out.1
      have hDl:=HS.out.2.1
      have l1:=ints_set HM1.out.st k z0
      have l2:((W1.setCell ⟨w1.heap.size,k,none⟩ (.int .i64 z0)).setCell ⟨w1.heap.size + 1,k,none⟩ (.int .i64 z1)).heap[w1.heap.size + 1]? = some (.cells (numsV (D.set k z1)).toArray 3 (0,0)):=ints_set ((Below.heap_setCell _ ⟨w1.heap.size,k,none⟩ _ _ (by show w1.heap.size + 1 ≠ w1.heap.size;omega)).trans HM1.out.bx) k z1
      refine ⟨R.set k z0,D.set k z1,⟨?_,?_,?_,l2,?_⟩,?_,by simp only [List.length_set];exact hRl,by simp only [List.length_set];exact hDl,?_,?_,?_,?_⟩
      ·exact (Below.heap_setCell _ _ _ _ (by show w.heap.size ≠ w1.heap.size + 1;omega)).trans ((Below.heap_setCell _ _ _ _ (by show w.heap.size ≠ w1.heap.size;omega)).trans HM1.out.pg)
      ·exact (Below.heap_setCell _ _ _ _ (by show w.heap.size + 1 ≠ w1.heap.size + 1;omega)).trans ((Below.heap_setCell _ _ _ _ (by show w.heap.size + 1 ≠ w1.heap.size;omega)).trans HM1.out.rs)
      ·exact (Below.heap_setCell _ _ _ _ (by show w1.heap.size ≠ w1.heap.size + 1;omega)).trans l1
      ·exact (HM1.out.bel.setCell (p:=⟨w1.heap.size,k,none⟩) (by show w.heap.size ≤ w1.heap.size;omega) _).setCell (p:=⟨w1.heap.size + 1,k,none⟩) (by show w.heap.size ≤ w1.heap.size + 1;omega) _
      ·exact (Below.heap_setCell _ _ _ _ (by show wr.heap.size ≠ w1.heap.size + 1;omega)).trans ((Below.heap_setCell _ _ _ _ (by show wr.heap.size ≠ w1.heap.size;omega)).trans HLX.out)
      ·rw [getD_set9 _ _ _ _ (by omega),if_pos rfl,HFR.out]
      ·rw [getD_set9 _ _ _ _ (by omega),if_pos rfl,HFD.out]
      ·intro j h;rw [getD_set9 _ _ _ _ (by omega),if_neg h]
      ·intro j h;rw [getD_set9 _ _ _ _ (by omega),if_neg h]
    ·have HUP:Hid (bs[k]? = some x ∧ ¬ 0 ≤ x.up):=⟨HX.out,hup⟩
     go_wp2_with fail
     go_meet
     case rel =>
      refine ⟨R,D,HM1.out,HLX.out,HS.out.1,HS.out.2.1,?_,?_,fun _ _=>rfl,fun _ _=>rfl⟩
      ·rw [fromM_no HX.out (Int.not_le.2 HUP.out.2)]
       have h9:=stAt_free HS.out.2.2.1 HKB.out
       rw [Nat.mul_one,Nat.add_zero] at h9
       exact h9
      ·rw [fromM_no HX.out (Int.not_le.2 HUP.out.2)]
       have h9:=stAt_free HS.out.2.2.2 HKB.out
       rw [Nat.mul_one,Nat.add_zero] at h9
       exact h9
   case rest =>
    obtain ⟨R1,D1,MV,lx,nR,nD,gR,gD,oR,oD⟩:=hcut
    obtain ⟨V,hV⟩:∃ W,W = wc:=⟨_,rfl⟩
    subst hV
    have c0:V.cell? ⟨wr.heap.size,0,none⟩ = some (.int .i64 x.kd):=(lies_cell lx 0).trans rfl
    have c1:V.cell? ⟨wr.heap.size,1,none⟩ = some (.int .i64 (q:Int)):=(lies_cell lx 1).trans (by rw [← HQ.out];rfl)
    have HG:Hid (R1.length = np ∧ D1.length = np ∧ R1.getD k 0 = fromM (stepsM (fun s=>s.ri) ns bs k) bs k ∧ D1.getD k 0 = fromM (stepsM (fun s=>s.dn) ns bs k) bs k ∧ (∀ j,j ≠ k → R1.getD j 0 = R.getD j 0) ∧ (∀ j,j ≠ k → D1.getD j 0 = D.getD j 0)):=⟨nR,nD,gR,gD,oR,oD⟩
    have HMV:Hid (MvAt w V w1.heap.size (w1.heap.size + 1) (.cells (numsV R1).toArray 3 (0,0)) (.cells (numsV D1).toArray 3 (0,0)) ⟨some ⟨bb,boff,none⟩,bc,bs,some ⟨pb,poff,none⟩,pc,ps,la,lc,ls,fa,fc,fs,hi⟩):=MV
    clear nR nD gR gD oR oD lx HM1 HLX c2
    by_cases hkd:x.kd = 2
    ·have HKD:Hid (x.kd = 2):=hkd
     clear c1 MV
     go_wp2_with fail
     go_roundw
     case rel=>exact ⟨k + 1,R1,D1,by omega,by go_num,HMV.out,HG.out.1,HG.out.2.1,stAt_next HS.out.2.2.1 (by omega) _ rfl (by rw [addM_no HX.out HKD.out,Nat.mul_one,Nat.add_zero];exact HG.out.2.2.1) (fun j hj=>by rw [Nat.mul_one,Nat.add_zero];exact HG.out.2.2.2.2.1 j hj),stAt_next HS.out.2.2.2 (by omega) _ rfl (by rw [addM_no HX.out HKD.out,Nat.mul_one,Nat.add_zero];exact HG.out.2.2.2.1) (fun j hj=>by rw [Nat.mul_one,Nat.add_zero];exact HG.out.2.2.2.2.2 j hj)⟩
     case measure=>simp [intOf];omega
    ·have HKD:Hid (¬ x.kd = 2):=hkd
     have hndb:ndb < w.heap.size:=range_lt (HR.out q y HY.out)
     have s0:V.cell? ⟨ndb,noff + q * 28 + 26,none⟩ = some (.int .i64 y.st.ri):=(MV.bel.cell (p:=⟨ndb,noff + q * 28 + 26,none⟩) hndb).trans (HR.out q y HY.out 26 (.int .i64 y.st.ri) rfl)
     have s1:V.cell? ⟨ndb,noff + q * 28 + 27,none⟩ = some (.int .i64 y.st.dn):=(MV.bel.cell (p:=⟨ndb,noff + q * 28 + 27,none⟩) hndb).trans (HR.out q y HY.out 27 (.int .i64 y.st.dn) rfl)
     have s0':V.cell? ⟨ndb,noff + q * 28 + 2 + 24,none⟩ = some (.int .i64 y.st.ri):=s0
     have s1':V.cell? ⟨ndb,noff + q * 28 + 2 + 25,none⟩ = some (.int .i64 y.st.dn):=s1
     have e0:V.cell? ⟨w1.heap.size,k,none⟩ = some (.int .i64 (R1.getD k 0)):=ints_cell MV.st (by have:=HG.out.1;omega)
     have e1:V.cell? ⟨w1.heap.size + 1,k,none⟩ = some (.int .i64 (D1.getD k 0)):=ints_cell MV.bx (by have:=HG.out.2.1;omega)
     have f0:=Lib.frozen_of_heap MV.st k
     have f1:=Lib.frozen_of_heap MV.bx k
     have n1:¬ ndb = w1.heap.size:=by omega
     have n2:¬ w1.heap.size = ndb:=by omega
     have n3:¬ wr.heap.size = w1.heap.size:=by omega
     have n4:¬ w1.heap.size = wr.heap.size:=by omega
     generalize R1.getD k 0 = z0 at e0 HG
     generalize D1.getD k 0 = z1 at e1 HG
     clear MV
     go_wp2_with fail
     go_region
     all_goals
      go_wp2_with fail
      go_region
      all_goals
       go_wp2_with fail
       go_roundw
       case rel =>
        have nR:R1.length = np:=HG.out.1
        have nD:D1.length = np:=HG.out.2.1
        have A0:z0 = fromM (stepsM (fun s=>s.ri) ns bs k) bs k:=HG.out.2.2.1
        have A1:z1 = fromM (stepsM (fun s=>s.dn) ns bs k) bs k:=HG.out.2.2.2.1
        have l1:=ints_set HMV.out.st k (wrap64 (z0 + y.st.ri))
        have l2:((V.setCell ⟨w1.heap.size,k,none⟩ (.int .i64 (wrap64 (z0 + y.st.ri)))).setCell ⟨w1.heap.size + 1,k,none⟩ (.int .i64 (wrap64 (z1 + y.st.dn)))).heap[w1.heap.size + 1]? = some (.cells (numsV (D1.set k (wrap64 (z1 + y.st.dn)))).toArray 3 (0,0)):=ints_set ((Below.heap_setCell _ ⟨w1.heap.size,k,none⟩ _ _ (by show w1.heap.size + 1 ≠ w1.heap.size;omega)).trans HMV.out.bx) k _
        have MF:MvAt w ((V.setCell ⟨w1.heap.size,k,none⟩ (.int .i64 (wrap64 (z0 + y.st.ri)))).setCell ⟨w1.heap.size + 1,k,none⟩ (.int .i64 (wrap64 (z1 + y.st.dn)))) w1.heap.size (w1.heap.size + 1) (.cells (numsV (R1.set k (wrap64 (z0 + y.st.ri)))).toArray 3 (0,0)) (.cells (numsV (D1.set k (wrap64 (z1 + y.st.dn)))).toArray 3 (0,0)) ⟨some ⟨bb,boff,none⟩,bc,bs,some ⟨pb,poff,none⟩,pc,ps,la,lc,ls,fa,fc,fs,hi⟩:=⟨(Below.heap_setCell _ _ _ _ (by show w.heap.size ≠ w1.heap.size + 1;omega)).trans ((Below.heap_setCell _ _ _ _ (by show w.heap.size ≠ w1.heap.size;omega)).trans HMV.out.pg),(Below.heap_setCell _ _ _ _ (by show w.heap.size + 1 ≠ w1.heap.size + 1;omega)).trans ((Below.heap_setCell _ _ _ _ (by show w.heap.size + 1 ≠ w1.heap.size;omega)).trans HMV.out.rs),(Below.heap_setCell _ _ _ _ (by show w1.heap.size ≠ w1.heap.size + 1;omega)).trans l1,l2,(HMV.out.bel.setCell (p:=⟨w1.heap.size,k,none⟩) (by show w.heap.size ≤ w1.heap.size;omega) _).setCell (p:=⟨w1.heap.size + 1,k,none⟩) (by show w.heap.size ≤ w1.heap.size + 1;omega) _⟩
        refine ⟨k + 1,_,_,by omega,by go_num,⟨MF.pg,MF.rs,MF.st,MF.bx,⟨MF.bel.os,MF.bel.tape,MF.bel.output,MF.bel.size,MF.bel.block⟩⟩,by simp only [List.length_set];exact nR,by simp only [List.length_set];exact nD,?_,?_⟩
        ·refine stAt_next HS.out.2.2.1 (by omega) _ rfl ?_ (fun j hj=>?_)
         ·rw [Nat.mul_one,Nat.add_zero,getD_set9 _ _ _ _ (by omega),if_pos rfl,addM_yes HX.out HKD.out HQ.out HY.out,A0]
         ·rw [Nat.mul_one,Nat.add_zero,getD_set9 _ _ _ _ (by omega),if_neg hj]
          exact HG.out.2.2.2.2.1 j hj
        ·refine stAt_next HS.out.2.2.2 (by omega) _ rfl ?_ (fun j hj=>?_)
         ·rw [Nat.mul_one,Nat.add_zero,getD_set9 _ _ _ _ (by omega),if_pos rfl,addM_yes HX.out HKD.out HQ.out HY.out,A1]
         ·rw [Nat.mul_one,Nat.add_zero,getD_set9 _ _ _ _ (by omega),if_neg hj]
          exact HG.out.2.2.2.2.2 j hj
       case measure=>simp [intOf];omega
  ·have hlt':¬ ((k:Int) < (np:Int)):=by omega
   have hkn:k = np:=by omega
   subst hkn
   have k0:wr.cell? ⟨w.heap.size,0,none⟩ = some (.slice (some ⟨bb,boff,none⟩) k bc):=(lies_cell hMA.pg 0).trans (by show some (Value.slice _ bs.length _) = _;rw [← H1.out])
   have k3:wr.cell? ⟨w.heap.size,3,none⟩ = some (.slice fa nf fc):=(lies_cell hMA.pg 3).trans (by show some (Value.slice _ fs.length _) = _;rw [← H4.out])
   have k4:wr.cell? ⟨w.heap.size,4,none⟩ = some (.int .i64 hi):=(lies_cell hMA.pg 4).trans rfl
   obtain ⟨w4,hw4⟩:∃ W,W = wr:=⟨_,rfl⟩
   subst hw4
   have lgp:w.heap.size < w4.heap.size:=lies_lt hMA.pg
   have hgR:w1.heap.size < w4.heap.size:=lies_lt hMA.st
   have hgD:w1.heap.size + 1 < w4.heap.size:=lies_lt hMA.bx
   have HSB:Hid (∀ W:World,Below w4.heap.size w4 W → BxRow W (some ⟨bb,boff,none⟩) bs):=fun W hW=>(HP.out.rb.below hMA.bel).below hW
   have HSA:Hid (∀ W:World,Below w4.heap.size w4 W → AsRow W fa fs):=fun W hW=>(HP.out.rf.below hMA.bel).below hW
   clear hMA
   go_wp2_with fail
   rename_i QX KX aX
   have HAX0:Hid (_):=aX
   clear aX
   go_upto_region 15 with fail
   go_cut [10] from 101 to 111 (fun p wx=>∃ (gm:Nat) (a1 a4:Option Addr) (n1 c1 n4 c4:Nat),p = .pointer (some ⟨gm,0,none⟩) ∧ wx.heap[gm]? = some (.cells #[.slice a1 n1 c1,.slice none 0 0,.slice none 0 0,.slice a4 n4 c4,.int .i64 hi] 29 (0,0)) ∧ w4.heap.size ≤ gm ∧ Below w4.heap.size w4 wx)
   case first =>
    refine wp_region_held_drew (S:=fun W=>Below w4.heap.size w4 W) (by kernel_rfl) ((Below.refl _ _).drew) (fun hHeld=>?_)
    refine wpAnyH_take (i:=1) (oi:=⟨some 102,Op.fieldAddr 29 (.tmp 3) 0,0,"l9_page.go:221",#[],none⟩) (v:=.pointer (some ⟨w.heap.size,0,none⟩)) rfl (by kernel_rfl) (by kernel_rfl) (by kernel_rfl) (fun _ _ _ h=>h) (Or.inl ⟨by rfl,by intro wz hSw;go_simp⟩) hHeld ?_
    simp only [Act.put,List.setIfInBounds_toArray,List.set_cons_zero,List.set_cons_succ]
    refine wpAnyH_take (i:=2) (oi:=⟨some 103,Op.load 24 (.tmp 102),24,"l9_page.go:221",#[⟨1,.data⟩],none⟩) (v:=.slice (some ⟨bb,boff,none⟩) k bc) rfl (by kernel_rfl) (by kernel_rfl) (by kernel_rfl) (fun _ _ _ h=>h) (Or.inl ⟨by rfl,by intro wz hSw;have hq:wz.cell? ⟨w.heap.size,0,none⟩ = some (.slice (some ⟨bb,boff,none⟩) k bc):=(hSw.cell (p:=⟨w.heap.size,0,none⟩) (lgp)).trans k0;clear hSw;go_simp⟩) hHeld ?_
    simp only [Act.put,List.setIfInBounds_toArray,List.set_cons_zero,List.set_cons_succ]
    refine wpAnyH_take (i:=5) (oi:=⟨some 106,Op.fieldAddr 29 (.tmp 3) 3,0,"l9_page.go:221",#[],none⟩) (v:=.pointer (some ⟨w.heap.size,3,none⟩)) rfl (by kernel_rfl) (by kernel_rfl) (by kernel_rfl) (fun _ _ _ h=>h) (Or.inl ⟨by rfl,by intro wz hSw;go_simp⟩) hHeld ?_
    simp only [Act.put,List.setIfInBounds_toArray,List.set_cons_zero,List.set_cons_succ]
    refine wpAnyH_take (i:=6) (oi:=⟨some 107,Op.load 27 (.tmp 106),27,"l9_page.go:221",#[⟨5,.data⟩],none⟩) (v:=.slice fa nf fc) rfl (by kernel_rfl) (by kernel_rfl) (by kernel_rfl) (fun _ _ _ h=>h) (Or.inl ⟨by rfl,by intro wz hSw;have hq:wz.cell? ⟨w.heap.size,3,none⟩ = some (.slice fa nf fc):=(hSw.cell (p:=⟨w.heap.size,3,none⟩) (lgp)).trans k3;clear hSw;go_simp⟩) hHeld ?_
    simp only [Act.put,List.setIfInBounds_toArray,List.set_cons_zero,List.set_cons_succ]
    refine wpAnyH_take (i:=8) (oi:=⟨some 109,Op.fieldAddr 29 (.tmp 3) 4,0,"l9_page.go:221",#[],none⟩) (v:=.pointer (some ⟨w.heap.size,4,none⟩)) rfl (by kernel_rfl) (by kernel_rfl) (by kernel_rfl) (fun _ _ _ h=>h) (Or.inl ⟨by rfl,by intro wz hSw;go_simp⟩) hHeld ?_
    simp only [Act.put,List.setIfInBounds_toArray,List.set_cons_zero,List.set_cons_succ]
    refine wpAnyH_take (i:=9) (oi:=⟨some 110,Op.load 3 (.tmp 109),3,"l9_page.go:221",#[⟨8,.data⟩],none⟩) (v:=.int .i64 hi) rfl (by kernel_rfl) (by kernel_rfl) (by kernel_rfl) (fun _ _ _ h=>h) (Or.inl ⟨by rfl,by intro wz hSw;have hq:wz.cell? ⟨w.heap.size,4,none⟩ = some (.int .i64 hi):=(hSw.cell (p:=⟨w.heap.size,4,none⟩) (lgp)).trans k4;clear hSw;go_simp⟩) hHeld ?_
    simp only [Act.put,List.setIfInBounds_toArray,List.set_cons_zero,List.set_cons_succ]
    refine wpAnyH_ready (rs:=[0,4,11]) (by kernel_rfl) (by simp) ?_
    refine AllReadyH.cons (o:=⟨some 101,Op.buildSlice 24 0 #[],24,"l9_page.go:221",#[],none⟩) rfl (fun K hK=>?_) (AllReadyH.cons (o:=⟨some 105,Op.buildSlice 27 0 #[],27,"l9_page.go:221",#[],none⟩) rfl (fun K hK=>?_) (AllReadyH.cons (o:=⟨some 10,Op.alloc 29,0,"l9_page.go:221",#[],none⟩) rfl (fun K hK=>?_) AllReadyH.nil))
    ·go_simp
     refine hK.out _ _ (hHeld.alloc hHeld.size _) (fun hH1=>?_)
     clear hK K
     try simp only [Act.put,List.setIfInBounds_toArray,List.set_cons_zero,List.set_cons_succ]
     generalize World.drew (World.alloc w4 _) = v1 at hH1 ⊢
     refine wpAnyH_ready (rs:=[3,4,11]) (by kernel_rfl) (by simp) ?_
     refine AllReadyH.cons (o:=⟨some 104,Op.call { callee:=Callee.builtin Builtin.append,args:=#[.tmp 101,.tmp 103],argTypes:=#[24,24] },24,"l9_page.go:221",#[⟨0,.data⟩,⟨2,.data⟩],none⟩) rfl (fun K hK=>?_) (AllReadyH.cons (o:=⟨some 105,Op.buildSlice 27 0 #[],27,"l9_page.go:221",#[],none⟩) rfl (fun K hK=>?_) (AllReadyH.cons (o:=⟨some 10,Op.alloc 29,0,"l9_page.go:221",#[],none⟩) rfl (fun K hK=>?_) AllReadyH.nil))
     ·rw [if_pos (by rfl)]
      refine wp_appB rfl _ _ rfl (w4.heap.size) rfl (some ⟨bb,boff,none⟩) k bc bs rfl H1.out (HSB.out _ (hH1)) (by omega) ?_
      intro a12 n12 c12 v2 hb2
      refine hK.out _ _ (hH1.trans (hb2.mono hH1.size)) (fun hH2=>?_)
      clear hK K
      try simp only [Act.put,List.setIfInBounds_toArray,List.set_cons_zero,List.set_cons_succ]
      refine wpAnyH_ready (rs:=[4,11]) (by kernel_rfl) (by simp) ?_
      refine AllReadyH.cons (o:=⟨some 105,Op.buildSlice 27 0 #[],27,"l9_page.go:221",#[],none⟩) rfl (fun K hK=>?_) (AllReadyH.cons (o:=⟨some 10,Op.alloc 29,0,"l9_page.go:221",#[],none⟩) rfl (fun K hK=>?_) AllReadyH.nil)
      ·go_simp
       refine hK.out _ _ (hH2.alloc hH2.size _) (fun hH3=>?_)
       clear hK K
       try simp only [Act.put,List.setIfInBounds_toArray,List.set_cons_zero,List.set_cons_succ]
       generalize World.alloc v2 _ = v3 at hH3 ⊢
       refine wpAnyH_ready (rs:=[7,11]) (by kernel_rfl) (by simp) ?_
       refine AllReadyH.cons (o:=⟨some 108,Op.call { callee:=Callee.builtin Builtin.append,args:=#[.tmp 105,.tmp 107],argTypes:=#[27,27] },27,"l9_page.go:221",#[⟨4,.data⟩,⟨6,.data⟩,⟨3,.chain⟩],none⟩) rfl (fun K hK=>?_) (AllReadyH.cons (o:=⟨some 10,Op.alloc 29,0,"l9_page.go:221",#[],none⟩) rfl (fun K hK=>?_) AllReadyH.nil)
       ·rw [if_pos (by rfl)]
        refine wp_appA rfl _ _ rfl (v2.heap.size) rfl fa nf fc fs rfl H4.out (HSA.out _ (hH3)) (by omega) ?_
        intro a14 n14 c14 v4 hb4
        refine hK.out _ _ (hH3.trans (hb4.mono hH3.size)) (fun hH4=>?_)
        clear hK K
        try simp only [Act.put,List.setIfInBounds_toArray,List.set_cons_zero,List.set_cons_succ]
        refine wpAnyH_take (i:=10) (oi:=⟨some 111,Op.build 29 #[(0,.tmp 104),(3,.tmp 108),(4,.tmp 110)],29,"l9_page.go:221",#[⟨3,.data⟩,⟨7,.data⟩,⟨9,.data⟩],none⟩) (v:=.agg #[.slice a12 n12 c12,.slice none 0 0,.slice none 0 0,.slice a14 n14 c14,.int .i64 hi]) rfl (by kernel_rfl) (by kernel_rfl) (by kernel_rfl) (fun _ _ _ h=>h) (Or.inl ⟨by rfl,by intro wz hSw;go_simp⟩) hH4 ?_
        simp only [Act.put,List.setIfInBounds_toArray,List.set_cons_zero,List.set_cons_succ]
        refine wpAnyH_ready (rs:=[11]) (by kernel_rfl) (by simp) ?_
        refine AllReadyH.cons (o:=⟨some 10,Op.alloc 29,0,"l9_page.go:221",#[],none⟩) rfl (fun K hK=>?_) AllReadyH.nil
        go_simp
        refine hK.out _ _ (hH4.alloc hH4.size _) (fun hH5=>?_)
        clear hK K
        try simp only [Act.put,List.setIfInBounds_toArray,List.set_cons_zero,List.set_cons_succ]
        have f9:=heap_at (v4) (.cells (#[.slice none 0 0,.slice none 0 0,.slice none 0 0,.slice none 0 0,.int .i64 0]) 29) (v4.heap.size) rfl
        have hg9:w4.heap.size ≤ v4.heap.size:=hH4.size
        generalize World.alloc v4 _ = v5 at hH5 f9 ⊢
        refine wpAnyH_ready (rs:=[12]) (by kernel_rfl) (by simp) ?_
        refine AllReadyH.cons (o:=⟨none,Op.store 29 (.tmp 10) (.tmp 111),0,"l9_page.go:221",#[⟨11,.data⟩,⟨10,.data⟩,⟨7,.chain⟩,⟨0,.phase⟩,⟨1,.phase⟩,⟨2,.phase⟩,⟨3,.phase⟩,⟨4,.phase⟩,⟨5,.phase⟩,⟨6,.phase⟩,⟨7,.phase⟩,⟨8,.phase⟩,⟨9,.phase⟩,⟨10,.phase⟩,⟨11,.phase⟩],none⟩) rfl (fun K hK=>?_) AllReadyH.nil
        rw [if_pos (by rfl)]
        refine wp_put9 29 _ _ rfl rfl (v4.heap.size) 0 5 [.slice a12 n12 c12,.slice none 0 0,.slice none 0 0,.slice a14 n14 c14,.int .i64 hi] _ _ rfl rfl f9 rfl (by kernel_rfl) (by kernel_rfl) (by kernel_rfl) ?_
        intro v6 p9 l9
        replace f9:=l9.trans (congrArg (fun c=>some (Obj.cells c 29 (0,0))) (show _ = (#[.slice a12 n12 c12,.slice none 0 0,.slice none 0 0,.slice a14 n14 c14,.int .i64 hi]:Array Value) by kernel_rfl))
        refine hK.out _ _ (p9.below hH5 hg9) (fun hH6=>?_)
        clear hK K l9
        try simp only [Act.put,List.setIfInBounds_toArray,List.set_cons_zero,List.set_cons_succ]
        refine wpAnyH_done (by kernel_rfl) ?_ _
        have HF9:=f9
        have HH:=hH6
        have HG9:=hg9
        clear f9
        go_wp2_with fail
        go_meet
        case rel=>exact ⟨_,_,_,_,_,_,_,rfl,HF9,HG9,HH⟩
       ·go_simp
        refine hK.out _ _ (hH3.alloc hH3.size _) (fun hH7=>?_)
        clear hK K
        try simp only [Act.put,List.setIfInBounds_toArray,List.set_cons_zero,List.set_cons_succ]
        have f9:=heap_at (v3) (.cells (#[.slice none 0 0,.slice none 0 0,.slice none 0 0,.slice none 0 0,.int .i64 0]) 29) (v3.heap.size) rfl
        have hg9:w4.heap.size ≤ v3.heap.size:=hH3.size
        generalize World.alloc v3 _ = v7 at hH7 f9 ⊢
        refine wpAnyH_ready (rs:=[7]) (by kernel_rfl) (by simp) ?_
        refine AllReadyH.cons (o:=⟨some 108,Op.call { callee:=Callee.builtin Builtin.append,args:=#[.tmp 105,.tmp 107],argTypes:=#[27,27] },27,"l9_page.go:221",#[⟨4,.data⟩,⟨6,.data⟩,⟨3,.chain⟩],none⟩) rfl (fun K hK=>?_) AllReadyH.nil
        rw [if_pos (by rfl)]
        refine wp_appA rfl _ _ rfl (v2.heap.size) rfl fa nf fc fs rfl H4.out (HSA.out _ (hH7)) (by omega) ?_
        intro a18 n18 c18 v8 hb8
        replace f9:=below_lies hb8 f9 (lies_lt f9)
        refine hK.out _ _ (hH7.trans (hb8.mono hH7.size)) (fun hH8=>?_)
        clear hK K
        try simp only [Act.put,List.setIfInBounds_toArray,List.set_cons_zero,List.set_cons_succ]
        refine wpAnyH_take (i:=10) (oi:=⟨some 111,Op.build 29 #[(0,.tmp 104),(3,.tmp 108),(4,.tmp 110)],29,"l9_page.go:221",#[⟨3,.data⟩,⟨7,.data⟩,⟨9,.data⟩],none⟩) (v:=.agg #[.slice a12 n12 c12,.slice none 0 0,.slice none 0 0,.slice a18 n18 c18,.int .i64 hi]) rfl (by kernel_rfl) (by kernel_rfl) (by kernel_rfl) (fun _ _ _ h=>h) (Or.inl ⟨by rfl,by intro wz hSw;go_simp⟩) hH8 ?_
        simp only [Act.put,List.setIfInBounds_toArray,List.set_cons_zero,List.set_cons_succ]
        refine wpAnyH_ready (rs:=[12]) (by kernel_rfl) (by simp) ?_
        refine AllReadyH.cons (o:=⟨none,Op.store 29 (.tmp 10) (.tmp 111),0,"l9_page.go:221",#[⟨11,.data⟩,⟨10,.data⟩,⟨7,.chain⟩,⟨0,.phase⟩,⟨1,.phase⟩,⟨2,.phase⟩,⟨3,.phase⟩,⟨4,.phase⟩,⟨5,.phase⟩,⟨6,.phase⟩,⟨7,.phase⟩,⟨8,.phase⟩,⟨9,.phase⟩,⟨10,.phase⟩,⟨11,.phase⟩],none⟩) rfl (fun K hK=>?_) AllReadyH.nil
        rw [if_pos (by rfl)]
        refine wp_put9 29 _ _ rfl rfl (v3.heap.size) 0 5 [.slice a12 n12 c12,.slice none 0 0,.slice none 0 0,.slice a18 n18 c18,.int .i64 hi] _ _ rfl rfl f9 rfl (by kernel_rfl) (by kernel_rfl) (by kernel_rfl) ?_
        intro v9 p9 l9
        replace f9:=l9.trans (congrArg (fun c=>some (Obj.cells c 29 (0,0))) (show _ = (#[.slice a12 n12 c12,.slice none 0 0,.slice none 0 0,.slice a18 n18 c18,.int .i64 hi]:Array Value) by kernel_rfl))
        refine hK.out _ _ (p9.below hH8 hg9) (fun hH9=>?_)
        clear hK K l9
        try simp only [Act.put,List.setIfInBounds_toArray,List.set_cons_zero,List.set_cons_succ]
        refine wpAnyH_done (by kernel_rfl) ?_ _
        have HF9:=f9
        have HH:=hH9
        have HG9:=hg9
        clear f9
        go_wp2_with fail
        go_meet
        case rel=>exact ⟨_,_,_,_,_,_,_,rfl,HF9,HG9,HH⟩
      ·go_simp
       refine hK.out _ _ (hH2.alloc hH2.size _) (fun hH10=>?_)
       clear hK K
       try simp only [Act.put,List.setIfInBounds_toArray,List.set_cons_zero,List.set_cons_succ]
       have f9:=heap_at (v2) (.cells (#[.slice none 0 0,.slice none 0 0,.slice none 0 0,.slice none 0 0,.int .i64 0]) 29) (v2.heap.size) rfl
       have hg9:w4.heap.size ≤ v2.heap.size:=hH2.size
       generalize World.alloc v2 _ = v10 at hH10 f9 ⊢
       refine wpAnyH_ready (rs:=[4]) (by kernel_rfl) (by simp) ?_
       refine AllReadyH.cons (o:=⟨some 105,Op.buildSlice 27 0 #[],27,"l9_page.go:221",#[],none⟩) rfl (fun K hK=>?_) AllReadyH.nil
       go_simp
       refine hK.out _ _ (hH10.alloc hH10.size _) (fun hH11=>?_)
       clear hK K
       try simp only [Act.put,List.setIfInBounds_toArray,List.set_cons_zero,List.set_cons_succ]
       replace f9:=heap_in (o:=.cells #[] 61) f9
       generalize World.alloc v10 _ = v11 at hH11 f9 ⊢
       refine wpAnyH_ready (rs:=[7]) (by kernel_rfl) (by simp) ?_
       refine AllReadyH.cons (o:=⟨some 108,Op.call { callee:=Callee.builtin Builtin.append,args:=#[.tmp 105,.tmp 107],argTypes:=#[27,27] },27,"l9_page.go:221",#[⟨4,.data⟩,⟨6,.data⟩,⟨3,.chain⟩],none⟩) rfl (fun K hK=>?_) AllReadyH.nil
       rw [if_pos (by rfl)]
       refine wp_appA rfl _ _ rfl (v10.heap.size) rfl fa nf fc fs rfl H4.out (HSA.out _ (hH11)) (by omega) ?_
       intro a112 n112 c112 v12 hb12
       replace f9:=below_lies hb12 f9 (lies_lt f9)
       refine hK.out _ _ (hH11.trans (hb12.mono hH11.size)) (fun hH12=>?_)
       clear hK K
       try simp only [Act.put,List.setIfInBounds_toArray,List.set_cons_zero,List.set_cons_succ]
       refine wpAnyH_take (i:=10) (oi:=⟨some 111,Op.build 29 #[(0,.tmp 104),(3,.tmp 108),(4,.tmp 110)],29,"l9_page.go:221",#[⟨3,.data⟩,⟨7,.data⟩,⟨9,.data⟩],none⟩) (v:=.agg #[.slice a12 n12 c12,.slice none 0 0,.slice none 0 0,.slice a112 n112 c112,.int .i64 hi]) rfl (by kernel_rfl) (by kernel_rfl) (by kernel_rfl) (fun _ _ _ h=>h) (Or.inl ⟨by rfl,by intro wz hSw;go_simp⟩) hH12 ?_
       simp only [Act.put,List.setIfInBounds_toArray,List.set_cons_zero,List.set_cons_succ]
       refine wpAnyH_ready (rs:=[12]) (by kernel_rfl) (by simp) ?_
       refine AllReadyH.cons (o:=⟨none,Op.store 29 (.tmp 10) (.tmp 111),0,"l9_page.go:221",#[⟨11,.data⟩,⟨10,.data⟩,⟨7,.chain⟩,⟨0,.phase⟩,⟨1,.phase⟩,⟨2,.phase⟩,⟨3,.phase⟩,⟨4,.phase⟩,⟨5,.phase⟩,⟨6,.phase⟩,⟨7,.phase⟩,⟨8,.phase⟩,⟨9,.phase⟩,⟨10,.phase⟩,⟨11,.phase⟩],none⟩) rfl (fun K hK=>?_) AllReadyH.nil
       rw [if_pos (by rfl)]
       refine wp_put9 29 _ _ rfl rfl (v2.heap.size) 0 5 [.slice a12 n12 c12,.slice none 0 0,.slice none 0 0,.slice a112 n112 c112,.int .i64 hi] _ _ rfl rfl f9 rfl (by kernel_rfl) (by kernel_rfl) (by kernel_rfl) ?_
       intro v13 p9 l9
       replace f9:=l9.trans (congrArg (fun c=>some (Obj.cells c 29 (0,0))) (show _ = (#[.slice a12 n12 c12,.slice none 0 0,.slice none 0 0,.slice a112 n112 c112,.int .i64 hi]:Array Value) by kernel_rfl))
       refine hK.out _ _ (p9.below hH12 hg9) (fun hH13=>?_)
       clear hK K l9
       try simp only [Act.put,List.setIfInBounds_toArray,List.set_cons_zero,List.set_cons_succ]
       refine wpAnyH_done (by kernel_rfl) ?_ _
       have HF9:=f9
       have HH:=hH13
       have HG9:=hg9
       clear f9
       go_wp2_with fail
       go_meet
       case rel=>exact ⟨_,_,_,_,_,_,_,rfl,HF9,HG9,HH⟩
     ·go_simp
      refine hK.out _ _ (hH1.alloc hH1.size _) (fun hH14=>?_)
      clear hK K
      try simp only [Act.put,List.setIfInBounds_toArray,List.set_cons_zero,List.set_cons_succ]
      generalize World.alloc v1 _ = v14 at hH14 ⊢
      refine wpAnyH_ready (rs:=[3,11]) (by kernel_rfl) (by simp) ?_
      refine AllReadyH.cons (o:=⟨some 104,Op.call { callee:=Callee.builtin Builtin.append,args:=#[.tmp 101,.tmp 103],argTypes:=#[24,24] },24,"l9_page.go:221",#[⟨0,.data⟩,⟨2,.data⟩],none⟩) rfl (fun K hK=>?_) (AllReadyH.cons (o:=⟨some 10,Op.alloc 29,0,"l9_page.go:221",#[],none⟩) rfl (fun K hK=>?_) AllReadyH.nil)
      ·rw [if_pos (by rfl)]
       refine wp_appB rfl _ _ rfl (w4.heap.size) rfl (some ⟨bb,boff,none⟩) k bc bs rfl H1.out (HSB.out _ (hH14)) (by omega) ?_
       intro a115 n115 c115 v15 hb15
       refine hK.out _ _ (hH14.trans (hb15.mono hH14.size)) (fun hH15=>?_)
       clear hK K
       try simp only [Act.put,List.setIfInBounds_toArray,List.set_cons_zero,List.set_cons_succ]
       refine wpAnyH_ready (rs:=[7,11]) (by kernel_rfl) (by simp) ?_
       refine AllReadyH.cons (o:=⟨some 108,Op.call { callee:=Callee.builtin Builtin.append,args:=#[.tmp 105,.tmp 107],argTypes:=#[27,27] },27,"l9_page.go:221",#[⟨4,.data⟩,⟨6,.data⟩,⟨3,.chain⟩],none⟩) rfl (fun K hK=>?_) (AllReadyH.cons (o:=⟨some 10,Op.alloc 29,0,"l9_page.go:221",#[],none⟩) rfl (fun K hK=>?_) AllReadyH.nil)
       ·rw [if_pos (by rfl)]
        refine wp_appA rfl _ _ rfl (v1.heap.size) rfl fa nf fc fs rfl H4.out (HSA.out _ (hH15)) (by omega) ?_
        intro a116 n116 c116 v16 hb16
        refine hK.out _ _ (hH15.trans (hb16.mono hH15.size)) (fun hH16=>?_)
        clear hK K
        try simp only [Act.put,List.setIfInBounds_toArray,List.set_cons_zero,List.set_cons_succ]
        refine wpAnyH_take (i:=10) (oi:=⟨some 111,Op.build 29 #[(0,.tmp 104),(3,.tmp 108),(4,.tmp 110)],29,"l9_page.go:221",#[⟨3,.data⟩,⟨7,.data⟩,⟨9,.data⟩],none⟩) (v:=.agg #[.slice a115 n115 c115,.slice none 0 0,.slice none 0 0,.slice a116 n116 c116,.int .i64 hi]) rfl (by kernel_rfl) (by kernel_rfl) (by kernel_rfl) (fun _ _ _ h=>h) (Or.inl ⟨by rfl,by intro wz hSw;go_simp⟩) hH16 ?_
        simp only [Act.put,List.setIfInBounds_toArray,List.set_cons_zero,List.set_cons_succ]
        refine wpAnyH_ready (rs:=[11]) (by kernel_rfl) (by simp) ?_
        refine AllReadyH.cons (o:=⟨some 10,Op.alloc 29,0,"l9_page.go:221",#[],none⟩) rfl (fun K hK=>?_) AllReadyH.nil
        go_simp
        refine hK.out _ _ (hH16.alloc hH16.size _) (fun hH17=>?_)
        clear hK K
        try simp only [Act.put,List.setIfInBounds_toArray,List.set_cons_zero,List.set_cons_succ]
        have f9:=heap_at (v16) (.cells (#[.slice none 0 0,.slice none 0 0,.slice none 0 0,.slice none 0 0,.int .i64 0]) 29) (v16.heap.size) rfl
        have hg9:w4.heap.size ≤ v16.heap.size:=hH16.size
        generalize World.alloc v16 _ = v17 at hH17 f9 ⊢
        refine wpAnyH_ready (rs:=[12]) (by kernel_rfl) (by simp) ?_
        refine AllReadyH.cons (o:=⟨none,Op.store 29 (.tmp 10) (.tmp 111),0,"l9_page.go:221",#[⟨11,.data⟩,⟨10,.data⟩,⟨7,.chain⟩,⟨0,.phase⟩,⟨1,.phase⟩,⟨2,.phase⟩,⟨3,.phase⟩,⟨4,.phase⟩,⟨5,.phase⟩,⟨6,.phase⟩,⟨7,.phase⟩,⟨8,.phase⟩,⟨9,.phase⟩,⟨10,.phase⟩,⟨11,.phase⟩],none⟩) rfl (fun K hK=>?_) AllReadyH.nil
        rw [if_pos (by rfl)]
        refine wp_put9 29 _ _ rfl rfl (v16.heap.size) 0 5 [.slice a115 n115 c115,.slice none 0 0,.slice none 0 0,.slice a116 n116 c116,.int .i64 hi] _ _ rfl rfl f9 rfl (by kernel_rfl) (by kernel_rfl) (by kernel_rfl) ?_
        intro v18 p9 l9
        replace f9:=l9.trans (congrArg (fun c=>some (Obj.cells c 29 (0,0))) (show _ = (#[.slice a115 n115 c115,.slice none 0 0,.slice none 0 0,.slice a116 n116 c116,.int .i64 hi]:Array Value) by kernel_rfl))
        refine hK.out _ _ (p9.below hH17 hg9) (fun hH18=>?_)
        clear hK K l9
        try simp only [Act.put,List.setIfInBounds_toArray,List.set_cons_zero,List.set_cons_succ]
        refine wpAnyH_done (by kernel_rfl) ?_ _
        have HF9:=f9
        have HH:=hH18
        have HG9:=hg9
        clear f9
        go_wp2_with fail
        go_meet
        case rel=>exact ⟨_,_,_,_,_,_,_,rfl,HF9,HG9,HH⟩
       ·go_simp
        refine hK.out _ _ (hH15.alloc hH15.size _) (fun hH19=>?_)
        clear hK K
        try simp only [Act.put,List.setIfInBounds_toArray,List.set_cons_zero,List.set_cons_succ]
        have f9:=heap_at (v15) (.cells (#[.slice none 0 0,.slice none 0 0,.slice none 0 0,.slice none 0 0,.int .i64 0]) 29) (v15.heap.size) rfl
        have hg9:w4.heap.size ≤ v15.heap.size:=hH15.size
        generalize World.alloc v15 _ = v19 at hH19 f9 ⊢
        refine wpAnyH_ready (rs:=[7]) (by kernel_rfl) (by simp) ?_
        refine AllReadyH.cons (o:=⟨some 108,Op.call { callee:=Callee.builtin Builtin.append,args:=#[.tmp 105,.tmp 107],argTypes:=#[27,27] },27,"l9_page.go:221",#[⟨4,.data⟩,⟨6,.data⟩,⟨3,.chain⟩],none⟩) rfl (fun K hK=>?_) AllReadyH.nil
        rw [if_pos (by rfl)]
        refine wp_appA rfl _ _ rfl (v1.heap.size) rfl fa nf fc fs rfl H4.out (HSA.out _ (hH19)) (by omega) ?_
        intro a120 n120 c120 v20 hb20
        replace f9:=below_lies hb20 f9 (lies_lt f9)
        refine hK.out _ _ (hH19.trans (hb20.mono hH19.size)) (fun hH20=>?_)
        clear hK K
        try simp only [Act.put,List.setIfInBounds_toArray,List.set_cons_zero,List.set_cons_succ]
        refine wpAnyH_take (i:=10) (oi:=⟨some 111,Op.build 29 #[(0,.tmp 104),(3,.tmp 108),(4,.tmp 110)],29,"l9_page.go:221",#[⟨3,.data⟩,⟨7,.data⟩,⟨9,.data⟩],none⟩) (v:=.agg #[.slice a115 n115 c115,.slice none 0 0,.slice none 0 0,.slice a120 n120 c120,.int .i64 hi]) rfl (by kernel_rfl) (by kernel_rfl) (by kernel_rfl) (fun _ _ _ h=>h) (Or.inl ⟨by rfl,by intro wz hSw;go_simp⟩) hH20 ?_
        simp only [Act.put,List.setIfInBounds_toArray,List.set_cons_zero,List.set_cons_succ]
        refine wpAnyH_ready (rs:=[12]) (by kernel_rfl) (by simp) ?_
        refine AllReadyH.cons (o:=⟨none,Op.store 29 (.tmp 10) (.tmp 111),0,"l9_page.go:221",#[⟨11,.data⟩,⟨10,.data⟩,⟨7,.chain⟩,⟨0,.phase⟩,⟨1,.phase⟩,⟨2,.phase⟩,⟨3,.phase⟩,⟨4,.phase⟩,⟨5,.phase⟩,⟨6,.phase⟩,⟨7,.phase⟩,⟨8,.phase⟩,⟨9,.phase⟩,⟨10,.phase⟩,⟨11,.phase⟩],none⟩) rfl (fun K hK=>?_) AllReadyH.nil
        rw [if_pos (by rfl)]
        refine wp_put9 29 _ _ rfl rfl (v15.heap.size) 0 5 [.slice a115 n115 c115,.slice none 0 0,.slice none 0 0,.slice a120 n120 c120,.int .i64 hi] _ _ rfl rfl f9 rfl (by kernel_rfl) (by kernel_rfl) (by kernel_rfl) ?_
        intro v21 p9 l9
        replace f9:=l9.trans (congrArg (fun c=>some (Obj.cells c 29 (0,0))) (show _ = (#[.slice a115 n115 c115,.slice none 0 0,.slice none 0 0,.slice a120 n120 c120,.int .i64 hi]:Array Value) by kernel_rfl))
        refine hK.out _ _ (p9.below hH20 hg9) (fun hH21=>?_)
        clear hK K l9
        try simp only [Act.put,List.setIfInBounds_toArray,List.set_cons_zero,List.set_cons_succ]
        refine wpAnyH_done (by kernel_rfl) ?_ _
        have HF9:=f9
        have HH:=hH21
        have HG9:=hg9
        clear f9
        go_wp2_with fail
        go_meet
        case rel=>exact ⟨_,_,_,_,_,_,_,rfl,HF9,HG9,HH⟩
      ·go_simp
       refine hK.out _ _ (hH14.alloc hH14.size _) (fun hH22=>?_)
       clear hK K
       try simp only [Act.put,List.setIfInBounds_toArray,List.set_cons_zero,List.set_cons_succ]
       have f9:=heap_at (v14) (.cells (#[.slice none 0 0,.slice none 0 0,.slice none 0 0,.slice none 0 0,.int .i64 0]) 29) (v14.heap.size) rfl
       have hg9:w4.heap.size ≤ v14.heap.size:=hH14.size
       generalize World.alloc v14 _ = v22 at hH22 f9 ⊢
       refine wpAnyH_ready (rs:=[3]) (by kernel_rfl) (by simp) ?_
       refine AllReadyH.cons (o:=⟨some 104,Op.call { callee:=Callee.builtin Builtin.append,args:=#[.tmp 101,.tmp 103],argTypes:=#[24,24] },24,"l9_page.go:221",#[⟨0,.data⟩,⟨2,.data⟩],none⟩) rfl (fun K hK=>?_) AllReadyH.nil
       rw [if_pos (by rfl)]
       refine wp_appB rfl _ _ rfl (w4.heap.size) rfl (some ⟨bb,boff,none⟩) k bc bs rfl H1.out (HSB.out _ (hH22)) (by omega) ?_
       intro a123 n123 c123 v23 hb23
       replace f9:=below_lies hb23 f9 (lies_lt f9)
       refine hK.out _ _ (hH22.trans (hb23.mono hH22.size)) (fun hH23=>?_)
       clear hK K
       try simp only [Act.put,List.setIfInBounds_toArray,List.set_cons_zero,List.set_cons_succ]
       refine wpAnyH_ready (rs:=[7]) (by kernel_rfl) (by simp) ?_
       refine AllReadyH.cons (o:=⟨some 108,Op.call { callee:=Callee.builtin Builtin.append,args:=#[.tmp 105,.tmp 107],argTypes:=#[27,27] },27,"l9_page.go:221",#[⟨4,.data⟩,⟨6,.data⟩,⟨3,.chain⟩],none⟩) rfl (fun K hK=>?_) AllReadyH.nil
       rw [if_pos (by rfl)]
       refine wp_appA rfl _ _ rfl (v1.heap.size) rfl fa nf fc fs rfl H4.out (HSA.out _ (hH23)) (by omega) ?_
       intro a124 n124 c124 v24 hb24
       replace f9:=below_lies hb24 f9 (lies_lt f9)
       refine hK.out _ _ (hH23.trans (hb24.mono hH23.size)) (fun hH24=>?_)
       clear hK K
       try simp only [Act.put,List.setIfInBounds_toArray,List.set_cons_zero,List.set_cons_succ]
       refine wpAnyH_take (i:=10) (oi:=⟨some 111,Op.build 29 #[(0,.tmp 104),(3,.tmp 108),(4,.tmp 110)],29,"l9_page.go:221",#[⟨3,.data⟩,⟨7,.data⟩,⟨9,.data⟩],none⟩) (v:=.agg #[.slice a123 n123 c123,.slice none 0 0,.slice none 0 0,.slice a124 n124 c124,.int .i64 hi]) rfl (by kernel_rfl) (by kernel_rfl) (by kernel_rfl) (fun _ _ _ h=>h) (Or.inl ⟨by rfl,by intro wz hSw;go_simp⟩) hH24 ?_
       simp only [Act.put,List.setIfInBounds_toArray,List.set_cons_zero,List.set_cons_succ]
       refine wpAnyH_ready (rs:=[12]) (by kernel_rfl) (by simp) ?_
       refine AllReadyH.cons (o:=⟨none,Op.store 29 (.tmp 10) (.tmp 111),0,"l9_page.go:221",#[⟨11,.data⟩,⟨10,.data⟩,⟨7,.chain⟩,⟨0,.phase⟩,⟨1,.phase⟩,⟨2,.phase⟩,⟨3,.phase⟩,⟨4,.phase⟩,⟨5,.phase⟩,⟨6,.phase⟩,⟨7,.phase⟩,⟨8,.phase⟩,⟨9,.phase⟩,⟨10,.phase⟩,⟨11,.phase⟩],none⟩) rfl (fun K hK=>?_) AllReadyH.nil
       rw [if_pos (by rfl)]
       refine wp_put9 29 _ _ rfl rfl (v14.heap.size) 0 5 [.slice a123 n123 c123,.slice none 0 0,.slice none 0 0,.slice a124 n124 c124,.int .i64 hi] _ _ rfl rfl f9 rfl (by kernel_rfl) (by kernel_rfl) (by kernel_rfl) ?_
       intro v25 p9 l9
       replace f9:=l9.trans (congrArg (fun c=>some (Obj.cells c 29 (0,0))) (show _ = (#[.slice a123 n123 c123,.slice none 0 0,.slice none 0 0,.slice a124 n124 c124,.int .i64 hi]:Array Value) by kernel_rfl))
       refine hK.out _ _ (p9.below hH24 hg9) (fun hH25=>?_)
       clear hK K l9
       try simp only [Act.put,List.setIfInBounds_toArray,List.set_cons_zero,List.set_cons_succ]
       refine wpAnyH_done (by kernel_rfl) ?_ _
       have HF9:=f9
       have HH:=hH25
       have HG9:=hg9
       clear f9
       go_wp2_with fail
       go_meet
       case rel=>exact ⟨_,_,_,_,_,_,_,rfl,HF9,HG9,HH⟩
     ·go_simp
      refine hK.out _ _ (hH1.alloc hH1.size _) (fun hH26=>?_)
      clear hK K
      try simp only [Act.put,List.setIfInBounds_toArray,List.set_cons_zero,List.set_cons_succ]
      have f9:=heap_at (v1) (.cells (#[.slice none 0 0,.slice none 0 0,.slice none 0 0,.slice none 0 0,.int .i64 0]) 29) (v1.heap.size) rfl
      have hg9:w4.heap.size ≤ v1.heap.size:=hH1.size
      generalize World.alloc v1 _ = v26 at hH26 f9 ⊢
      refine wpAnyH_ready (rs:=[3,4]) (by kernel_rfl) (by simp) ?_
      refine AllReadyH.cons (o:=⟨some 104,Op.call { callee:=Callee.builtin Builtin.append,args:=#[.tmp 101,.tmp 103],argTypes:=#[24,24] },24,"l9_page.go:221",#[⟨0,.data⟩,⟨2,.data⟩],none⟩) rfl (fun K hK=>?_) (AllReadyH.cons (o:=⟨some 105,Op.buildSlice 27 0 #[],27,"l9_page.go:221",#[],none⟩) rfl (fun K hK=>?_) AllReadyH.nil)
      ·rw [if_pos (by rfl)]
       refine wp_appB rfl _ _ rfl (w4.heap.size) rfl (some ⟨bb,boff,none⟩) k bc bs rfl H1.out (HSB.out _ (hH26)) (by omega) ?_
       intro a127 n127 c127 v27 hb27
       replace f9:=below_lies hb27 f9 (lies_lt f9)
       refine hK.out _ _ (hH26.trans (hb27.mono hH26.size)) (fun hH27=>?_)
       clear hK K
       try simp only [Act.put,List.setIfInBounds_toArray,List.set_cons_zero,List.set_cons_succ]
       refine wpAnyH_ready (rs:=[4]) (by kernel_rfl) (by simp) ?_
       refine AllReadyH.cons (o:=⟨some 105,Op.buildSlice 27 0 #[],27,"l9_page.go:221",#[],none⟩) rfl (fun K hK=>?_) AllReadyH.nil
       go_simp
       refine hK.out _ _ (hH27.alloc hH27.size _) (fun hH28=>?_)
       clear hK K
       try simp only [Act.put,List.setIfInBounds_toArray,List.set_cons_zero,List.set_cons_succ]
       replace f9:=heap_in (o:=.cells #[] 61) f9
       generalize World.alloc v27 _ = v28 at hH28 f9 ⊢
       refine wpAnyH_ready (rs:=[7]) (by kernel_rfl) (by simp) ?_
       refine AllReadyH.cons (o:=⟨some 108,Op.call { callee:=Callee.builtin Builtin.append,args:=#[.tmp 105,.tmp 107],argTypes:=#[27,27] },27,"l9_page.go:221",#[⟨4,.data⟩,⟨6,.data⟩,⟨3,.chain⟩],none⟩) rfl (fun K hK=>?_) AllReadyH.nil
       rw [if_pos (by rfl)]
       refine wp_appA rfl _ _ rfl (v27.heap.size) rfl fa nf fc fs rfl H4.out (HSA.out _ (hH28)) (by omega) ?_
       intro a129 n129 c129 v29 hb29
       replace f9:=below_lies hb29 f9 (lies_lt f9)
       refine hK.out _ _ (hH28.trans (hb29.mono hH28.size)) (fun hH29=>?_)
       clear hK K
       try simp only [Act.put,List.setIfInBounds_toArray,List.set_cons_zero,List.set_cons_succ]
       refine wpAnyH_take (i:=10) (oi:=⟨some 111,Op.build 29 #[(0,.tmp 104),(3,.tmp 108),(4,.tmp 110)],29,"l9_page.go:221",#[⟨3,.data⟩,⟨7,.data⟩,⟨9,.data⟩],none⟩) (v:=.agg #[.slice a127 n127 c127,.slice none 0 0,.slice none 0 0,.slice a129 n129 c129,.int .i64 hi]) rfl (by kernel_rfl) (by kernel_rfl) (by kernel_rfl) (fun _ _ _ h=>h) (Or.inl ⟨by rfl,by intro wz hSw;go_simp⟩) hH29 ?_
       simp only [Act.put,List.setIfInBounds_toArray,List.set_cons_zero,List.set_cons_succ]
       refine wpAnyH_ready (rs:=[12]) (by kernel_rfl) (by simp) ?_
       refine AllReadyH.cons (o:=⟨none,Op.store 29 (.tmp 10) (.tmp 111),0,"l9_page.go:221",#[⟨11,.data⟩,⟨10,.data⟩,⟨7,.chain⟩,⟨0,.phase⟩,⟨1,.phase⟩,⟨2,.phase⟩,⟨3,.phase⟩,⟨4,.phase⟩,⟨5,.phase⟩,⟨6,.phase⟩,⟨7,.phase⟩,⟨8,.phase⟩,⟨9,.phase⟩,⟨10,.phase⟩,⟨11,.phase⟩],none⟩) rfl (fun K hK=>?_) AllReadyH.nil
       rw [if_pos (by rfl)]
       refine wp_put9 29 _ _ rfl rfl (v1.heap.size) 0 5 [.slice a127 n127 c127,.slice none 0 0,.slice none 0 0,.slice a129 n129 c129,.int .i64 hi] _ _ rfl rfl f9 rfl (by kernel_rfl) (by kernel_rfl) (by kernel_rfl) ?_
       intro v30 p9 l9
       replace f9:=l9.trans (congrArg (fun c=>some (Obj.cells c 29 (0,0))) (show _ = (#[.slice a127 n127 c127,.slice none 0 0,.slice none 0 0,.slice a129 n129 c129,.int .i64 hi]:Array Value) by kernel_rfl))
       refine hK.out _ _ (p9.below hH29 hg9) (fun hH30=>?_)
       clear hK K l9
       try simp only [Act.put,List.setIfInBounds_toArray,List.set_cons_zero,List.set_cons_succ]
       refine wpAnyH_done (by kernel_rfl) ?_ _
       have HF9:=f9
       have HH:=hH30
       have HG9:=hg9
       clear f9
       go_wp2_with fail
       go_meet
       case rel=>exact ⟨_,_,_,_,_,_,_,rfl,HF9,HG9,HH⟩
      ·go_simp
       refine hK.out _ _ (hH26.alloc hH26.size _) (fun hH31=>?_)
       clear hK K
       try simp only [Act.put,List.setIfInBounds_toArray,List.set_cons_zero,List.set_cons_succ]
       replace f9:=heap_in (o:=.cells #[] 61) f9
       generalize World.alloc v26 _ = v31 at hH31 f9 ⊢
       refine wpAnyH_ready (rs:=[3]) (by kernel_rfl) (by simp) ?_
       refine AllReadyH.cons (o:=⟨some 104,Op.call { callee:=Callee.builtin Builtin.append,args:=#[.tmp 101,.tmp 103],argTypes:=#[24,24] },24,"l9_page.go:221",#[⟨0,.data⟩,⟨2,.data⟩],none⟩) rfl (fun K hK=>?_) AllReadyH.nil
       rw [if_pos (by rfl)]
       refine wp_appB rfl _ _ rfl (w4.heap.size) rfl (some ⟨bb,boff,none⟩) k bc bs rfl H1.out (HSB.out _ (hH31)) (by omega) ?_
       intro a132 n132 c132 v32 hb32
       replace f9:=below_lies hb32 f9 (lies_lt f9)
       refine hK.out _ _ (hH31.trans (hb32.mono hH31.size)) (fun hH32=>?_)
       clear hK K
       try simp only [Act.put,List.setIfInBounds_toArray,List.set_cons_zero,List.set_cons_succ]
       refine wpAnyH_ready (rs:=[7]) (by kernel_rfl) (by simp) ?_
       refine AllReadyH.cons (o:=⟨some 108,Op.call { callee:=Callee.builtin Builtin.append,args:=#[.tmp 105,.tmp 107],argTypes:=#[27,27] },27,"l9_page.go:221",#[⟨4,.data⟩,⟨6,.data⟩,⟨3,.chain⟩],none⟩) rfl (fun K hK=>?_) AllReadyH.nil
       rw [if_pos (by rfl)]
       refine wp_appA rfl _ _ rfl (v26.heap.size) rfl fa nf fc fs rfl H4.out (HSA.out _ (hH32)) (by omega) ?_
       intro a133 n133 c133 v33 hb33
       replace f9:=below_lies hb33 f9 (lies_lt f9)
       refine hK.out _ _ (hH32.trans (hb33.mono hH32.size)) (fun hH33=>?_)
       clear hK K
       try simp only [Act.put,List.setIfInBounds_toArray,List.set_cons_zero,List.set_cons_succ]
       refine wpAnyH_take (i:=10) (oi:=⟨some 111,Op.build 29 #[(0,.tmp 104),(3,.tmp 108),(4,.tmp 110)],29,"l9_page.go:221",#[⟨3,.data⟩,⟨7,.data⟩,⟨9,.data⟩],none⟩) (v:=.agg #[.slice a132 n132 c132,.slice none 0 0,.slice none 0 0,.slice a133 n133 c133,.int .i64 hi]) rfl (by kernel_rfl) (by kernel_rfl) (by kernel_rfl) (fun _ _ _ h=>h) (Or.inl ⟨by rfl,by intro wz hSw;go_simp⟩) hH33 ?_
       simp only [Act.put,List.setIfInBounds_toArray,List.set_cons_zero,List.set_cons_succ]
       refine wpAnyH_ready (rs:=[12]) (by kernel_rfl) (by simp) ?_
       refine AllReadyH.cons (o:=⟨none,Op.store 29 (.tmp 10) (.tmp 111),0,"l9_page.go:221",#[⟨11,.data⟩,⟨10,.data⟩,⟨7,.chain⟩,⟨0,.phase⟩,⟨1,.phase⟩,⟨2,.phase⟩,⟨3,.phase⟩,⟨4,.phase⟩,⟨5,.phase⟩,⟨6,.phase⟩,⟨7,.phase⟩,⟨8,.phase⟩,⟨9,.phase⟩,⟨10,.phase⟩,⟨11,.phase⟩],none⟩) rfl (fun K hK=>?_) AllReadyH.nil
       rw [if_pos (by rfl)]
       refine wp_put9 29 _ _ rfl rfl (v1.heap.size) 0 5 [.slice a132 n132 c132,.slice none 0 0,.slice none 0 0,.slice a133 n133 c133,.int .i64 hi] _ _ rfl rfl f9 rfl (by kernel_rfl) (by kernel_rfl) (by kernel_rfl) ?_
       intro v34 p9 l9
       replace f9:=l9.trans (congrArg (fun c=>some (Obj.cells c 29 (0,0))) (show _ = (#[.slice a132 n132 c132,.slice none 0 0,.slice none 0 0,.slice a133 n133 c133,.int .i64 hi]:Array Value) by kernel_rfl))
       refine hK.out _ _ (p9.below hH33 hg9) (fun hH34=>?_)
       clear hK K l9
       try simp only [Act.put,List.setIfInBounds_toArray,List.set_cons_zero,List.set_cons_succ]
       refine wpAnyH_done (by kernel_rfl) ?_ _
       have HF9:=f9
       have HH:=hH34
       have HG9:=hg9
       clear f9
       go_wp2_with fail
       go_meet
       case rel=>exact ⟨_,_,_,_,_,_,_,rfl,HF9,HG9,HH⟩
    ·go_simp
     refine hK.out _ _ (hHeld.alloc hHeld.size _) (fun hH35=>?_)
     clear hK K
     try simp only [Act.put,List.setIfInBounds_toArray,List.set_cons_zero,List.set_cons_succ]
     generalize World.drew (World.alloc w4 _) = v35 at hH35 ⊢
     refine wpAnyH_ready (rs:=[0,11]) (by kernel_rfl) (by simp) ?_
     refine AllReadyH.cons (o:=⟨some 101,Op.buildSlice 24 0 #[],24,"l9_page.go:221",#[],none⟩) rfl (fun K hK=>?_) (AllReadyH.cons (o:=⟨some 10,Op.alloc 29,0,"l9_page.go:221",#[],none⟩) rfl (fun K hK=>?_) AllReadyH.nil)
     ·go_simp
      refine hK.out _ _ (hH35.alloc hH35.size _) (fun hH36=>?_)
      clear hK K
      try simp only [Act.put,List.setIfInBounds_toArray,List.set_cons_zero,List.set_cons_succ]
      generalize World.alloc v35 _ = v36 at hH36 ⊢
      refine wpAnyH_ready (rs:=[3,11]) (by kernel_rfl) (by simp) ?_
      refine AllReadyH.cons (o:=⟨some 104,Op.call { callee:=Callee.builtin Builtin.append,args:=#[.tmp 101,.tmp 103],argTypes:=#[24,24] },24,"l9_page.go:221",#[⟨0,.data⟩,⟨2,.data⟩],none⟩) rfl (fun K hK=>?_) (AllReadyH.cons (o:=⟨some 10,Op.alloc 29,0,"l9_page.go:221",#[],none⟩) rfl (fun K hK=>?_) AllReadyH.nil)
      ·rw [if_pos (by rfl)]
       refine wp_appB rfl _ _ rfl (v35.heap.size) rfl (some ⟨bb,boff,none⟩) k bc bs rfl H1.out (HSB.out _ (hH36)) (by omega) ?_
       intro a137 n137 c137 v37 hb37
       refine hK.out _ _ (hH36.trans (hb37.mono hH36.size)) (fun hH37=>?_)
       clear hK K
       try simp only [Act.put,List.setIfInBounds_toArray,List.set_cons_zero,List.set_cons_succ]
       refine wpAnyH_ready (rs:=[7,11]) (by kernel_rfl) (by simp) ?_
       refine AllReadyH.cons (o:=⟨some 108,Op.call { callee:=Callee.builtin Builtin.append,args:=#[.tmp 105,.tmp 107],argTypes:=#[27,27] },27,"l9_page.go:221",#[⟨4,.data⟩,⟨6,.data⟩,⟨3,.chain⟩],none⟩) rfl (fun K hK=>?_) (AllReadyH.cons (o:=⟨some 10,Op.alloc 29,0,"l9_page.go:221",#[],none⟩) rfl (fun K hK=>?_) AllReadyH.nil)
       ·rw [if_pos (by rfl)]
        refine wp_appA rfl _ _ rfl (w4.heap.size) rfl fa nf fc fs rfl H4.out (HSA.out _ (hH37)) (by omega) ?_
        intro a138 n138 c138 v38 hb38
        refine hK.out _ _ (hH37.trans (hb38.mono hH37.size)) (fun hH38=>?_)
        clear hK K
        try simp only [Act.put,List.setIfInBounds_toArray,List.set_cons_zero,List.set_cons_succ]
        refine wpAnyH_take (i:=10) (oi:=⟨some 111,Op.build 29 #[(0,.tmp 104),(3,.tmp 108),(4,.tmp 110)],29,"l9_page.go:221",#[⟨3,.data⟩,⟨7,.data⟩,⟨9,.data⟩],none⟩) (v:=.agg #[.slice a137 n137 c137,.slice none 0 0,.slice none 0 0,.slice a138 n138 c138,.int .i64 hi]) rfl (by kernel_rfl) (by kernel_rfl) (by kernel_rfl) (fun _ _ _ h=>h) (Or.inl ⟨by rfl,by intro wz hSw;go_simp⟩) hH38 ?_
        simp only [Act.put,List.setIfInBounds_toArray,List.set_cons_zero,List.set_cons_succ]
        refine wpAnyH_ready (rs:=[11]) (by kernel_rfl) (by simp) ?_
        refine AllReadyH.cons (o:=⟨some 10,Op.alloc 29,0,"l9_page.go:221",#[],none⟩) rfl (fun K hK=>?_) AllReadyH.nil
        go_simp
        refine hK.out _ _ (hH38.alloc hH38.size _) (fun hH39=>?_)
        clear hK K
        try simp only [Act.put,List.setIfInBounds_toArray,List.set_cons_zero,List.set_cons_succ]
        have f9:=heap_at (v38) (.cells (#[.slice none 0 0,.slice none 0 0,.slice none 0 0,.slice none 0 0,.int .i64 0]) 29) (v38.heap.size) rfl
        have hg9:w4.heap.size ≤ v38.heap.size:=hH38.size
        generalize World.alloc v38 _ = v39 at hH39 f9 ⊢
        refine wpAnyH_ready (rs:=[12]) (by kernel_rfl) (by simp) ?_
        refine AllReadyH.cons (o:=⟨none,Op.store 29 (.tmp 10) (.tmp 111),0,"l9_page.go:221",#[⟨11,.data⟩,⟨10,.data⟩,⟨7,.chain⟩,⟨0,.phase⟩,⟨1,.phase⟩,⟨2,.phase⟩,⟨3,.phase⟩,⟨4,.phase⟩,⟨5,.phase⟩,⟨6,.phase⟩,⟨7,.phase⟩,⟨8,.phase⟩,⟨9,.phase⟩,⟨10,.phase⟩,⟨11,.phase⟩],none⟩) rfl (fun K hK=>?_) AllReadyH.nil
        rw [if_pos (by rfl)]
        refine wp_put9 29 _ _ rfl rfl (v38.heap.size) 0 5 [.slice a137 n137 c137,.slice none 0 0,.slice none 0 0,.slice a138 n138 c138,.int .i64 hi] _ _ rfl rfl f9 rfl (by kernel_rfl) (by kernel_rfl) (by kernel_rfl) ?_
        intro v40 p9 l9
        replace f9:=l9.trans (congrArg (fun c=>some (Obj.cells c 29 (0,0))) (show _ = (#[.slice a137 n137 c137,.slice none 0 0,.slice none 0 0,.slice a138 n138 c138,.int .i64 hi]:Array Value) by kernel_rfl))
        refine hK.out _ _ (p9.below hH39 hg9) (fun hH40=>?_)
        clear hK K l9
        try simp only [Act.put,List.setIfInBounds_toArray,List.set_cons_zero,List.set_cons_succ]
        refine wpAnyH_done (by kernel_rfl) ?_ _
        have HF9:=f9
        have HH:=hH40
        have HG9:=hg9
        clear f9
        go_wp2_with fail
        go_meet
        case rel=>exact ⟨_,_,_,_,_,_,_,rfl,HF9,HG9,HH⟩
       ·go_simp
        refine hK.out _ _ (hH37.alloc hH37.size _) (fun hH41=>?_)
        clear hK K
        try simp only [Act.put,List.setIfInBounds_toArray,List.set_cons_zero,List.set_cons_succ]
        have f9:=heap_at (v37) (.cells (#[.slice none 0 0,.slice none 0 0,.slice none 0 0,.slice none 0 0,.int .i64 0]) 29) (v37.heap.size) rfl
        have hg9:w4.heap.size ≤ v37.heap.size:=hH37.size
        generalize World.alloc v37 _ = v41 at hH41 f9 ⊢
        refine wpAnyH_ready (rs:=[7]) (by kernel_rfl) (by simp) ?_
        refine AllReadyH.cons (o:=⟨some 108,Op.call { callee:=Callee.builtin Builtin.append,args:=#[.tmp 105,.tmp 107],argTypes:=#[27,27] },27,"l9_page.go:221",#[⟨4,.data⟩,⟨6,.data⟩,⟨3,.chain⟩],none⟩) rfl (fun K hK=>?_) AllReadyH.nil
        rw [if_pos (by rfl)]
        refine wp_appA rfl _ _ rfl (w4.heap.size) rfl fa nf fc fs rfl H4.out (HSA.out _ (hH41)) (by omega) ?_
        intro a142 n142 c142 v42 hb42
        replace f9:=below_lies hb42 f9 (lies_lt f9)
        refine hK.out _ _ (hH41.trans (hb42.mono hH41.size)) (fun hH42=>?_)
        clear hK K
        try simp only [Act.put,List.setIfInBounds_toArray,List.set_cons_zero,List.set_cons_succ]
        refine wpAnyH_take (i:=10) (oi:=⟨some 111,Op.build 29 #[(0,.tmp 104),(3,.tmp 108),(4,.tmp 110)],29,"l9_page.go:221",#[⟨3,.data⟩,⟨7,.data⟩,⟨9,.data⟩],none⟩) (v:=.agg #[.slice a137 n137 c137,.slice none 0 0,.slice none 0 0,.slice a142 n142 c142,.int .i64 hi]) rfl (by kernel_rfl) (by kernel_rfl) (by kernel_rfl) (fun _ _ _ h=>h) (Or.inl ⟨by rfl,by intro wz hSw;go_simp⟩) hH42 ?_
        simp only [Act.put,List.setIfInBounds_toArray,List.set_cons_zero,List.set_cons_succ]
        refine wpAnyH_ready (rs:=[12]) (by kernel_rfl) (by simp) ?_
        refine AllReadyH.cons (o:=⟨none,Op.store 29 (.tmp 10) (.tmp 111),0,"l9_page.go:221",#[⟨11,.data⟩,⟨10,.data⟩,⟨7,.chain⟩,⟨0,.phase⟩,⟨1,.phase⟩,⟨2,.phase⟩,⟨3,.phase⟩,⟨4,.phase⟩,⟨5,.phase⟩,⟨6,.phase⟩,⟨7,.phase⟩,⟨8,.phase⟩,⟨9,.phase⟩,⟨10,.phase⟩,⟨11,.phase⟩],none⟩) rfl (fun K hK=>?_) AllReadyH.nil
        rw [if_pos (by rfl)]
        refine wp_put9 29 _ _ rfl rfl (v37.heap.size) 0 5 [.slice a137 n137 c137,.slice none 0 0,.slice none 0 0,.slice a142 n142 c142,.int .i64 hi] _ _ rfl rfl f9 rfl (by kernel_rfl) (by kernel_rfl) (by kernel_rfl) ?_
        intro v43 p9 l9
        replace f9:=l9.trans (congrArg (fun c=>some (Obj.cells c 29 (0,0))) (show _ = (#[.slice a137 n137 c137,.slice none 0 0,.slice none 0 0,.slice a142 n142 c142,.int .i64 hi]:Array Value) by kernel_rfl))
        refine hK.out _ _ (p9.below hH42 hg9) (fun hH43=>?_)
        clear hK K l9
        try simp only [Act.put,List.setIfInBounds_toArray,List.set_cons_zero,List.set_cons_succ]
        refine wpAnyH_done (by kernel_rfl) ?_ _
        have HF9:=f9
        have HH:=hH43
        have HG9:=hg9
        clear f9
        go_wp2_with fail
        go_meet
        case rel=>exact ⟨_,_,_,_,_,_,_,rfl,HF9,HG9,HH⟩
      ·go_simp
       refine hK.out _ _ (hH36.alloc hH36.size _) (fun hH44=>?_)
       clear hK K
       try simp only [Act.put,List.setIfInBounds_toArray,List.set_cons_zero,List.set_cons_succ]
       have f9:=heap_at (v36) (.cells (#[.slice none 0 0,.slice none 0 0,.slice none 0 0,.slice none 0 0,.int .i64 0]) 29) (v36.heap.size) rfl
       have hg9:w4.heap.size ≤ v36.heap.size:=hH36.size
       generalize World.alloc v36 _ = v44 at hH44 f9 ⊢
       refine wpAnyH_ready (rs:=[3]) (by kernel_rfl) (by simp) ?_
       refine AllReadyH.cons (o:=⟨some 104,Op.call { callee:=Callee.builtin Builtin.append,args:=#[.tmp 101,.tmp 103],argTypes:=#[24,24] },24,"l9_page.go:221",#[⟨0,.data⟩,⟨2,.data⟩],none⟩) rfl (fun K hK=>?_) AllReadyH.nil
       rw [if_pos (by rfl)]
       refine wp_appB rfl _ _ rfl (v35.heap.size) rfl (some ⟨bb,boff,none⟩) k bc bs rfl H1.out (HSB.out _ (hH44)) (by omega) ?_
       intro a145 n145 c145 v45 hb45
       replace f9:=below_lies hb45 f9 (lies_lt f9)
       refine hK.out _ _ (hH44.trans (hb45.mono hH44.size)) (fun hH45=>?_)
       clear hK K
       try simp only [Act.put,List.setIfInBounds_toArray,List.set_cons_zero,List.set_cons_succ]
       refine wpAnyH_ready (rs:=[7]) (by kernel_rfl) (by simp) ?_
       refine AllReadyH.cons (o:=⟨some 108,Op.call { callee:=Callee.builtin Builtin.append,args:=#[.tmp 105,.tmp 107],argTypes:=#[27,27] },27,"l9_page.go:221",#[⟨4,.data⟩,⟨6,.data⟩,⟨3,.chain⟩],none⟩) rfl (fun K hK=>?_) AllReadyH.nil
       rw [if_pos (by rfl)]
       refine wp_appA rfl _ _ rfl (w4.heap.size) rfl fa nf fc fs rfl H4.out (HSA.out _ (hH45)) (by omega) ?_
       intro a146 n146 c146 v46 hb46
       replace f9:=below_lies hb46 f9 (lies_lt f9)
       refine hK.out _ _ (hH45.trans (hb46.mono hH45.size)) (fun hH46=>?_)
       clear hK K
       try simp only [Act.put,List.setIfInBounds_toArray,List.set_cons_zero,List.set_cons_succ]
       refine wpAnyH_take (i:=10) (oi:=⟨some 111,Op.build 29 #[(0,.tmp 104),(3,.tmp 108),(4,.tmp 110)],29,"l9_page.go:221",#[⟨3,.data⟩,⟨7,.data⟩,⟨9,.data⟩],none⟩) (v:=.agg #[.slice a145 n145 c145,.slice none 0 0,.slice none 0 0,.slice a146 n146 c146,.int .i64 hi]) rfl (by kernel_rfl) (by kernel_rfl) (by kernel_rfl) (fun _ _ _ h=>h) (Or.inl ⟨by rfl,by intro wz hSw;go_simp⟩) hH46 ?_
       simp only [Act.put,List.setIfInBounds_toArray,List.set_cons_zero,List.set_cons_succ]
       refine wpAnyH_ready (rs:=[12]) (by kernel_rfl) (by simp) ?_
       refine AllReadyH.cons (o:=⟨none,Op.store 29 (.tmp 10) (.tmp 111),0,"l9_page.go:221",#[⟨11,.data⟩,⟨10,.data⟩,⟨7,.chain⟩,⟨0,.phase⟩,⟨1,.phase⟩,⟨2,.phase⟩,⟨3,.phase⟩,⟨4,.phase⟩,⟨5,.phase⟩,⟨6,.phase⟩,⟨7,.phase⟩,⟨8,.phase⟩,⟨9,.phase⟩,⟨10,.phase⟩,⟨11,.phase⟩],none⟩) rfl (fun K hK=>?_) AllReadyH.nil
       rw [if_pos (by rfl)]
       refine wp_put9 29 _ _ rfl rfl (v36.heap.size) 0 5 [.slice a145 n145 c145,.slice none 0 0,.slice none 0 0,.slice a146 n146 c146,.int .i64 hi] _ _ rfl rfl f9 rfl (by kernel_rfl) (by kernel_rfl) (by kernel_rfl) ?_
       intro v47 p9 l9
       replace f9:=l9.trans (congrArg (fun c=>some (Obj.cells c 29 (0,0))) (show _ = (#[.slice a145 n145 c145,.slice none 0 0,.slice none 0 0,.slice a146 n146 c146,.int .i64 hi]:Array Value) by kernel_rfl))
       refine hK.out _ _ (p9.below hH46 hg9) (fun hH47=>?_)
       clear hK K l9
       try simp only [Act.put,List.setIfInBounds_toArray,List.set_cons_zero,List.set_cons_succ]
       refine wpAnyH_done (by kernel_rfl) ?_ _
       have HF9:=f9
       have HH:=hH47
       have HG9:=hg9
       clear f9
       go_wp2_with fail
       go_meet
       case rel=>exact ⟨_,_,_,_,_,_,_,rfl,HF9,HG9,HH⟩
     ·go_simp
      refine hK.out _ _ (hH35.alloc hH35.size _) (fun hH48=>?_)
      clear hK K
      try simp only [Act.put,List.setIfInBounds_toArray,List.set_cons_zero,List.set_cons_succ]
      have f9:=heap_at (v35) (.cells (#[.slice none 0 0,.slice none 0 0,.slice none 0 0,.slice none 0 0,.int .i64 0]) 29) (v35.heap.size) rfl
      have hg9:w4.heap.size ≤ v35.heap.size:=hH35.size
      generalize World.alloc v35 _ = v48 at hH48 f9 ⊢
      refine wpAnyH_ready (rs:=[0]) (by kernel_rfl) (by simp) ?_
      refine AllReadyH.cons (o:=⟨some 101,Op.buildSlice 24 0 #[],24,"l9_page.go:221",#[],none⟩) rfl (fun K hK=>?_) AllReadyH.nil
      go_simp
      refine hK.out _ _ (hH48.alloc hH48.size _) (fun hH49=>?_)
      clear hK K
      try simp only [Act.put,List.setIfInBounds_toArray,List.set_cons_zero,List.set_cons_succ]
      replace f9:=heap_in (o:=.cells #[] 41) f9
      generalize World.alloc v48 _ = v49 at hH49 f9 ⊢
      refine wpAnyH_ready (rs:=[3]) (by kernel_rfl) (by simp) ?_
      refine AllReadyH.cons (o:=⟨some 104,Op.call { callee:=Callee.builtin Builtin.append,args:=#[.tmp 101,.tmp 103],argTypes:=#[24,24] },24,"l9_page.go:221",#[⟨0,.data⟩,⟨2,.data⟩],none⟩) rfl (fun K hK=>?_) AllReadyH.nil
      rw [if_pos (by rfl)]
      refine wp_appB rfl _ _ rfl (v48.heap.size) rfl (some ⟨bb,boff,none⟩) k bc bs rfl H1.out (HSB.out _ (hH49)) (by omega) ?_
      intro a150 n150 c150 v50 hb50
      replace f9:=below_lies hb50 f9 (lies_lt f9)
      refine hK.out _ _ (hH49.trans (hb50.mono hH49.size)) (fun hH50=>?_)
      clear hK K
      try simp only [Act.put,List.setIfInBounds_toArray,List.set_cons_zero,List.set_cons_succ]
      refine wpAnyH_ready (rs:=[7]) (by kernel_rfl) (by simp) ?_
      refine AllReadyH.cons (o:=⟨some 108,Op.call { callee:=Callee.builtin Builtin.append,args:=#[.tmp 105,.tmp 107],argTypes:=#[27,27] },27,"l9_page.go:221",#[⟨4,.data⟩,⟨6,.data⟩,⟨3,.chain⟩],none⟩) rfl (fun K hK=>?_) AllReadyH.nil
      rw [if_pos (by rfl)]
      refine wp_appA rfl _ _ rfl (w4.heap.size) rfl fa nf fc fs rfl H4.out (HSA.out _ (hH50)) (by omega) ?_
      intro a151 n151 c151 v51 hb51
      replace f9:=below_lies hb51 f9 (lies_lt f9)
      refine hK.out _ _ (hH50.trans (hb51.mono hH50.size)) (fun hH51=>?_)
      clear hK K
      try simp only [Act.put,List.setIfInBounds_toArray,List.set_cons_zero,List.set_cons_succ]
      refine wpAnyH_take (i:=10) (oi:=⟨some 111,Op.build 29 #[(0,.tmp 104),(3,.tmp 108),(4,.tmp 110)],29,"l9_page.go:221",#[⟨3,.data⟩,⟨7,.data⟩,⟨9,.data⟩],none⟩) (v:=.agg #[.slice a150 n150 c150,.slice none 0 0,.slice none 0 0,.slice a151 n151 c151,.int .i64 hi]) rfl (by kernel_rfl) (by kernel_rfl) (by kernel_rfl) (fun _ _ _ h=>h) (Or.inl ⟨by rfl,by intro wz hSw;go_simp⟩) hH51 ?_
      simp only [Act.put,List.setIfInBounds_toArray,List.set_cons_zero,List.set_cons_succ]
      refine wpAnyH_ready (rs:=[12]) (by kernel_rfl) (by simp) ?_
      refine AllReadyH.cons (o:=⟨none,Op.store 29 (.tmp 10) (.tmp 111),0,"l9_page.go:221",#[⟨11,.data⟩,⟨10,.data⟩,⟨7,.chain⟩,⟨0,.phase⟩,⟨1,.phase⟩,⟨2,.phase⟩,⟨3,.phase⟩,⟨4,.phase⟩,⟨5,.phase⟩,⟨6,.phase⟩,⟨7,.phase⟩,⟨8,.phase⟩,⟨9,.phase⟩,⟨10,.phase⟩,⟨11,.phase⟩],none⟩) rfl (fun K hK=>?_) AllReadyH.nil
      rw [if_pos (by rfl)]
      refine wp_put9 29 _ _ rfl rfl (v35.heap.size) 0 5 [.slice a150 n150 c150,.slice none 0 0,.slice none 0 0,.slice a151 n151 c151,.int .i64 hi] _ _ rfl rfl f9 rfl (by kernel_rfl) (by kernel_rfl) (by kernel_rfl) ?_
      intro v52 p9 l9
      replace f9:=l9.trans (congrArg (fun c=>some (Obj.cells c 29 (0,0))) (show _ = (#[.slice a150 n150 c150,.slice none 0 0,.slice none 0 0,.slice a151 n151 c151,.int .i64 hi]:Array Value) by kernel_rfl))
      refine hK.out _ _ (p9.below hH51 hg9) (fun hH52=>?_)
      clear hK K l9
      try simp only [Act.put,List.setIfInBounds_toArray,List.set_cons_zero,List.set_cons_succ]
      refine wpAnyH_done (by kernel_rfl) ?_ _
      have HF9:=f9
      have HH:=hH52
      have HG9:=hg9
      clear f9
      go_wp2_with fail
      go_meet
      case rel=>exact ⟨_,_,_,_,_,_,_,rfl,HF9,HG9,HH⟩
    ·go_simp
     refine hK.out _ _ (hHeld.alloc hHeld.size _) (fun hH53=>?_)
     clear hK K
     try simp only [Act.put,List.setIfInBounds_toArray,List.set_cons_zero,List.set_cons_succ]
     have f9:(World.drew (World.alloc w4 (.cells (#[.slice none 0 0,.slice none 0 0,.slice none 0 0,.slice none 0 0,.int .i64 0]) 29))).heap[w4.heap.size]? = some (.cells (#[.slice none 0 0,.slice none 0 0,.slice none 0 0,.slice none 0 0,.int .i64 0]) 29 (0,0)):=heap_at (w4) (.cells (#[.slice none 0 0,.slice none 0 0,.slice none 0 0,.slice none 0 0,.int .i64 0]) 29) (w4.heap.size) rfl
     have hg9:w4.heap.size ≤ w4.heap.size:=hHeld.size
     generalize World.drew (World.alloc w4 _) = v53 at hH53 f9 ⊢
     refine wpAnyH_ready (rs:=[0,4]) (by kernel_rfl) (by simp) ?_
     refine AllReadyH.cons (o:=⟨some 101,Op.buildSlice 24 0 #[],24,"l9_page.go:221",#[],none⟩) rfl (fun K hK=>?_) (AllReadyH.cons (o:=⟨some 105,Op.buildSlice 27 0 #[],27,"l9_page.go:221",#[],none⟩) rfl (fun K hK=>?_) AllReadyH.nil)
     ·go_simp
      refine hK.out _ _ (hH53.alloc hH53.size _) (fun hH54=>?_)
      clear hK K
      try simp only [Act.put,List.setIfInBounds_toArray,List.set_cons_zero,List.set_cons_succ]
      replace f9:=heap_in (o:=.cells #[] 41) f9
      generalize World.alloc v53 _ = v54 at hH54 f9 ⊢
      refine wpAnyH_ready (rs:=[3,4]) (by kernel_rfl) (by simp) ?_
      refine AllReadyH.cons (o:=⟨some 104,Op.call { callee:=Callee.builtin Builtin.append,args:=#[.tmp 101,.tmp 103],argTypes:=#[24,24] },24,"l9_page.go:221",#[⟨0,.data⟩,⟨2,.data⟩],none⟩) rfl (fun K hK=>?_) (AllReadyH.cons (o:=⟨some 105,Op.buildSlice 27 0 #[],27,"l9_page.go:221",#[],none⟩) rfl (fun K hK=>?_) AllReadyH.nil)
      ·rw [if_pos (by rfl)]
       refine wp_appB rfl _ _ rfl (v53.heap.size) rfl (some ⟨bb,boff,none⟩) k bc bs rfl H1.out (HSB.out _ (hH54)) (by omega) ?_
       intro a155 n155 c155 v55 hb55
       replace f9:=below_lies hb55 f9 (lies_lt f9)
       refine hK.out _ _ (hH54.trans (hb55.mono hH54.size)) (fun hH55=>?_)
       clear hK K
       try simp only [Act.put,List.setIfInBounds_toArray,List.set_cons_zero,List.set_cons_succ]
       refine wpAnyH_ready (rs:=[4]) (by kernel_rfl) (by simp) ?_
       refine AllReadyH.cons (o:=⟨some 105,Op.buildSlice 27 0 #[],27,"l9_page.go:221",#[],none⟩) rfl (fun K hK=>?_) AllReadyH.nil
       go_simp
       refine hK.out _ _ (hH55.alloc hH55.size _) (fun hH56=>?_)
       clear hK K
       try simp only [Act.put,List.setIfInBounds_toArray,List.set_cons_zero,List.set_cons_succ]
       replace f9:=heap_in (o:=.cells #[] 61) f9
       generalize World.alloc v55 _ = v56 at hH56 f9 ⊢
       refine wpAnyH_ready (rs:=[7]) (by kernel_rfl) (by simp) ?_
       refine AllReadyH.cons (o:=⟨some 108,Op.call { callee:=Callee.builtin Builtin.append,args:=#[.tmp 105,.tmp 107],argTypes:=#[27,27] },27,"l9_page.go:221",#[⟨4,.data⟩,⟨6,.data⟩,⟨3,.chain⟩],none⟩) rfl (fun K hK=>?_) AllReadyH.nil
       rw [if_pos (by rfl)]
       refine wp_appA rfl _ _ rfl (v55.heap.size) rfl fa nf fc fs rfl H4.out (HSA.out _ (hH56)) (by omega) ?_
       intro a157 n157 c157 v57 hb57
       replace f9:=below_lies hb57 f9 (lies_lt f9)
       refine hK.out _ _ (hH56.trans (hb57.mono hH56.size)) (fun hH57=>?_)
       clear hK K
       try simp only [Act.put,List.setIfInBounds_toArray,List.set_cons_zero,List.set_cons_succ]
       refine wpAnyH_take (i:=10) (oi:=⟨some 111,Op.build 29 #[(0,.tmp 104),(3,.tmp 108),(4,.tmp 110)],29,"l9_page.go:221",#[⟨3,.data⟩,⟨7,.data⟩,⟨9,.data⟩],none⟩) (v:=.agg #[.slice a155 n155 c155,.slice none 0 0,.slice none 0 0,.slice a157 n157 c157,.int .i64 hi]) rfl (by kernel_rfl) (by kernel_rfl) (by kernel_rfl) (fun _ _ _ h=>h) (Or.inl ⟨by rfl,by intro wz hSw;go_simp⟩) hH57 ?_
       simp only [Act.put,List.setIfInBounds_toArray,List.set_cons_zero,List.set_cons_succ]
       refine wpAnyH_ready (rs:=[12]) (by kernel_rfl) (by simp) ?_
       refine AllReadyH.cons (o:=⟨none,Op.store 29 (.tmp 10) (.tmp 111),0,"l9_page.go:221",#[⟨11,.data⟩,⟨10,.data⟩,⟨7,.chain⟩,⟨0,.phase⟩,⟨1,.phase⟩,⟨2,.phase⟩,⟨3,.phase⟩,⟨4,.phase⟩,⟨5,.phase⟩,⟨6,.phase⟩,⟨7,.phase⟩,⟨8,.phase⟩,⟨9,.phase⟩,⟨10,.phase⟩,⟨11,.phase⟩],none⟩) rfl (fun K hK=>?_) AllReadyH.nil
       rw [if_pos (by rfl)]
       refine wp_put9 29 _ _ rfl rfl (w4.heap.size) 0 5 [.slice a155 n155 c155,.slice none 0 0,.slice none 0 0,.slice a157 n157 c157,.int .i64 hi] _ _ rfl rfl f9 rfl (by kernel_rfl) (by kernel_rfl) (by kernel_rfl) ?_
       intro v58 p9 l9
       replace f9:=l9.trans (congrArg (fun c=>some (Obj.cells c 29 (0,0))) (show _ = (#[.slice a155 n155 c155,.slice none 0 0,.slice none 0 0,.slice a157 n157 c157,.int .i64 hi]:Array Value) by kernel_rfl))
       refine hK.out _ _ (p9.below hH57 hg9) (fun hH58=>?_)
       clear hK K l9
       try simp only [Act.put,List.setIfInBounds_toArray,List.set_cons_zero,List.set_cons_succ]
       refine wpAnyH_done (by kernel_rfl) ?_ _
       have HF9:=f9
       have HH:=hH58
       have HG9:=hg9
       clear f9
       go_wp2_with fail
       go_meet
       case rel=>exact ⟨_,_,_,_,_,_,_,rfl,HF9,HG9,HH⟩
      ·go_simp
       refine hK.out _ _ (hH54.alloc hH54.size _) (fun hH59=>?_)
       clear hK K
       try simp only [Act.put,List.setIfInBounds_toArray,List.set_cons_zero,List.set_cons_succ]
       replace f9:=heap_in (o:=.cells #[] 61) f9
       generalize World.alloc v54 _ = v59 at hH59 f9 ⊢
       refine wpAnyH_ready (rs:=[3]) (by kernel_rfl) (by simp) ?_
       refine AllReadyH.cons (o:=⟨some 104,Op.call { callee:=Callee.builtin Builtin.append,args:=#[.tmp 101,.tmp 103],argTypes:=#[24,24] },24,"l9_page.go:221",#[⟨0,.data⟩,⟨2,.data⟩],none⟩) rfl (fun K hK=>?_) AllReadyH.nil
       rw [if_pos (by rfl)]
       refine wp_appB rfl _ _ rfl (v53.heap.size) rfl (some ⟨bb,boff,none⟩) k bc bs rfl H1.out (HSB.out _ (hH59)) (by omega) ?_
       intro a160 n160 c160 v60 hb60
       replace f9:=below_lies hb60 f9 (lies_lt f9)
       refine hK.out _ _ (hH59.trans (hb60.mono hH59.size)) (fun hH60=>?_)
       clear hK K
       try simp only [Act.put,List.setIfInBounds_toArray,List.set_cons_zero,List.set_cons_succ]
       refine wpAnyH_ready (rs:=[7]) (by kernel_rfl) (by simp) ?_
       refine AllReadyH.cons (o:=⟨some 108,Op.call { callee:=Callee.builtin Builtin.append,args:=#[.tmp 105,.tmp 107],argTypes:=#[27,27] },27,"l9_page.go:221",#[⟨4,.data⟩,⟨6,.data⟩,⟨3,.chain⟩],none⟩) rfl (fun K hK=>?_) AllReadyH.nil
       rw [if_pos (by rfl)]
       refine wp_appA rfl _ _ rfl (v54.heap.size) rfl fa nf fc fs rfl H4.out (HSA.out _ (hH60)) (by omega) ?_
       intro a161 n161 c161 v61 hb61
       replace f9:=below_lies hb61 f9 (lies_lt f9)
       refine hK.out _ _ (hH60.trans (hb61.mono hH60.size)) (fun hH61=>?_)
       clear hK K
       try simp only [Act.put,List.setIfInBounds_toArray,List.set_cons_zero,List.set_cons_succ]
       refine wpAnyH_take (i:=10) (oi:=⟨some 111,Op.build 29 #[(0,.tmp 104),(3,.tmp 108),(4,.tmp 110)],29,"l9_page.go:221",#[⟨3,.data⟩,⟨7,.data⟩,⟨9,.data⟩],none⟩) (v:=.agg #[.slice a160 n160 c160,.slice none 0 0,.slice none 0 0,.slice a161 n161 c161,.int .i64 hi]) rfl (by kernel_rfl) (by kernel_rfl) (by kernel_rfl) (fun _ _ _ h=>h) (Or.inl ⟨by rfl,by intro wz hSw;go_simp⟩) hH61 ?_
       simp only [Act.put,List.setIfInBounds_toArray,List.set_cons_zero,List.set_cons_succ]
       refine wpAnyH_ready (rs:=[12]) (by kernel_rfl) (by simp) ?_
       refine AllReadyH.cons (o:=⟨none,Op.store 29 (.tmp 10) (.tmp 111),0,"l9_page.go:221",#[⟨11,.data⟩,⟨10,.data⟩,⟨7,.chain⟩,⟨0,.phase⟩,⟨1,.phase⟩,⟨2,.phase⟩,⟨3,.phase⟩,⟨4,.phase⟩,⟨5,.phase⟩,⟨6,.phase⟩,⟨7,.phase⟩,⟨8,.phase⟩,⟨9,.phase⟩,⟨10,.phase⟩,⟨11,.phase⟩],none⟩) rfl (fun K hK=>?_) AllReadyH.nil
       rw [if_pos (by rfl)]
       refine wp_put9 29 _ _ rfl rfl (w4.heap.size) 0 5 [.slice a160 n160 c160,.slice none 0 0,.slice none 0 0,.slice a161 n161 c161,.int .i64 hi] _ _ rfl rfl f9 rfl (by kernel_rfl) (by kernel_rfl) (by kernel_rfl) ?_
       intro v62 p9 l9
       replace f9:=l9.trans (congrArg (fun c=>some (Obj.cells c 29 (0,0))) (show _ = (#[.slice a160 n160 c160,.slice none 0 0,.slice none 0 0,.slice a161 n161 c161,.int .i64 hi]:Array Value) by kernel_rfl))
       refine hK.out _ _ (p9.below hH61 hg9) (fun hH62=>?_)
       clear hK K l9
       try simp only [Act.put,List.setIfInBounds_toArray,List.set_cons_zero,List.set_cons_succ]
       refine wpAnyH_done (by kernel_rfl) ?_ _
       have HF9:=f9
       have HH:=hH62
       have HG9:=hg9
       clear f9
       go_wp2_with fail
       go_meet
       case rel=>exact ⟨_,_,_,_,_,_,_,rfl,HF9,HG9,HH⟩
     ·go_simp
      refine hK.out _ _ (hH53.alloc hH53.size _) (fun hH63=>?_)
      clear hK K
      try simp only [Act.put,List.setIfInBounds_toArray,List.set_cons_zero,List.set_cons_succ]
      replace f9:=heap_in (o:=.cells #[] 61) f9
      generalize World.alloc v53 _ = v63 at hH63 f9 ⊢
      refine wpAnyH_ready (rs:=[0]) (by kernel_rfl) (by simp) ?_
      refine AllReadyH.cons (o:=⟨some 101,Op.buildSlice 24 0 #[],24,"l9_page.go:221",#[],none⟩) rfl (fun K hK=>?_) AllReadyH.nil
      go_simp
      refine hK.out _ _ (hH63.alloc hH63.size _) (fun hH64=>?_)
      clear hK K
      try simp only [Act.put,List.setIfInBounds_toArray,List.set_cons_zero,List.set_cons_succ]
      replace f9:=heap_in (o:=.cells #[] 41) f9
      generalize World.alloc v63 _ = v64 at hH64 f9 ⊢
      refine wpAnyH_ready (rs:=[3]) (by kernel_rfl) (by simp) ?_
      refine AllReadyH.cons (o:=⟨some 104,Op.call { callee:=Callee.builtin Builtin.append,args:=#[.tmp 101,.tmp 103],argTypes:=#[24,24] },24,"l9_page.go:221",#[⟨0,.data⟩,⟨2,.data⟩],none⟩) rfl (fun K hK=>?_) AllReadyH.nil
      rw [if_pos (by rfl)]
      refine wp_appB rfl _ _ rfl (v63.heap.size) rfl (some ⟨bb,boff,none⟩) k bc bs rfl H1.out (HSB.out _ (hH64)) (by omega) ?_
      intro a165 n165 c165 v65 hb65
      replace f9:=below_lies hb65 f9 (lies_lt f9)
      refine hK.out _ _ (hH64.trans (hb65.mono hH64.size)) (fun hH65=>?_)
      clear hK K
      try simp only [Act.put,List.setIfInBounds_toArray,List.set_cons_zero,List.set_cons_succ]
      refine wpAnyH_ready (rs:=[7]) (by kernel_rfl) (by simp) ?_
      refine AllReadyH.cons (o:=⟨some 108,Op.call { callee:=Callee.builtin Builtin.append,args:=#[.tmp 105,.tmp 107],argTypes:=#[27,27] },27,"l9_page.go:221",#[⟨4,.data⟩,⟨6,.data⟩,⟨3,.chain⟩],none⟩) rfl (fun K hK=>?_) AllReadyH.nil
      rw [if_pos (by rfl)]
      refine wp_appA rfl _ _ rfl (v53.heap.size) rfl fa nf fc fs rfl H4.out (HSA.out _ (hH65)) (by omega) ?_
      intro a166 n166 c166 v66 hb66
      replace f9:=below_lies hb66 f9 (lies_lt f9)
      refine hK.out _ _ (hH65.trans (hb66.mono hH65.size)) (fun hH66=>?_)
      clear hK K
      try simp only [Act.put,List.setIfInBounds_toArray,List.set_cons_zero,List.set_cons_succ]
      refine wpAnyH_take (i:=10) (oi:=⟨some 111,Op.build 29 #[(0,.tmp 104),(3,.tmp 108),(4,.tmp 110)],29,"l9_page.go:221",#[⟨3,.data⟩,⟨7,.data⟩,⟨9,.data⟩],none⟩) (v:=.agg #[.slice a165 n165 c165,.slice none 0 0,.slice none 0 0,.slice a166 n166 c166,.int .i64 hi]) rfl (by kernel_rfl) (by kernel_rfl) (by kernel_rfl) (fun _ _ _ h=>h) (Or.inl ⟨by rfl,by intro wz hSw;go_simp⟩) hH66 ?_
      simp only [Act.put,List.setIfInBounds_toArray,List.set_cons_zero,List.set_cons_succ]
      refine wpAnyH_ready (rs:=[12]) (by kernel_rfl) (by simp) ?_
      refine AllReadyH.cons (o:=⟨none,Op.store 29 (.tmp 10) (.tmp 111),0,"l9_page.go:221",#[⟨11,.data⟩,⟨10,.data⟩,⟨7,.chain⟩,⟨0,.phase⟩,⟨1,.phase⟩,⟨2,.phase⟩,⟨3,.phase⟩,⟨4,.phase⟩,⟨5,.phase⟩,⟨6,.phase⟩,⟨7,.phase⟩,⟨8,.phase⟩,⟨9,.phase⟩,⟨10,.phase⟩,⟨11,.phase⟩],none⟩) rfl (fun K hK=>?_) AllReadyH.nil
      rw [if_pos (by rfl)]
      refine wp_put9 29 _ _ rfl rfl (w4.heap.size) 0 5 [.slice a165 n165 c165,.slice none 0 0,.slice none 0 0,.slice a166 n166 c166,.int .i64 hi] _ _ rfl rfl f9 rfl (by kernel_rfl) (by kernel_rfl) (by kernel_rfl) ?_
      intro v67 p9 l9
      replace f9:=l9.trans (congrArg (fun c=>some (Obj.cells c 29 (0,0))) (show _ = (#[.slice a165 n165 c165,.slice none 0 0,.slice none 0 0,.slice a166 n166 c166,.int .i64 hi]:Array Value) by kernel_rfl))
      refine hK.out _ _ (p9.below hH66 hg9) (fun hH67=>?_)
      clear hK K l9
      try simp only [Act.put,List.setIfInBounds_toArray,List.set_cons_zero,List.set_cons_succ]
      refine wpAnyH_done (by kernel_rfl) ?_ _
      have HF9:=f9
      have HH:=hH67
      have HG9:=hg9
      clear f9
      go_wp2_with fail
      go_meet
      case rel=>exact ⟨_,_,_,_,_,_,_,rfl,HF9,HG9,HH⟩
   case rest =>
    obtain ⟨gm,a1,a4,n1,c1,n4,c4,rfl,lM,hgm,b4⟩:=hcut
    obtain ⟨V0,hV0⟩:∃ W,W = wc:=⟨_,rfl⟩
    subst hV0
    have M4:=HMA.out.below b4
    have HM4:Hid (MvAt w V0 w1.heap.size (w1.heap.size + 1) (.cells (numsV R).toArray 3 (0,0)) (.cells (numsV D).toArray 3 (0,0)) ⟨some ⟨bb,boff,none⟩,bc,bs,some ⟨pb,poff,none⟩,pc,ps,la,lc,ls,fa,fc,fs,hi⟩):=M4
    have HLM:Hid (V0.heap[gm]? = some (.cells #[.slice a1 n1 c1,.slice none 0 0,.slice none 0 0,.slice a4 n4 c4,.int .i64 hi] 29 (0,0))):=lM
    have c1':V0.cell? ⟨w.heap.size,1,none⟩ = some (.slice (some ⟨pb,poff,none⟩) k pc):=(lies_cell M4.pg 1).trans (by show some (Value.slice _ ps.length _) = _;rw [← H2.out])
    have hgm1:w1.heap.size + 1 < gm:=by omega
    have aX:=HAX0.out
    clear M4 lM b4 k0 k3 k4 HSB HSA HMA HAX0
    go_wp2_with fail
    go_loopw [115] (fun i wr=>∃ (k':Nat) (vq:Value),k' ≤ k ∧ i = .int .i64 k' ∧ MvAt w wr w1.heap.size (w1.heap.size + 1) (.cells (numsV R).toArray 3 (0,0)) (.cells (numsV D).toArray 3 (0,0)) ⟨some ⟨bb,boff,none⟩,bc,bs,some ⟨pb,poff,none⟩,pc,ps,la,lc,ls,fa,fc,fs,hi⟩ ∧ wr.heap[gm]? = some (.cells #[.slice a1 n1 c1,vq,.slice none 0 0,.slice a4 n4 c4,.int .i64 hi] 29 (0,0)) ∧ OwnQ wr w.heap.size vq (placesM ns bs ps k')) (fun i _=>k - (intOf i).toNat)
    case atStart=>exact ⟨0,.slice none 0 0,Nat.zero_le _,rfl,HM4.out,HLM.out,ownQ_nil _ _⟩
    case round =>
     obtain ⟨i,vq,hk',rfl,hMA,lM,hoq⟩:=hrel
     obtain ⟨aq,cq,hvq,hcq,hrq,-⟩:=OwnQ.form hoq
     rw [placesM_len] at hvq
     subst hvq
     clear HM4 HLM
     have HOQ:Hid (OwnQ wr w.heap.size (.slice aq i cq) (placesM ns bs ps i)):=hoq
     have HMA:Hid (MvAt w wr w1.heap.size (w1.heap.size + 1) (.cells (numsV R).toArray 3 (0,0)) (.cells (numsV D).toArray 3 (0,0)) ⟨some ⟨bb,boff,none⟩,bc,bs,some ⟨pb,poff,none⟩,pc,ps,la,lc,ls,fa,fc,fs,hi⟩):=hMA
     have HLM:Hid (wr.heap[gm]? = some (.cells #[.slice a1 n1 c1,.slice aq i cq,.slice none 0 0,.slice a4 n4 c4,.int .i64 hi] 29 (0,0))):=lM
     clear hoq hrq hcq
     by_cases hlt2:i < k
     ·have hlt2':(i:Int) < (k:Int):=by omega
      obtain ⟨q,hq⟩:∃ q,ps[i]? = some q:=⟨_,List.getElem?_eq_getElem (by rw [← H2.out];exact hlt2)⟩
      obtain ⟨x,hx⟩:∃ x,bs[i]? = some x:=⟨_,List.getElem?_eq_getElem (by rw [← H1.out];exact hlt2)⟩
      have HQ:Hid (ps[i]? = some q):=hq
      have HX:Hid (bs[i]? = some x):=hx
      obtain ⟨p0,p1,p2,p3⟩:=pl_cells (pl_below (HPC.out i q hq) hMA.bel hpb)
      obtain ⟨W1,hW1⟩:∃ W,W = wr.alloc (.cells #[.int .i64 q.x,.int .i64 q.y,.int .i64 q.w,.int .i64 q.h] 35):=⟨_,rfl⟩
      have bA:Below wr.heap.size wr W1:=by rw [hW1];exact (Below.refl _ _).alloc (Nat.le_refl _) _
      have M1:=hMA.below bA
      have lx1:W1.heap[wr.heap.size]? = some (.cells #[.int .i64 q.x,.int .i64 q.y,.int .i64 q.w,.int .i64 q.h] 35 (0,0)):=by rw [hW1];exact heap_at _ _ _ rfl
      have hgmr:gm < wr.heap.size:=lies_lt lM
      have hgRr:w1.heap.size < wr.heap.size:=by omega
      have z0:∀ o,(wr.alloc o).cell? ⟨bb,boff + i * 4,none⟩ = some (.int .i64 x.kd):=fun o=>(World.cell?_alloc_lt _ _ _ (by show bb < wr.heap.size;omega)).trans (bx_cells (bx_below (HBC.out i x hx) hMA.bel hbb)).1
      have z1:∀ o,(wr.alloc o).cell? ⟨w.heap.size,0,none⟩ = some (.slice (some ⟨bb,boff,none⟩) k bc):=fun o=>(World.cell?_alloc_lt _ _ _ (lies_lt hMA.pg)).trans ((lies_cell hMA.pg 0).trans (by show some (Value.slice _ bs.length _) = _;rw [← H1.out]))
      have HB1:Hid (Below wr.heap.size wr W1):=bA
      have HM1:Hid (MvAt w W1 w1.heap.size (w1.heap.size + 1) (.cells (numsV R).toArray 3 (0,0)) (.cells (numsV D).toArray 3 (0,0)) ⟨some ⟨bb,boff,none⟩,bc,bs,some ⟨pb,poff,none⟩,pc,ps,la,lc,ls,fa,fc,fs,hi⟩):=M1
      have HX1:Hid (W1.heap[wr.heap.size]? = some (.cells #[.int .i64 q.x,.int .i64 q.y,.int .i64 q.w,.int .i64 q.h] 35 (0,0))):=lx1
      clear hq hx hMA lM bA M1 lx1
      go_upto_if 126 with fail
      rw [← hW1]
      clear hW1 p0 p1 p2 p3 z0 z1
      go_cut [] from 126 to 142 (fun wx=>∃ q':Plc,wx.heap[wr.heap.size]? = some (.cells #[.int .i64 q'.x,.int .i64 q'.y,.int .i64 q'.w,.int .i64 q'.h] 35 (0,0)) ∧ placesM ns bs ps (i + 1) = placesM ns bs ps i ++ [q'] ∧ Below wr.heap.size wr wx)
      case first =>
       by_cases hkd:x.kd = 2
       ·have RES:Hid (∃ q':Plc,W1.heap[wr.heap.size]? = some (.cells #[.int .i64 q'.x,.int .i64 q'.y,.int .i64 q'.w,.int .i64 q'.h] 35 (0,0)) ∧ placesM ns bs ps (i + 1) = placesM ns bs ps i ++ [q'] ∧ Below wr.heap.size wr W1):=⟨q,HX1.out,placesM_no HX.out HQ.out hkd,HB1.out⟩
        go_wp2_with fail
        go_meet
        case rel=>exact RES.out
       ·have s0:W1.cell? ⟨w1.heap.size,i,none⟩ = some (.int .i64 (R.getD i 0)):=ints_cell HM1.out.st (by have:=HS.out.1;omega)
        have s1:W1.cell? ⟨w1.heap.size + 1,i,none⟩ = some (.int .i64 (D.getD i 0)):=ints_cell HM1.out.bx (by have:=HS.out.2.1;omega)
        have t0:W1.cell? ⟨wr.heap.size,0,none⟩ = some (.int .i64 q.x):=(lies_cell HX1.out 0).trans rfl
        have t1:W1.cell? ⟨wr.heap.size,1,none⟩ = some (.int .i64 q.y):=(lies_cell HX1.out 1).trans rfl
        have g0:=Lib.frozen_of_heap HX1.out 0
        have g1:=Lib.frozen_of_heap HX1.out 1
        have HR0:Hid ((rightM ns bs).getD i 0 = R.getD i 0 ∧ (downM ns bs).getD i 0 = D.getD i 0):=by
         have hkb:i < bs.length:=by rw [← H1.out];exact hlt2
         have e1:=HS.out.2.2.1
         have e2:=HS.out.2.2.2
         rw [H1.out] at e1 e2
         have r1:=rightM_at e1 hkb
         have r2:=downM_at e2 hkb
         rw [Nat.mul_one,Nat.add_zero] at r1 r2
         exact ⟨r1,r2⟩
        generalize R.getD i 0 = r0 at s0 HR0
        generalize D.getD i 0 = d0 at s1 HR0
        have n1':¬ wr.heap.size = w1.heap.size:=by omega
        have n2':¬ w1.heap.size + 1 = wr.heap.size:=by omega
        have n3':¬ wr.heap.size = w1.heap.size + 1:=by omega
        have FIN:Hid (∃ q':Plc,((W1.setCell ⟨wr.heap.size,0,none⟩ (.int .i64 (wrap64 (q.x + r0)))).setCell ⟨wr.heap.size,1,none⟩ (.int .i64 (wrap64 (q.y + d0)))).heap[wr.heap.size]? = some (.cells #[.int .i64 q'.x,.int .i64 q'.y,.int .i64 q'.w,.int .i64 q'.h] 35 (0,0)) ∧ placesM ns bs ps (i + 1) = placesM ns bs ps i ++ [q'] ∧ Below wr.heap.size wr ((W1.setCell ⟨wr.heap.size,0,none⟩ (.int .i64 (wrap64 (q.x + r0)))).setCell ⟨wr.heap.size,1,none⟩ (.int .i64 (wrap64 (q.y + d0))))) :=
         ⟨mvP q r0 d0,lies_set (lies_set HX1.out),by rw [placesM_yes HX.out HQ.out hkd,HR0.out.1,HR0.out.2],(HB1.out.setCell (p:=⟨wr.heap.size,0,none⟩) (Nat.le_refl _) _).setCell (p:=⟨wr.heap.size,1,none⟩) (Nat.le_refl _) _⟩
        go_wp2_with fail
        go_region
        all_goals
         go_wp2_with fail
         go_region
         all_goals
          go_wp2_with fail
          go_meet
          case rel =>
           obtain ⟨q',r1,r2,r3⟩:=FIN.out
           exact ⟨q',r1,r2,⟨r3.os,r3.tape,r3.output,r3.size,r3.block⟩⟩
      case rest =>
       obtain ⟨q',lx,hpm,b5⟩:=hcut
       obtain ⟨V,hV⟩:∃ W,W = wc:=⟨_,rfl⟩
       subst hV
       have MV:=HMA.out.below b5
       have lMV:=below_lies b5 HLM.out hgmr
       have hoV:V.ownsRow w.heap.size 35 4 (.slice aq i cq) i (flatPl (placesM ns bs ps i)):=by
        have h:=OwnQ.keep HOQ.out b5
        unfold OwnQ at h
        rw [placesM_len] at h
        exact h
       have e0:V.cell? ⟨wr.heap.size,0,none⟩ = some (.int .i64 q'.x):=(lies_cell lx 0).trans rfl
       have e1:V.cell? ⟨wr.heap.size,1,none⟩ = some (.int .i64 q'.y):=(lies_cell lx 1).trans rfl
       have e2:V.cell? ⟨wr.heap.size,2,none⟩ = some (.int .i64 q'.w):=(lies_cell lx 2).trans rfl
       have e3:V.cell? ⟨wr.heap.size,3,none⟩ = some (.int .i64 q'.h):=(lies_cell lx 3).trans rfl
       have m1:V.cell? ⟨gm,1,none⟩ = some (.slice aq i cq):=(lies_cell lMV 1).trans rfl
       have hsV:wr.heap.size < V.heap.size:=lies_lt lx
       have hws:w.heap.size ≤ V.heap.size:=MV.bel.size
       obtain ⟨iP,hi0,hz0,hz1,hz2⟩:=info_parts infoPlc8
       have neM:(Value.slice aq i cq).ownBlock ≠ some gm:=own_ne hoV lMV (by decide)
       have FIN:Hid (∀ (w2':World) (g2 cap2:Nat),(V.alloc (.cells #[.int .i64 q'.x,.int .i64 q'.y,.int .i64 q'.w,.int .i64 q'.h] 35)).grownBy w2' (Value.slice aq i cq).ownBlock → w2'.ownsRow w.heap.size 35 4 (.slice (some ⟨g2,0,none⟩) (i + 1) cap2) (i + 1) (flatPl (placesM ns bs ps i) ++ plL q') →
         (w2'.cell? ⟨gm,1,none⟩ = some (.slice aq i cq) ∧ w2'.frozen? ⟨gm,1,none⟩ = false) ∧ Hid (MvAt w (w2'.setCell ⟨gm,1,none⟩ (.slice (some ⟨g2,0,none⟩) (i + 1) cap2)) w1.heap.size (w1.heap.size + 1) (.cells (numsV R).toArray 3 (0,0)) (.cells (numsV D).toArray 3 (0,0)) ⟨some ⟨bb,boff,none⟩,bc,bs,some ⟨pb,poff,none⟩,pc,ps,la,lc,ls,fa,fc,fs,hi⟩ ∧ (w2'.setCell ⟨gm,1,none⟩ (.slice (some ⟨g2,0,none⟩) (i + 1) cap2)).heap[gm]? = some (.cells #[.slice a1 n1 c1,.slice (some ⟨g2,0,none⟩) (i + 1) cap2,.slice none 0 0,.slice a4 n4 c4,.int .i64 hi] 29 (0,0)) ∧ OwnQ (w2'.setCell ⟨gm,1,none⟩ (.slice (some ⟨g2,0,none⟩) (i + 1) cap2)) w.heap.size (.slice (some ⟨g2,0,none⟩) (i + 1) cap2) (placesM ns bs ps (i + 1)))):=fun w2' g2 cap2 hg ho=>by
        have MA:=MV.below ((Below.refl V.heap.size V).alloc (Nat.le_refl _) (.cells #[.int .i64 q'.x,.int .i64 q'.y,.int .i64 q'.w,.int .i64 q'.h] 35))
        have hoA:=hoV.alloc (.cells #[.int .i64 q'.x,.int .i64 q'.y,.int .i64 q'.w,.int .i64 q'.h] 35)
        have M2:=MA.grown hg (own_ne hoA MA.pg (by decide)) (own_ne hoA MA.rs (by decide)) (own_ne hoA MA.st (by decide)) (own_ne hoA MA.bx (by decide)) (fun b hb=>(hoA.lt b hb).1)
        have l2:w2'.heap[gm]? = some (.cells #[.slice a1 n1 c1,.slice aq i cq,.slice none 0 0,.slice a4 n4 c4,.int .i64 hi] 29 (0,0)):=(hg.block gm (by simp;omega) (fun e=>neM e.symm)).trans (heap_in lMV)
        have ho2:OwnQ w2' w.heap.size (.slice (some ⟨g2,0,none⟩) (i + 1) cap2) (placesM ns bs ps (i + 1)):=by
         rw [hpm]
         exact OwnQ.snoc (placesM_len ns bs ps i).symm ho
        refine ⟨⟨(lies_cell l2 1).trans rfl,Lib.frozen_of_heap l2 1⟩,⟨M2.set _ (by omega) (by omega) (by omega) (by omega) (by omega),lies_set l2,?_⟩⟩
        exact own_set ho2 _ (own_ne (show w2'.ownsRow w.heap.size 35 4 (.slice (some ⟨g2,0,none⟩) (i + 1) cap2) (placesM ns bs ps (i + 1)).length (flatPl (placesM ns bs ps (i + 1))) from ho2) l2 (by decide))
       clear hpm MV lMV lx b5 HMA HOQ HLM HM1 HX1
       go_wp2_with (at_builtin;refine wpList_append_lies _ rfl _ _ _ rfl w.heap.size 35 iP _ 4 32 Tryz.underlying25 hi0 hz0 hz1 hz2 rfl (by decide) _ i (flatPl (placesM ns bs ps i)) rfl (hoV.alloc _) ⟨V.heap.size,0,none⟩ 1 1 (plL q') rfl rfl (fun j u hj=>fourP_cells V q' _ _ rfl j u hj) (plL_one _) (by decide) (by unfold maxLen;omega) (by omega) (by simp;omega) _ rfl ?_)
       intro g2 cap2 w2' hown2 hgrow2 hat2 hlt9
       obtain ⟨⟨n1',n2'⟩,FF⟩:=FIN.out w2' g2 cap2 hgrow2 hown2
       clear hown2 hgrow2 hat2 FIN e0 e1 e2 e3 m1
       go_wp2_with fail
       go_roundw
       case rel=>exact ⟨i + 1,_,by omega,by go_num,FF.out.1,FF.out.2.1,FF.out.2.2⟩
       case measure=>simp [intOf];omega
     ·have hlt2':¬ ((i:Int) < (k:Int)):=by omega
      have hik:i = k:=by omega
      subst hik
      have c2':wr.cell? ⟨w.heap.size,2,none⟩ = some (.slice la nl lc):=(lies_cell hMA.pg 2).trans (by show some (Value.slice _ ls.length _) = _;rw [← H3.out])
      clear hMA lM c1'
      go_wp2_with fail
      go_loopw [153] (fun i' wr'=>∃ (j:Nat) (vl:Value),j ≤ nl ∧ i' = .int .i64 j ∧ MvAt w wr' w1.heap.size (w1.heap.size + 1) (.cells (numsV R).toArray 3 (0,0)) (.cells (numsV D).toArray 3 (0,0)) ⟨some ⟨bb,boff,none⟩,bc,bs,some ⟨pb,poff,none⟩,pc,ps,la,lc,ls,fa,fc,fs,hi⟩ ∧ wr'.heap[gm]? = some (.cells #[.slice a1 n1 c1,.slice aq i cq,vl,.slice a4 n4 c4,.int .i64 hi] 29 (0,0)) ∧ OwnQ wr' w.heap.size (.slice aq i cq) (placesM ns bs ps i) ∧ OwnL wr' w.heap.size vl (linesM ns bs ls j) ∧ Hid (∀ (i:Nat) (x:Ln),i < j → ls[i]? = some x → (decide (0 ≤ x.bx) && decide (x.bx < (bs.length:Int))) = true)) (fun i' _=>nl - (intOf i').toNat)
      case atStart=>exact ⟨0,.slice none 0 0,Nat.zero_le _,rfl,HMA.out,HLM.out,HOQ.out,ownL_nil _ _,fun i x h _=>by omega⟩
      case round =>
       obtain ⟨j,vl,hj,rfl,hMA,lM,hoq,hol,hgood⟩:=hrel
       obtain ⟨wz,hwz⟩:∃ W,W = wr:=⟨_,rfl⟩
       subst hwz
       obtain ⟨al,cl,hvl,hcl,hrl,-⟩:=OwnL.form hol
       rw [linesM_len] at hvl
       subst hvl
       clear HMA HLM HOQ
       have HOQ:Hid (OwnQ wz w.heap.size (.slice aq i cq) (placesM ns bs ps i)):=hoq
       have HOL:Hid (OwnL wz w.heap.size (.slice al j cl) (linesM ns bs ls j)):=hol
       have HLM:Hid (wz.heap[gm]? = some (.cells #[.slice a1 n1 c1,.slice aq i cq,.slice al j cl,.slice a4 n4 c4,.int .i64 hi] 29 (0,0))):=lM
       clear hoq hol hrl hcl
       by_cases hjl:j < nl
       ·have hjl':(j:Int) < (nl:Int):=by omega
        obtain ⟨x,hx⟩:∃ x,ls[j]? = some x:=⟨_,List.getElem?_eq_getElem (by rw [← H3.out];exact hjl)⟩
        obtain ⟨lb,loff,hla,hlc⟩:=ln_some9 HP.out.rl hx
        subst hla
        have HX:Hid (ls[j]? = some x):=hx
        have hlb:lb < w.heap.size:=ln_lt (hlc j x hx)
        have rl:=ln_below (hlc j x hx) hMA.bel hlb
        have p0:wz.cell? ⟨lb,loff + j * 6,none⟩ = some (.int .i64 x.bx):=rl 0 _ rfl
        have p1:wz.cell? ⟨lb,loff + j * 6 + 1,none⟩ = some (.int .i64 x.x):=rl 1 _ rfl
        have p2:wz.cell? ⟨lb,loff + j * 6 + 2,none⟩ = some (.int .i64 x.y):=rl 2 _ rfl
        have p3:wz.cell? ⟨lb,loff + j * 6 + 3,none⟩ = some (.int .i64 x.w):=rl 3 _ rfl
        have p4:wz.cell? ⟨lb,loff + j * 6 + 4,none⟩ = some (.int .i64 x.h):=rl 4 _ rfl
        have p5:wz.cell? ⟨lb,loff + j * 6 + 5,none⟩ = some (.string x.tx):=rl 5 _ rfl
        obtain ⟨W1,hW1⟩:∃ W,W = wz.alloc (.cells #[.int .i64 x.bx,.int .i64 x.x,.int .i64 x.y,.int .i64 x.w,.int .i64 x.h,.string x.tx] 37):=⟨_,rfl⟩
        have bA:Below wz.heap.size wz W1:=by rw [hW1];exact (Below.refl _ _).alloc (Nat.le_refl _) _
        have M1:=hMA.below bA
        have lM1:=below_lies bA lM (lies_lt lM)
        have lx1:W1.heap[wz.heap.size]? = some (.cells #[.int .i64 x.bx,.int .i64 x.x,.int .i64 x.y,.int .i64 x.w,.int .i64 x.h,.string x.tx] 37 (0,0)):=by rw [hW1];exact heap_at _ _ _ rfl
        have hgmr:gm < wz.heap.size:=lies_lt lM
        have hwr:=hMA.bel.size
        have z1:∀ o,(wz.alloc o).cell? ⟨w.heap.size,0,none⟩ = some (.slice (some ⟨bb,boff,none⟩) i bc):=fun o=>(World.cell?_alloc_lt _ _ _ (lies_lt hMA.pg)).trans ((lies_cell hMA.pg 0).trans (by show some (Value.slice _ bs.length _) = _;rw [← H1.out]))
        have HM1:Hid (MvAt w W1 w1.heap.size (w1.heap.size + 1) (.cells (numsV R).toArray 3 (0,0)) (.cells (numsV D).toArray 3 (0,0)) ⟨some ⟨bb,boff,none⟩,bc,bs,some ⟨pb,poff,none⟩,pc,ps,some ⟨lb,loff,none⟩,lc,ls,fa,fc,fs,hi⟩):=M1
        have HL1:Hid (W1.heap[gm]? = some (.cells #[.slice a1 n1 c1,.slice aq i cq,.slice al j cl,.slice a4 n4 c4,.int .i64 hi] 29 (0,0))):=lM1
        have HX1:Hid (W1.heap[wz.heap.size]? = some (.cells #[.int .i64 x.bx,.int .i64 x.x,.int .i64 x.y,.int .i64 x.w,.int .i64 x.h,.string x.tx] 37 (0,0))):=lx1
        have HO1:Hid (OwnL W1 w.heap.size (.slice al j cl) (linesM ns bs ls j)):=OwnL.keep HOL.out bA
        have HQ1:Hid (OwnQ W1 w.heap.size (.slice aq i cq) (placesM ns bs ps i)):=OwnQ.keep HOQ.out bA
        have t0:W1.cell? ⟨wz.heap.size,0,none⟩ = some (.int .i64 x.bx):=(lies_cell lx1 0).trans rfl
        have lR1:=M1.rs
        have bB1:=M1.bel
        clear hx hlc hMA lM bA M1 lM1 lx1 rl
        go_wp2_with fail
        rw [← hW1]
        clear hW1 p0 p1 p2 p3 p4 p5 z1
        refine (l1In_any _ _ _ _).mono ?_
        rintro e w5 ⟨rfl,h5⟩
        rw [h5]
        clear h5 w5
        have hIn:inB 0 ((i:Int) - 1) x.bx = (decide (0 ≤ x.bx) && decide (x.bx < (i:Int))):=by
         unfold inB
         rw [Bool.eq_iff_iff]
         simp only [Bool.and_eq_true,decide_eq_true_eq]
         omega
        rw [hIn]
        rcases Bool.eq_false_or_eq_true (decide (0 ≤ x.bx) && decide (x.bx < (i:Int))) with hgd | hgd
        rotate_left
        ·rw [hgd]
         have HF:Hid (mvB ns ⟨some ⟨bb,boff,none⟩,bc,bs,some ⟨pb,poff,none⟩,pc,ps,some ⟨lb,loff,none⟩,lc,ls,fa,fc,fs,hi⟩ = false):=mvB_no3 HX.out (by show (decide (0 ≤ x.bx) && decide (x.bx < (bs.length:Int))) = false;rw [← H1.out];exact hgd)
         clear hIn
         go_wp2_with (first | ((with_reducible show wpList _ _ _ (⟨none,Op.store 29 (Operand.tmp 4) _,_,_,_,_⟩ :: _) _ _);refine wpList_putA rfl _ _ _ rfl rfl (w.heap.size + 1) 0 5 (#[.slice none 0 0,.slice none 0 0,.slice none 0 0,.slice none 0 0,.int .i64 0]:Array Value).toList _ _ rfl rfl lR1 rfl (by kernel_rfl) (by kernel_rfl) (by kernel_rfl) ?_;intro W9 p9 l9 n9;refine stayM ?_) | fail)
         have lZ:W9.heap[w.heap.size + 1]? = some (.cells #[.slice none 0 0,.slice none 0 0,.slice none 0 0,.slice none 0 0,.int .i64 0] 29 (0,0)):=l9.trans (congrArg (fun c=>some (Obj.cells c 29 (0,0))) (show _ = (#[.slice none 0 0,.slice none 0 0,.slice none 0 0,.slice none 0 0,.int .i64 0]:Array Value) by kernel_rfl))
         have b9:=p9.below bB1 (Nat.le_succ _)
         unfold StayM
         clear l9 p9 n9
         go_wp2
         exact bodyPost_ret (v:=.tuple #[.agg #[.slice none 0 0,.slice none 0 0,.slice none 0 0,.slice none 0 0,.int .i64 0],.bool false]) (results_row_tmp Tryz.results6 _ _ (w.heap.size + 1) _ _ _ _ (.bool false) rfl lZ Tryz.underlying29 rfl (by kernel_rfl) rfl) rfl (movRet_no HF.out b9)
        rw [hgd]
        have hgd2:0 ≤ x.bx ∧ x.bx < (i:Int):=by simpa using hgd
        have HGD:Hid (∀ (i:Nat) (y:Ln),i < j + 1 → ls[i]? = some y → (decide (0 ≤ y.bx) && decide (y.bx < (bs.length:Int))) = true):=fun i' y hi' hy=>by
         by_cases e:i' = j
         ·subst e
          have e2:y = x:=Option.some.inj (hy.symm.trans HX.out)
          rw [e2,← H1.out]
          exact hgd
         ·exact hgood.out i' y (by omega) hy
        clear hgd hIn
        have HBQ:Hid (x.bx = (x.bx.toNat:Int)):=by show _ = _;omega
        have s0:W1.cell? ⟨w1.heap.size,x.bx.toNat,none⟩ = some (.int .i64 (R.getD x.bx.toNat 0)):=ints_cell HM1.out.st (by have:=HS.out.1;omega)
        have s1:W1.cell? ⟨w1.heap.size + 1,x.bx.toNat,none⟩ = some (.int .i64 (D.getD x.bx.toNat 0)):=ints_cell HM1.out.bx (by have:=HS.out.2.1;omega)
        have t1:W1.cell? ⟨wz.heap.size,1,none⟩ = some (.int .i64 x.x):=(lies_cell HX1.out 1).trans rfl
        have t2:W1.cell? ⟨wz.heap.size,2,none⟩ = some (.int .i64 x.y):=(lies_cell HX1.out 2).trans rfl
        have t3:W1.cell? ⟨wz.heap.size,3,none⟩ = some (.int .i64 x.w):=(lies_cell HX1.out 3).trans rfl
        have t4:W1.cell? ⟨wz.heap.size,4,none⟩ = some (.int .i64 x.h):=(lies_cell HX1.out 4).trans rfl
        have t5:W1.cell? ⟨wz.heap.size,5,none⟩ = some (.string x.tx):=(lies_cell HX1.out 5).trans rfl
        have g1:=Lib.frozen_of_heap HX1.out 1
        have g2:=Lib.frozen_of_heap HX1.out 2
        have m2:W1.cell? ⟨gm,2,none⟩ = some (.slice al j cl):=(lies_cell HL1.out 2).trans rfl
        have HR0:Hid ((rightM ns bs).getD x.bx.toNat 0 = R.getD x.bx.toNat 0 ∧ (downM ns bs).getD x.bx.toNat 0 = D.getD x.bx.toNat 0):=by
         have hkb:x.bx.toNat < bs.length:=by rw [← H1.out];omega
         have e1:=HS.out.2.2.1
         have e2:=HS.out.2.2.2
         rw [H1.out] at e1 e2
         have r1:=rightM_at e1 hkb
         have r2:=downM_at e2 hkb
         rw [Nat.mul_one,Nat.add_zero] at r1 r2
         exact ⟨r1,r2⟩
        generalize R.getD x.bx.toNat 0 = r0 at s0 HR0
        generalize D.getD x.bx.toNat 0 = d0 at s1 HR0
        have HNX:Hid (linesM ns bs ls (j + 1) = linesM ns bs ls j ++ [(⟨x.bx,wrap64 (x.x + r0),wrap64 (x.y + d0),x.w,x.h,x.tx⟩:Ln)]):=by
         show _ = _
         rw [linesM_next HX.out HBQ.out,HR0.out.1,HR0.out.2]
         rfl
        have n1':¬ wz.heap.size = w1.heap.size:=by omega
        have n2':¬ w1.heap.size + 1 = wz.heap.size:=by omega
        have n3':¬ wz.heap.size = w1.heap.size + 1:=by omega
        have n4':¬ gm = wz.heap.size:=by omega
        have n5':¬ wz.heap.size = gm:=by omega
        have n6':¬ w1.heap.size = wz.heap.size:=by omega
        obtain ⟨iL,hi0,hz0,hz1,hz2⟩:=info_parts infoLine
        have WF:Hid (∀ V:World,V.heap = ((W1.setCell ⟨wz.heap.size,1,none⟩ (.int .i64 (wrap64 (x.x + r0)))).setCell ⟨wz.heap.size,2,none⟩ (.int .i64 (wrap64 (x.y + d0)))).heap → V.os = W1.os → V.tape = W1.tape → V.output = W1.output → V.heap[wz.heap.size]? = some (.cells #[.int .i64 x.bx,.int .i64 (wrap64 (x.x + r0)),.int .i64 (wrap64 (x.y + d0)),.int .i64 x.w,.int .i64 x.h,.string x.tx] 37 (0,0)) ∧ V.heap[gm]? = some (.cells #[.slice a1 n1 c1,.slice aq i cq,.slice al j cl,.slice a4 n4 c4,.int .i64 hi] 29 (0,0)) ∧ MvAt w V w1.heap.size (w1.heap.size + 1) (.cells (numsV R).toArray 3 (0,0)) (.cells (numsV D).toArray 3 (0,0)) ⟨some ⟨bb,boff,none⟩,bc,bs,some ⟨pb,poff,none⟩,pc,ps,some ⟨lb,loff,none⟩,lc,ls,fa,fc,fs,hi⟩ ∧ OwnQ V w.heap.size (.slice aq i cq) (placesM ns bs ps i) ∧ V.ownsRow w.heap.size 37 6 (.slice al j cl) j (flatLn (linesM ns bs ls j))):=fun V hV e1 e2 e3=>by
         have hset:∀ b,b ≠ wz.heap.size → V.heap[b]? = W1.heap[b]?:=fun b hb=>by
          rw [hV]
          exact (Below.heap_setCell _ ⟨wz.heap.size,2,none⟩ _ b hb).trans (Below.heap_setCell _ ⟨wz.heap.size,1,none⟩ _ b hb)
         have hM:=HM1.out
         have hoL:=HO1.out
         have hbs:=hM.bel.size
         unfold OwnL at hoL
         rw [linesM_len] at hoL
         refine ⟨?_,(hset gm (by omega)).trans HL1.out,⟨(hset _ (by omega)).trans hM.pg,(hset _ (by have:=lies_lt HLM.out;omega)).trans hM.rs,(hset _ (by omega)).trans hM.st,(hset _ (by omega)).trans hM.bx,⟨e1.trans hM.bel.os,e2.trans hM.bel.tape,e3.trans hM.bel.output,by rw [hV];simpa using hbs,fun b hb=>(hset b (by omega)).trans (hM.bel.block b hb)⟩⟩,owns_at9 HQ1.out (fun b hb=>hset b (fun e=>own_ne (show W1.ownsRow w.heap.size 35 4 (.slice aq i cq) (placesM ns bs ps i).length (flatPl (placesM ns bs ps i)) from HQ1.out) HX1.out (by decide) (by rw [hb,e]))),owns_at9 hoL (fun b hb=>hset b (fun e=>by
          have h9:=OwnL.lt HOL.out b (by exact hb)
          omega))⟩
         rw [hV]
         exact lies_set (lies_set HX1.out)
        go_wp2_with fail
        go_region
        all_goals
         go_wp2_with fail
         go_region
         all_goals
          obtain ⟨V,hV⟩:∃ V,V = World.drew (World.drew ((W1.setCell ⟨wz.heap.size,1,none⟩ (.int .i64 (wrap64 (x.x + r0)))).setCell ⟨wz.heap.size,2,none⟩ (.int .i64 (wrap64 (x.y + d0))))):=⟨_,rfl⟩
          obtain ⟨lx,lMV,MV,oQ,oV⟩:=WF.out V (by rw [hV];rfl) (by rw [hV];rfl) (by rw [hV];rfl) (by rw [hV];rfl)
          rw [← hV]
          clear hV WF
          obtain ⟨y,hy⟩:∃ y:Ln,y = (⟨x.bx,wrap64 (x.x + r0),wrap64 (x.y + d0),x.w,x.h,x.tx⟩:Ln):=⟨_,rfl⟩
          have lx':V.heap[wz.heap.size]? = some (.cells #[.int .i64 y.bx,.int .i64 y.x,.int .i64 y.y,.int .i64 y.w,.int .i64 y.h,.string y.tx] 37 (0,0)):=by rw [hy];exact lx
          have HNY:Hid (linesM ns bs ls (j + 1) = linesM ns bs ls j ++ [y]):=by rw [hy];exact HNX
          clear lx hy HNX t0 t1 t2 t3 t4 t5 s0 s1 g1 g2 m2 HR0 HBQ
          have e0:V.cell? ⟨wz.heap.size,0,none⟩ = some (.int .i64 y.bx):=(lies_cell lx' 0).trans rfl
          have e1:V.cell? ⟨wz.heap.size,1,none⟩ = some (.int .i64 y.x):=(lies_cell lx' 1).trans rfl
          have e2:V.cell? ⟨wz.heap.size,2,none⟩ = some (.int .i64 y.y):=(lies_cell lx' 2).trans rfl
          have e3:V.cell? ⟨wz.heap.size,3,none⟩ = some (.int .i64 y.w):=(lies_cell lx' 3).trans rfl
          have e4:V.cell? ⟨wz.heap.size,4,none⟩ = some (.int .i64 y.h):=(lies_cell lx' 4).trans rfl
          have e5:V.cell? ⟨wz.heap.size,5,none⟩ = some (.string y.tx):=(lies_cell lx' 5).trans rfl
          have m1:V.cell? ⟨gm,2,none⟩ = some (.slice al j cl):=(lies_cell lMV 2).trans rfl
          have hws:w.heap.size ≤ V.heap.size:=MV.bel.size
          have neM:(Value.slice al j cl).ownBlock ≠ some gm:=own_ne oV lMV (by decide)
          have hgV:=lies_lt lMV
          have FIN:Hid (∀ (w2':World) (g2 cap2:Nat),(V.alloc (.cells #[.int .i64 y.bx,.int .i64 y.x,.int .i64 y.y,.int .i64 y.w,.int .i64 y.h,.string y.tx] 37)).grownBy w2' (Value.slice al j cl).ownBlock → w2'.ownsRow w.heap.size 37 6 (.slice (some ⟨g2,0,none⟩) (j + 1) cap2) (j + 1) (flatLn (linesM ns bs ls j) ++ lnL y) →
            (w2'.cell? ⟨gm,2,none⟩ = some (.slice al j cl) ∧ w2'.frozen? ⟨gm,2,none⟩ = false) ∧ Hid (MvAt w (w2'.setCell ⟨gm,2,none⟩ (.slice (some ⟨g2,0,none⟩) (j + 1) cap2)) w1.heap.size (w1.heap.size + 1) (.cells (numsV R).toArray 3 (0,0)) (.cells (numsV D).toArray 3 (0,0)) ⟨some ⟨bb,boff,none⟩,bc,bs,some ⟨pb,poff,none⟩,pc,ps,some ⟨lb,loff,none⟩,lc,ls,fa,fc,fs,hi⟩ ∧ (w2'.setCell ⟨gm,2,none⟩ (.slice (some ⟨g2,0,none⟩) (j + 1) cap2)).heap[gm]? = some (.cells #[.slice a1 n1 c1,.slice aq i cq,.slice (some ⟨g2,0,none⟩) (j + 1) cap2,.slice a4 n4 c4,.int .i64 hi] 29 (0,0)) ∧ OwnQ (w2'.setCell ⟨gm,2,none⟩ (.slice (some ⟨g2,0,none⟩) (j + 1) cap2)) w.heap.size (.slice aq i cq) (placesM ns bs ps i) ∧ OwnL (w2'.setCell ⟨gm,2,none⟩ (.slice (some ⟨g2,0,none⟩) (j + 1) cap2)) w.heap.size (.slice (some ⟨g2,0,none⟩) (j + 1) cap2) (linesM ns bs ls (j + 1)))):=fun w2' g2 cap2 hg ho=>by
           have MA:=MV.below ((Below.refl V.heap.size V).alloc (Nat.le_refl _) (.cells #[.int .i64 y.bx,.int .i64 y.x,.int .i64 y.y,.int .i64 y.w,.int .i64 y.h,.string y.tx] 37))
           have oA:=oV.alloc (.cells #[.int .i64 y.bx,.int .i64 y.x,.int .i64 y.y,.int .i64 y.w,.int .i64 y.h,.string y.tx] 37)
           have qA:=OwnQ.keep oQ ((Below.refl V.heap.size V).alloc (Nat.le_refl _) (.cells #[.int .i64 y.bx,.int .i64 y.x,.int .i64 y.y,.int .i64 y.w,.int .i64 y.h,.string y.tx] 37))
           have M2:=MA.grown hg (own_ne oA MA.pg (by decide)) (own_ne oA MA.rs (by decide)) (own_ne oA MA.st (by decide)) (own_ne oA MA.bx (by decide)) (fun b hb=>(oA.lt b hb).1)
           have l2:w2'.heap[gm]? = some (.cells #[.slice a1 n1 c1,.slice aq i cq,.slice al j cl,.slice a4 n4 c4,.int .i64 hi] 29 (0,0)):=(hg.block gm (by simp;omega) (fun e=>neM e.symm)).trans (heap_in lMV)
           have oL2:OwnL w2' w.heap.size (.slice (some ⟨g2,0,none⟩) (j + 1) cap2) (linesM ns bs ls (j + 1)):=by
            rw [HNY.out]
            exact OwnL.snoc (linesM_len ns bs ls j).symm ho
           have oQ2:OwnQ w2' w.heap.size (.slice aq i cq) (placesM ns bs ps i):=World.ownsRow.kept qA hg (own_ne2 (show (V.alloc (.cells #[.int .i64 y.bx,.int .i64 y.x,.int .i64 y.y,.int .i64 y.w,.int .i64 y.h,.string y.tx] 37)).ownsRow w.heap.size 35 4 (.slice aq i cq) (placesM ns bs ps i).length (flatPl (placesM ns bs ps i)) from qA) oA (by decide))
           exact ⟨⟨(lies_cell l2 2).trans rfl,Lib.frozen_of_heap l2 2⟩,⟨M2.set _ (by omega) (by omega) (by omega) (by omega) (by omega),lies_set l2,own_set oQ2 _ (own_ne (show w2'.ownsRow w.heap.size 35 4 (.slice aq i cq) (placesM ns bs ps i).length (flatPl (placesM ns bs ps i)) from oQ2) l2 (by decide)),own_set oL2 _ (own_ne (show w2'.ownsRow w.heap.size 37 6 (.slice (some ⟨g2,0,none⟩) (j + 1) cap2) (linesM ns bs ls (j + 1)).length (flatLn (linesM ns bs ls (j + 1))) from oL2) l2 (by decide))⟩⟩
          clear lMV MV oQ lx' HNY HM1 HL1 HX1 HO1 HQ1 lR1 bB1
          go_wp2_with (at_builtin;refine wpList_append_lies _ rfl _ _ _ rfl w.heap.size 37 iL _ 6 56 Tryz.underlying26 hi0 hz0 hz1 hz2 rfl (by decide) _ j (flatLn (linesM ns bs ls j)) rfl (oV.alloc _) ⟨V.heap.size,0,none⟩ 1 1 (lnL y) rfl rfl (fun j u hj=>six_cells V y _ _ rfl j u hj) (lnL_one _) (by decide) (by unfold maxLen;omega) (by omega) (by simp;omega) _ rfl ?_)
          intro g2 cap2 w2' hown2 hgrow2 hat2 hlt9
          obtain ⟨⟨m3,m4⟩,FF⟩:=FIN.out w2' g2 cap2 hgrow2 hown2
          clear hown2 hgrow2 hat2 FIN e0 e1 e2 e3 e4 e5 m1
          go_wp2_with fail
          go_roundw
          case rel=>exact ⟨j + 1,_,by omega,by go_num,FF.out.1,FF.out.2.1,FF.out.2.2.1,FF.out.2.2.2,HGD⟩
          case measure=>simp [intOf];omega
       ·have hjl':¬ ((j:Int) < (nl:Int)):=by omega
        have hjn:j = nl:=by omega
        subst hjn
        have i0:wz.cell? ⟨gm,0,none⟩ = some (.slice a1 n1 c1):=(lies_cell HLM.out 0).trans rfl
        have i1:wz.cell? ⟨gm,1,none⟩ = some (.slice aq i cq):=(lies_cell HLM.out 1).trans rfl
        have i2:wz.cell? ⟨gm,2,none⟩ = some (.slice al j cl):=(lies_cell HLM.out 2).trans rfl
        have i3:wz.cell? ⟨gm,3,none⟩ = some (.slice a4 n4 c4):=(lies_cell HLM.out 3).trans rfl
        have i4:wz.cell? ⟨gm,4,none⟩ = some (.int .i64 hi):=(lies_cell HLM.out 4).trans rfl
        have lR:=hMA.rs
        have HBW:Hid (Below w.heap.size w wz):=hMA.bel
        have HY:Hid (mvB ns ⟨some ⟨bb,boff,none⟩,bc,bs,some ⟨pb,poff,none⟩,pc,ps,la,lc,ls,fa,fc,fs,hi⟩ = true):=mvB_yes HGB.out (by show ps.length = bs.length;rw [← H1.out,← H2.out]) (fun i x hx=>hgood.out i x (by rw [H3.out];exact (List.getElem?_eq_some_iff.1 hx).1) hx)
        clear hMA lM
        go_wp2_with (first | ((with_reducible show wpList _ _ _ (⟨none,Op.store 29 (Operand.tmp 4) _,_,_,_,_⟩ :: _) _ _);refine wpList_putA rfl _ _ _ rfl rfl (w.heap.size + 1) 0 5 (#[.slice a1 n1 c1,.slice aq i cq,.slice al j cl,.slice a4 n4 c4,.int .i64 hi]:Array Value).toList _ _ rfl rfl lR rfl (by kernel_rfl) (by kernel_rfl) (by kernel_rfl) ?_;intro W9 p9 l9 n9;refine stayM ?_) | fail)
        have lZ:W9.heap[w.heap.size + 1]? = some (.cells #[.slice a1 n1 c1,.slice aq i cq,.slice al j cl,.slice a4 n4 c4,.int .i64 hi] 29 (0,0)):=l9.trans (congrArg (fun c=>some (Obj.cells c 29 (0,0))) (show _ = (#[.slice a1 n1 c1,.slice aq i cq,.slice al j cl,.slice a4 n4 c4,.int .i64 hi]:Array Value) by kernel_rfl))
        have b9:=p9.below HBW.out (Nat.le_succ _)
        have oQ:OwnQ W9 w.heap.size (.slice aq i cq) (placesM ns bs ps i):=owns_at9 HOQ.out (fun b hb=>p9.other b (fun e=>own_ne (show wz.ownsRow w.heap.size 35 4 (.slice aq i cq) (placesM ns bs ps i).length (flatPl (placesM ns bs ps i)) from HOQ.out) lR (by decide) (by rw [hb,e])))
        have oL:OwnL W9 w.heap.size (.slice al j cl) (linesM ns bs ls j):=owns_at9 HOL.out (fun b hb=>p9.other b (fun e=>own_ne (show wz.ownsRow w.heap.size 37 6 (.slice al j cl) (linesM ns bs ls j).length (flatLn (linesM ns bs ls j)) from HOL.out) lR (by decide) (by rw [hb,e])))
        have RES:Hid (MovRet w ns ⟨some ⟨bb,boff,none⟩,bc,bs,some ⟨pb,poff,none⟩,pc,ps,la,lc,ls,fa,fc,fs,hi⟩ (.returned (.tuple #[.agg #[.slice a1 n1 c1,.slice aq i cq,.slice al j cl,.slice a4 n4 c4,.int .i64 hi],.bool true])) W9):=⟨.inr ⟨HY.out,a1,aq,al,a4,n1,c1,cq,cl,n4,c4,by show _ = Ending.returned (.tuple #[.agg #[_,.slice aq ps.length cq,.slice al ls.length cl,_,_],_]);rw [← H2.out,← H3.out],by show OwnQ W9 _ (.slice aq ps.length cq) (placesM ns bs ps ps.length);rw [← H2.out];exact oQ,by show OwnL W9 _ (.slice al ls.length cl) (linesM ns bs ls ls.length);rw [← H3.out];exact oL⟩,b9⟩
        unfold StayM
        clear l9 p9 n9 oQ oL b9 lR
        go_wp2
        exact bodyPost_ret (v:=.tuple #[.agg #[.slice a1 n1 c1,.slice aq i cq,.slice al j cl,.slice a4 n4 c4,.int .i64 hi],.bool true]) (results_row_tmp Tryz.results6 _ _ (w.heap.size + 1) _ _ _ _ (.bool true) rfl lZ Tryz.underlying29 rfl (by kernel_rfl) rfl) rfl RES.out
end Go.Proofs.YtjnmloaopnbpgaaGreatDoor
