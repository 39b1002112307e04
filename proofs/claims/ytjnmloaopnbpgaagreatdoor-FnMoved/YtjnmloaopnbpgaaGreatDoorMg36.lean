/-
 BoxAt of the program, at a page whose places are near.
 What the law on moved pages wants besides: boxes of a tree, the box that is found, structs that are alike.
-/
import Derived.Test.YtjnmloaopnbpgaaGreatDoorMg35
namespace Go.Proofs.YtjnmloaopnbpgaaGreatDoor
open Go.ChangeShapes Go.WideShapes Go.ChangeAt Go.RowKit
set_option linter.unusedVariables false
set_option maxRecDepth 100000 in
set_option maxHeartbeats 4000000 in
theorem indexFar_any (a:Option Addr) (n cap:Nat) (l:List Plc) (w:World) (hn:n = l.length) (hr:PlRow w a l) (hl:n ≤ 1048576) (hq:∀ q ∈ l,nearQ q = true) :
  Calls Tryz.prog 46 #[.slice a n cap,.func (.func 25) #[] #[]] w fun e w'=>e = .returned (.int .i64 (-1)) ∧ Below w.heap.size w w':=by
 have HN:Hid (n = l.length):=hn
 have HR:Hid (PlRow w a l):=hr
 have HQ:Hid (∀ q ∈ l,nearQ q = true):=hq
 clear hn hr hq
 go_enter Tryz.func46,Tryz.ntmps46
 go_wp2_with fail
 go_loopw [8] (fun i wr=>∃ k:Nat,k ≤ n ∧ i = .int .i64 k ∧ Below w.heap.size w wr) (fun i _=>n - (intOf i).toNat)
 case atStart=>exact ⟨0,Nat.zero_le _,rfl,Below.refl _ _⟩
 case round =>
  obtain ⟨k,hk,rfl,hbw⟩:=hrel
  by_cases hlt:k < n
  rotate_left
  ·go_wp2
   go_ret
   exact ⟨rfl,hbw⟩
  obtain ⟨x,hx⟩:∃ x,l[k]? = some x:=⟨_,List.getElem?_eq_getElem (by have:=HN.out;omega)⟩
  obtain ⟨b,off,rfl,hc⟩:=pl_some HR.out hx
  have hr:=pl_below (hc k x hx) hbw (pl_lt (hc k x hx))
  obtain ⟨q0,q1,q2,q3⟩:=pl_cells hr
  have FX:=isFar_no x wr (HQ.out x (List.mem_of_getElem? hx))
  clear hc hx hr
  go_wp2_with fail
  refine FX.mono ?_
  rintro e w2 ⟨rfl,hb⟩
  have b2:Below w.heap.size w w2:=hbw.trans (hb.mono hbw.size)
  clear hb hbw q0 q1 q2 q3 FX
  go_wp2
  go_roundw
  case rel=>exact ⟨k + 1,by omega,by go_num,b2⟩
  case measure=>simp [intOf];omega
set_option maxHeartbeats 4000000 in
theorem containsFar_any (a:Option Addr) (n cap:Nat) (l:List Plc) (w:World) (hn:n = l.length) (hr:PlRow w a l) (hl:n ≤ 1048576) (hq:∀ q ∈ l,nearQ q = true) :
  Calls Tryz.prog 24 #[.slice a n cap,.func (.func 25) #[] #[]] w fun e w'=>e = .returned (.bool false) ∧ Below w.heap.size w w':=by
 have IX:=indexFar_any a n cap l w hn hr hl hq
 clear hn hr hq
 go_enter Tryz.func24,Tryz.ntmps24
 go_wp2_with fail
 refine IX.mono ?_
 rintro e w2 ⟨rfl,b2⟩
 clear IX
 go_wp2
 go_ret
 exact ⟨rfl,b2⟩
set_option maxRecDepth 100000 in
set_option maxHeartbeats 8000000 in
theorem implBoxAt9 (P:Pg) (x y:Int) (w:World) (hr:PgRow w P) (hl:PgLen P 1048576) (hq:∀ q ∈ P.ps,nearQ q = true) :
  Calls Tryz.prog 7 #[.agg #[.slice P.ba P.bs.length P.bc,.slice P.pa P.ps.length P.pc,.slice P.la P.ls.length P.lc,.slice P.fa P.fs.length P.fc,.int .i64 P.hi],.int .i64 x,.int .i64 y] w fun e w'=>e = .returned (.tuple #[.int .i64 (baV P x y),.bool (baB P x y)]) ∧ Below w.heap.size w w':=by
 have HR:Hid (BxRow w P.ba P.bs):=hr.rb
 have HS:Hid (PlRow w P.pa P.ps):=hr.rp
 have HQ0:Hid (∀ q ∈ P.ps,nearQ q = true):=hq
 obtain ⟨ba,bc,bs,pa,pc,ps,la,lc,ls,fa,fc,fs,hi⟩:=P
 obtain ⟨nb,hnb⟩:∃ n,n = bs.length:=⟨_,rfl⟩
 obtain ⟨np,hnp⟩:∃ n,n = ps.length:=⟨_,rfl⟩
 have hlb:nb ≤ 1048576:=by rw [hnb];exact hl.lb
 have hlp:np ≤ 1048576:=by rw [hnp];exact hl.lp
 have H1:Hid (nb = bs.length):=hnb
 have H2:Hid (np = ps.length):=hnp
 obtain ⟨PP,hP⟩:∃ Q:Pg,Q = ⟨ba,bc,bs,pa,pc,ps,la,lc,ls,fa,fc,fs,hi⟩:=⟨_,rfl⟩
 have HPb:Hid (PP.bs = bs):=by show PP.bs = bs;rw [hP]
 have HPp:Hid (PP.ps = ps):=by show PP.ps = ps;rw [hP]
 dsimp only at HR HS HQ0 ⊢
 rw [← hP,← hnb,← hnp]
 generalize ls.length = nl
 generalize fs.length = nf
 clear hP hnb hnp hl hr hq
 obtain ⟨W0,hW0⟩:∃ W,W = w.alloc (.cells #[.slice ba nb bc,.slice pa np pc,.slice la nl lc,.slice fa nf fc,.int .i64 hi] 29):=⟨_,rfl⟩
 have l0:W0.heap[w.heap.size]? = some (.cells #[.slice ba nb bc,.slice pa np pc,.slice la nl lc,.slice fa nf fc,.int .i64 hi] 29 (0,0)):=by rw [hW0];exact heap_at _ _ _ rfl
 have b0:Below w.heap.size w W0:=by rw [hW0];exact (Below.refl _ _).alloc (Nat.le_refl _) _
 have IP:=isPlaced_any ba pa la fa nb bc np pc nl lc nf fc hi W0 hlb hlp
 go_enter Tryz.func7,Tryz.ntmps7
 go_wp2_with fail
 rw [← hW0]
 clear hW0
 refine IP.mono ?_
 rintro e w1 ⟨rfl,hb1⟩
 have b1:=b0.trans (hb1.mono b0.size)
 have l1:=below_lies hb1 l0 (lies_lt l0)
 clear hb1 b0 l0 IP
 by_cases hne:np = nb
 rotate_left
 ·have HZ:Hid (baV PP x y = 0 ∧ baB PP x y = false):=ba_none (baI_no (by unfold baOk;rw [pgOk_no (by rw [HPb.out,HPp.out,← H1.out,← H2.out];omega)];rfl))
  rw [decide_eq_false hne,Bool.false_and]
  clear hne
  go_wp2
  go_ret2
  exact ⟨ret_tupB HZ.out.1.symm HZ.out.2.symm,b1⟩
 by_cases hbig:nb ≤ 80
 rotate_left
 ·have HZ:Hid (baV PP x y = 0 ∧ baB PP x y = false):=ba_none (baI_no (by unfold baOk;rw [pgOk_no (by rw [HPb.out,HPp.out,← H1.out,← H2.out];omega)];rfl))
  rw [decide_eq_false hbig,Bool.and_false]
  clear hne hbig
  go_wp2
  go_ret2
  exact ⟨ret_tupB HZ.out.1.symm HZ.out.2.symm,b1⟩
 have HOK:Hid (pgOk PP = true):=pgOk_yes (by rw [HPb.out,HPp.out,← H1.out,← H2.out];exact hne) (by rw [HPb.out,← H1.out];exact hbig)
 rw [decide_eq_true hne,decide_eq_true hbig,Bool.true_and]
 subst hne
 go_wp2_with fail
 refine (isNear_any x _).mono ?_
 rintro e w' ⟨rfl,hw'⟩
 have hw':=hw'.symm
 subst hw'
 rcases Bool.eq_false_or_eq_true (nearB x) with hx | hx
 rotate_left
 ·have HZ:Hid (baV PP x y = 0 ∧ baB PP x y = false):=ba_none (baI_no (by unfold baOk;rw [hx];simp))
  rw [hx]
  clear hx
  go_wp2
  go_ret2
  exact ⟨ret_tupB HZ.out.1.symm HZ.out.2.symm,b1⟩
 have HX0:Hid (nearB x = true):=hx
 rw [hx]
 clear hx
 go_wp2_with fail
 refine (isNear_any y _).mono ?_
 rintro e w' ⟨rfl,hw'⟩
 have hw':=hw'.symm
 subst hw'
 rcases Bool.eq_false_or_eq_true (nearB y) with hy | hy
 rotate_left
 ·have HZ:Hid (baV PP x y = 0 ∧ baB PP x y = false):=ba_none (baI_no (by unfold baOk;rw [hy];simp))
  rw [hy]
  clear hy
  go_wp2
  go_ret2
  exact ⟨ret_tupB HZ.out.1.symm HZ.out.2.symm,b1⟩
 have HY0:Hid (nearB y = true):=hy
 rw [hy]
 clear hy
 have c1:w1.cell? ⟨w.heap.size,1,none⟩ = some (.slice pa np pc):=(lies_cell l1 1).trans rfl
 have CF:=containsFar_any pa np pc ps w1 H2.out (HS.out.below b1) hlp HQ0.out
 go_wp2_with fail
 refine CF.mono ?_
 rintro e w2 ⟨rfl,hb2⟩
 have b2:=b1.trans (hb2.mono b1.size)
 have l2:=below_lies hb2 l1 (lies_lt l1)
 have c0:w2.cell? ⟨w.heap.size,0,none⟩ = some (.slice ba np bc):=(lies_cell l2 0).trans rfl
 have HA:Hid (∀ (i:Nat) (q:Plc),i < ps.length → ps[i]? = some q → nearQ q = true):=fun i q hi hq=>HQ0.out q (List.mem_of_getElem? hq)
 have HI:Hid (baI PP x y = lastTo (atB PP x y) np):=by show baI PP x y = _;rw [ba_good HOK.out HX0.out HY0.out (by rw [HPp.out];exact HA.out),HPb.out,← H1.out]
 have HBW:Hid (Below w.heap.size w w2):=b2
 have HL2:Hid (w2.heap[w.heap.size]? = some (.cells #[.slice ba np bc,.slice pa np pc,.slice la nl lc,.slice fa nf fc,.int .i64 hi] 29 (0,0))):=l2
 clear CF hb2 l1 b1 c1 b2 l2
 go_wp2_with fail
 go_loopw [8] (fun i wq=>∃ j:Nat,j ≤ np ∧ i = .int .i64 ((j:Int) - 1) ∧ Hid (lastTo (atB PP x y) np = lastTo (atB PP x y) j) ∧ wq.heap[w.heap.size]? = some (.cells #[.slice ba np bc,.slice pa np pc,.slice la nl lc,.slice fa nf fc,.int .i64 hi] 29 (0,0)) ∧ Below w.heap.size w wq) (fun i _=>(intOf i + 1).toNat)
 case atStart=>exact ⟨np,Nat.le_refl _,by go_num,(rfl:lastTo (atB PP x y) np = lastTo (atB PP x y) np),HL2.out,HBW.out⟩
 case round =>
  clear HL2 HBW c0
  obtain ⟨j,hj,rfl,HQ,l0,hbq⟩:=hrel
  by_cases hj0:j = 0
  ·have HZ:Hid (baV PP x y = 0 ∧ baB PP x y = false):=ba_none (by rw [HI.out,HQ.out,hj0];rfl)
   subst hj0
   go_wp2
   go_ret2
   exact ⟨ret_tupB HZ.out.1.symm HZ.out.2.symm,hbq⟩
  obtain ⟨m,rfl⟩:∃ m,j = m + 1:=⟨j - 1,by omega⟩
  clear hj0
  have em:((m + 1:Nat):Int) - 1 = (m:Int):=by omega
  rw [em]
  obtain ⟨⟨xk,xn,xu,xt⟩,hx⟩:∃ b,bs[m]? = some b:=⟨_,List.getElem?_eq_getElem (by have:=H1.out;omega)⟩
  obtain ⟨z,hz⟩:∃ z,ps[m]? = some z:=⟨_,List.getElem?_eq_getElem (by have:=H2.out;omega)⟩
  obtain ⟨b,off,rfl,hc⟩:=bx_some HR.out hx
  obtain ⟨b',off',rfl,hc'⟩:=pl_some HS.out hz
  have hr:=bx_below (hc m _ hx) hbq (bx_lt (hc m _ hx))
  have hr':=pl_below (hc' m z hz) hbq (pl_lt (hc' m z hz))
  obtain ⟨r0,r1,r2,r3⟩:=pl_cells hr'
  obtain ⟨q0,_,_,_⟩:=bx_cells hr
  dsimp only at q0
  have hzq:=HA.out m z (by have:=H2.out;omega) hz
  have HH:=holds_any z x y wr hzq
  have p1:wr.cell? ⟨w.heap.size,1,none⟩ = some (.slice (some ⟨b',off',none⟩) np pc):=(lies_cell l0 1).trans rfl
  have p0:wr.cell? ⟨w.heap.size,0,none⟩ = some (.slice (some ⟨b,off,none⟩) np bc):=(lies_cell l0 0).trans rfl
  have HE:Hid (atB PP x y m = inBox x y ⟨xk,xn,xu,xt⟩ z):=atB_eq (by rw [HPb.out];exact hx) (by rw [HPp.out];exact hz)
  have HO:Hid (inBox x y ⟨xk,xn,xu,xt⟩ z = (!(decide (xk = 2)) && decide (z.x ≤ x) && decide (x < z.x + z.w) && decide (z.y ≤ y) && decide (y < z.y + z.h))):=rfl
  have HHB:Hid (holdsB z x y = (decide (z.x ≤ x) && decide (x < z.x + z.w) && decide (z.y ≤ y) && decide (y < z.y + z.h))):=rfl
  have HAT:Hid (atB PP x y m = (!(decide (xk = 2)) && holdsB z x y)):=by
   show _ = _
   rw [HE.out,HO.out,HHB.out,Bool.and_assoc,Bool.and_assoc,Bool.and_assoc,Bool.and_assoc,Bool.and_assoc]
  clear hc hc' hx hz hr hr' hzq HE HO HHB
  by_cases hkd:xk = 2
  ·have HF:Hid (atB PP x y m = false):=by show atB PP x y m = false;rw [HAT.out,decide_eq_true hkd];rfl
   subst hkd
   clear HH
   go_wp2
   go_roundw
   case rel=>exact ⟨m,by omega,by go_num,(by rw [HQ.out,last_no HF.out]:lastTo (atB PP x y) np = lastTo (atB PP x y) m),l0,hbq⟩
   case measure=>first | (simp [intOf];done) | (simp [intOf];omega)
  have bkd:(xk != 2) = true:=by simp [hkd]
  go_wp2_with fail
  refine HH.mono ?_
  rintro e w5 ⟨rfl,hb5⟩
  have B5:=hbq.trans (hb5.mono hbq.size)
  have l5:=below_lies hb5 l0 (lies_lt l0)
  clear hb5 hbq l0 HH r0 r1 r2 r3 q0 p0 p1
  rcases Bool.eq_false_or_eq_true (holdsB z x y) with hh | hh
  ·have HZ:Hid (baV PP x y = (m:Int) ∧ baB PP x y = true):=ba_some (by rw [HI.out,HQ.out,last_yes (by rw [HAT.out,decide_eq_false hkd,hh];rfl)])
   rw [hh]
   clear hh hkd
   go_wp2
   go_ret2
   exact ⟨ret_tupB HZ.out.1.symm HZ.out.2.symm,B5⟩
  ·have HF:Hid (atB PP x y m = false):=by show atB PP x y m = false;rw [HAT.out,hh];simp
   rw [hh]
   clear hh hkd
   go_wp2
   go_roundw
   case rel=>exact ⟨m,by omega,by go_num,(by rw [HQ.out,last_no HF.out]:lastTo (atB PP x y) np = lastTo (atB PP x y) m),l5,B5⟩
   case measure=>first | (simp [intOf];done) | (simp [intOf];omega)
theorem bsOk_of {ns:List Nd} (h:boxB ns = true):BsOk ns.length (boxR ns):=by
 have hT:treeB (okB true) styleB ns = true:=by
  unfold boxB at h
  simp only [Bool.and_eq_true] at h
  exact h.1.1
 rw [boxR_yes h]
 obtain ⟨hns,hwh⟩:=ns_ok hT
 obtain ⟨⟨h1,h40⟩,_⟩:=treeB_parts hT
 have h9:=le_ok (E:={ fa:=1,fd:=1,fn:=1,fu:=1,fb:=1,ns:=ns,bs:=boxesL ns,nb:=0,noff:=0,n:=ns.length,ncap:=0,xb:=0,xoff:=0,m:=(boxesL ns).length,xcap:=0 }) hns h40 rfl rfl rfl rfl ⟨by show (1:Int) ≤ 1;omega,by show (1:Int) ≤ 6400;omega,by show (1:Int) ≤ 1;omega,by show (1:Int) ≤ 6400;omega,by show (1:Int) ≤ 1;omega,by show (1:Int) ≤ 6400;omega⟩
 have hk:kindS (ns.getD 0 nd0).st = 1:=by
  unfold boxB at h
  simp only [Bool.and_eq_true,decide_eq_true_eq] at h
  exact h.1.2
 exact ⟨h9.m80,boxes_pos hns (by omega) hk,h9.nd,h9.up⟩
theorem lastTo_le {p:Nat → Bool} {k:Nat} (h:p k = true):∀ n,k < n → (k:Int) ≤ lastTo p n
 | 0,h0=>by omega
 | n + 1,hk=>by
  unfold lastTo
  split
  ·omega
  ·rename_i hn
   exact lastTo_le h n (by
    rcases Nat.lt_or_ge k n with e | e
    ·exact e
    ·have:k = n:=by omega
     subst this
     exact absurd h hn)
/-- The box that is found where a box of some size is, is no earlier one. -/
theorem ba_at {P:Pg} {k:Nat} {b:Bx} {z:Plc} (hb:P.bs[k]? = some b) (hz:P.ps[k]? = some z) (hkd:¬ b.kd = 2) (hw:0 < z.w) (hh:0 < z.h) (hB:baB P z.x z.y = true):(k:Int) ≤ baV P z.x z.y:=by
 have h0:0 ≤ baI P z.x z.y:=by unfold baB at hB;exact of_decide_eq_true hB
 have hat:atB P z.x z.y k = true:=by
  unfold atB
  rw [hb,hz]
  show inBox z.x z.y b z = true
  unfold inBox
  rw [decide_eq_false hkd,decide_eq_true (Int.le_refl z.x),decide_eq_true (show z.x < z.x + z.w by omega),decide_eq_true (Int.le_refl z.y),decide_eq_true (show z.y < z.y + z.h by omega)]
  rfl
 have h1:(k:Int) ≤ baI P z.x z.y:=by
  unfold baI at h0 ⊢
  split
  ·exact lastTo_le hat _ (List.getElem?_eq_some_iff.1 hb).1
  ·rename_i hno
   rw [if_neg hno] at h0
   omega
 unfold baV
 omega
theorem eqPl_held:Tryz.prog.stoodInHeld 35 = false:=by kernel_rfl
theorem eqPl_guard:Tryz.prog.eqGuardType Tryz.prog.depth 35 = false:=by kernel_rfl
theorem eqPl_fields:Tryz.prog.underlying 35 = some (.struct (Tryz.prog.fieldsOf 35)):=by kernel_rfl
theorem nePl_run (a b c d:Int) (w:World) :
  (binOp .neq 35 (.agg #[.int .i64 a,.int .i64 b,.int .i64 c,.int .i64 d]) (.agg #[.int .i64 a,.int .i64 b,.int .i64 c,.int .i64 d])).run Tryz.prog w = .ok (.bool false) w:=by
 rw [run_neq_struct,run_equalIn_agg _ _ _ _ _ eqPl_fields eqPl_held]
 simp only [Program.fieldsOf,Tryz.underlying35]
 simp [Op.eqFields,go_sem,Tryz.underlying3]
theorem eqLn_held:Tryz.prog.stoodInHeld 37 = false:=by kernel_rfl
theorem eqLn_guard:Tryz.prog.eqGuardType Tryz.prog.depth 37 = false:=by kernel_rfl
theorem eqLn_fields:Tryz.prog.underlying 37 = some (.struct (Tryz.prog.fieldsOf 37)):=by kernel_rfl
theorem neLn_run (a b c d e:Int) (s:ByteArray) (w:World) :
  (binOp .neq 37 (.agg #[.int .i64 a,.int .i64 b,.int .i64 c,.int .i64 d,.int .i64 e,.string s]) (.agg #[.int .i64 a,.int .i64 b,.int .i64 c,.int .i64 d,.int .i64 e,.string s])).run Tryz.prog w = .ok (.bool false) w:=by
 rw [run_neq_struct,run_equalIn_agg _ _ _ _ _ eqLn_fields eqLn_held]
 simp only [Program.fieldsOf,Tryz.underlying37]
 simp [Op.eqFields,go_sem,Tryz.underlying3,Tryz.underlying9]
end Go.Proofs.YtjnmloaopnbpgaaGreatDoor
