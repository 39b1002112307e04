/-
 Contract of DrawMovePage: a drawn tree and a page of few lines whose places are near.
 The program's tests of places: a place that is near is not far, and whether a place holds a point.
-/
import Derived.Test.YtjnmloaopnbpgaaGreatDoorMg34
namespace Go.Proofs.YtjnmloaopnbpgaaGreatDoor
open Go.ChangeShapes Go.WideShapes Go.ChangeAt Go.RowKit
set_option linter.unusedVariables false
/-- What is known of a page that is drawn. -/
structure PgMv (w:World) (B:Nat) (P:Pg):Prop where
 row:PgRow w P
 nb:P.bs.length ≤ 80
 np:P.ps.length ≤ 80
 nl:P.ls.length ≤ 397
 nf:P.fs.length ≤ 1000
 tx:∀ x ∈ P.ls,x.tx.size ≤ 200
 near:∀ q ∈ P.ps,nearQ q = true
 ab:∀ p,P.ba = some p → B ≤ p.block
 ap:∀ p,P.pa = some p → B ≤ p.block
 al:∀ p,P.la = some p → B ≤ p.block
 af:∀ p,P.fa = some p → B ≤ p.block
 pcl:P.ps.length ≤ P.pc
theorem PgOk.mv {w:World} {B:Nat} {P:Pg} (h:PgOk w B P):PgMv w B P:=⟨h.row,h.nb,by have:=h.np;have:=h.nb;omega,by have:=h.nl;omega,h.nf,h.tx,h.near,h.ab,h.ap,h.al,h.af,h.pcl⟩
theorem PgMv.below {w w':World} {B:Nat} {P:Pg} (h:PgMv w B P) (hb:Below w.heap.size w w'):PgMv w' B P:=⟨h.row.below hb,h.nb,h.np,h.nl,h.nf,h.tx,h.near,h.ab,h.ap,h.al,h.af,h.pcl⟩
theorem PgMv.low {w:World} {B B':Nat} {P:Pg} (h:PgMv w B P) (hB:B' ≤ B):PgMv w B' P:=⟨h.row,h.nb,h.np,h.nl,h.nf,h.tx,h.near,fun p e=>Nat.le_trans hB (h.ab p e),fun p e=>Nat.le_trans hB (h.ap p e),fun p e=>Nat.le_trans hB (h.al p e),fun p e=>Nat.le_trans hB (h.af p e),h.pcl⟩
/-- The first place is cut off. -/
theorem PgMv.cut {w:World} {B b off:Nat} {P:Pg} (h:PgMv w B P) (hp:P.pa = some ⟨b,off,none⟩) (hc:∀ i n,P.ps[i]? = some n → w.rangeAt b (off + i * 4) (plL n)):PgMv w B { P with pa:=some ⟨b,off + 4,none⟩,pc:=P.pc - 1,ps:=P.ps.drop 1 }:=by
 refine ⟨⟨h.row.rb,.inr ⟨b,off + 4,rfl,fun i x hx=>?_⟩,h.row.rl,h.row.rf⟩,h.nb,?_,h.nl,h.nf,h.tx,fun q hq=>h.near q (List.mem_of_mem_drop hq),h.ab,fun p e=>?_,h.al,h.af,?_⟩
 ·have hx':P.ps[1 + i]? = some x:=by rw [← List.getElem?_drop];exact hx
  have:=hc (1 + i) x hx'
  rw [show off + (1 + i) * 4 = off + 4 + i * 4 by omega] at this
  exact this
 ·show (P.ps.drop 1).length ≤ 80
  rw [List.length_drop]
  have:=h.np
  omega
 ·have e':(⟨b,off + 4,none⟩:Addr) = p:=Option.some.inj e
  rw [← e']
  exact h.ap ⟨b,off,none⟩ hp
 ·show (P.ps.drop 1).length ≤ P.pc - 1
  rw [List.length_drop]
  have:=h.pcl
  omega
theorem PgMv.bare {w:World} {B:Nat} {P:Pg} (h:PgMv w B P):PgMv w B { P with pc:=0,ps:=[] }:=⟨⟨h.row.rb,.inl rfl,h.row.rl,h.row.rf⟩,h.nb,by show 0 ≤ 80;omega,h.nl,h.nf,h.tx,fun q hq=>absurd hq List.not_mem_nil,h.ab,h.ap,h.al,h.af,Nat.le_refl _⟩
theorem range_at {w w':World} {b o:Nat} {L:List Value} (h:w.rangeAt b o L) (hb:w'.heap[b]? = w.heap[b]?):w'.rangeAt b o L:=fun j v hv=>(World.cell?_of_block (a:=⟨b,o + j,none⟩) hb).trans (h j v hv)
/-- A page's rows stand where the blocks from B on do. -/
theorem PgMv.stand {w w':World} {B:Nat} {P:Pg} (h:PgMv w B P) (hb:∀ b,B ≤ b → b < w.heap.size → w'.heap[b]? = w.heap[b]?):PgMv w' B P:=by
 refine ⟨⟨?_,?_,?_,?_⟩,h.nb,h.np,h.nl,h.nf,h.tx,h.near,h.ab,h.ap,h.al,h.af,h.pcl⟩
 ·rcases h.row.rb with h0 | ⟨b,off,e,hc⟩
  ·exact .inl h0
  ·exact .inr ⟨b,off,e,fun i x hx=>range_at (hc i x hx) (hb b (h.ab _ e) (bx_lt (hc i x hx)))⟩
 ·rcases h.row.rp with h0 | ⟨b,off,e,hc⟩
  ·exact .inl h0
  ·exact .inr ⟨b,off,e,fun i x hx=>range_at (hc i x hx) (hb b (h.ap _ e) (pl_lt (hc i x hx)))⟩
 ·rcases h.row.rl with h0 | ⟨b,off,e,hc⟩
  ·exact .inl h0
  ·exact .inr ⟨b,off,e,fun i x hx=>range_at (hc i x hx) (hb b (h.al _ e) (World.block_lt_of_cell? _ ⟨b,off + i * 6 + 0,none⟩ (hc i x hx 0 (.int .i64 x.bx) rfl)))⟩
 ·rcases h.row.rf with h0 | ⟨b,off,e,hc⟩
  ·exact .inl h0
  ·exact .inr ⟨b,off,e,fun i x hx=>range_at (hc i x hx) (hb b (h.af _ e) (as_lt (hc i x hx)))⟩
theorem owns_at {w w':World} {B:Nat} {e:TypeId} {size:Nat} {v:Value} {n:Nat} {xs:List Value} (h:w.ownsRow B e size v n xs) (hb:∀ k,v.ownBlock = some k → w'.heap[k]? = w.heap[k]?):w'.ownsRow B e size v n xs:=by
 refine ⟨h.1,?_⟩
 rcases h.2 with hn | ⟨g,cap,cur,rfl,hbg,hg,rest⟩
 ·exact .inl hn
 ·exact .inr ⟨g,cap,cur,rfl,hbg,(hb g rfl).trans hg,rest⟩
/-- A line is put behind the page's lines. -/
theorem PgMv.more {w w':World} {B g9 cap9:Nat} {P:Pg} {x:Ln} (h:PgMv w B P) (hl:P.ls.length ≤ 396) (hx:x.tx.size ≤ 200) (ho:OwnL w' B (.slice (some ⟨g9,0,none⟩) (P.ls.length + 1) cap9) (P.ls ++ [x]))
  (hb:∀ b,B ≤ b → b < w.heap.size → (Value.slice P.la P.ls.length P.lc).ownBlock ≠ some b → w'.heap[b]? = w.heap[b]?)
  (ha:∀ k,(Value.slice P.la P.ls.length P.lc).ownBlock = some k → (∀ p,P.ba = some p → p.block ≠ k) ∧ (∀ p,P.pa = some p → p.block ≠ k) ∧ (∀ p,P.fa = some p → p.block ≠ k)):PgMv w' B { P with la:=some ⟨g9,0,none⟩,lc:=cap9,ls:=P.ls ++ [x] }:=by
 have hlen:(P.ls ++ [x]).length = P.ls.length + 1:=by simp
 refine ⟨⟨?_,?_,?_,?_⟩,h.nb,h.np,?_,h.nf,?_,h.near,h.ab,h.ap,?_,h.af,h.pcl⟩
 ·rcases h.row.rb with h0 | ⟨b,off,e,hc⟩
  ·exact .inl h0
  ·exact .inr ⟨b,off,e,fun i y hy=>range_at (hc i y hy) (hb b (h.ab _ e) (bx_lt (hc i y hy)) (fun e2=>(ha b e2).1 _ e rfl))⟩
 ·rcases h.row.rp with h0 | ⟨b,off,e,hc⟩
  ·exact .inl h0
  ·exact .inr ⟨b,off,e,fun i y hy=>range_at (hc i y hy) (hb b (h.ap _ e) (pl_lt (hc i y hy)) (fun e2=>(ha b e2).2.1 _ e rfl))⟩
 ·obtain ⟨a1,c1,e1,-,hr,-⟩:=OwnL.form ho
  injection e1 with e1 _ _
  subst e1
  exact hr
 ·rcases h.row.rf with h0 | ⟨b,off,e,hc⟩
  ·exact .inl h0
  ·exact .inr ⟨b,off,e,fun i y hy=>range_at (hc i y hy) (hb b (h.af _ e) (as_lt (hc i y hy)) (fun e2=>(ha b e2).2.2 _ e rfl))⟩
 ·show (P.ls ++ [x]).length ≤ 397
  omega
 ·intro y hy
  rcases List.mem_append.1 hy with hy | hy
  ·exact h.tx y hy
  ·rw [List.mem_singleton.1 hy]
   exact hx
 ·intro p hp
  injection hp with hp
  subst hp
  exact OwnL.base ho g9 rfl
def pgA (P:Pg):Array Value:=#[.slice P.ba P.bs.length P.bc,.slice P.pa P.ps.length P.pc,.slice P.la P.ls.length P.lc,.slice P.fa P.fs.length P.fc,.int .i64 P.hi]
def MvX9 (w W0 W1 w2:World) (n nb ncap:Nat) (ns:List Nd) (wx:World):Prop:=∃ P':Pg,wx.heap[w2.heap.size]? = some (.cells (pgA P') 29 (0,0)) ∧ PgMv wx W1.heap.size P' ∧ OwnN wx W0.heap.size (.slice (some ⟨nb,0,none⟩) n ncap) ns ∧ wx.heap[w.heap.size]? = some (.cells #[.slice none 0 0,.slice none 0 0,.slice none 0 0,.slice none 0 0,.int .i64 0] 29 (0,0)) ∧ Below w.heap.size w wx
set_option maxRecDepth 1000000 in
set_option maxHeartbeats 4000000 in
theorem drawMove_any (a:Option Addr) (len cap:Nat) (w:World) (hl:len ≤ 1048576) (h:RowB w a len) :
  Calls Tryz.prog 4 #[.slice a len cap] w fun e w'=>∃ (v:Value) (ns:List Nd) (P:Pg),e = .returned (.tuple #[v,.agg (pgA P)]) ∧ OwnN w' w.heap.size v ns ∧ TrOk ns ∧ PgMv w' w.heap.size P ∧ Below w.heap.size w w':=by
 obtain ⟨W0,hW0⟩:∃ W,W = (w.alloc (.cells #[.slice none 0 0,.slice none 0 0,.slice none 0 0,.slice none 0 0,.int .i64 0] 29)).alloc (.cells #[.slice a len cap,.int .i64 0,.int .u64 0] 46):=⟨_,rfl⟩
 have b0:Below w.heap.size w W0:=by rw [hW0];exact ((Below.refl _ _).alloc (Nat.le_refl _) _).alloc (by simp) _
 have lP0:W0.heap[w.heap.size]? = some (.cells #[.slice none 0 0,.slice none 0 0,.slice none 0 0,.slice none 0 0,.int .i64 0] 29 (0,0)):=by rw [hW0];exact heap_in (heap_at _ _ _ rfl)
 have C0:CurOk W0 (w.heap.size + 1) a len cap 0:=by rw [hW0];exact cur_two9 w _ a len cap hl h
 have hsz0:w.heap.size + 2 ≤ W0.heap.size:=by rw [hW0];simp
 have DL:=drawLay_any a len cap W0 hl (h.below b0)
 clear hl h
 go_enter Tryz.func4,Tryz.ntmps4
 go_wp2_with fail
 rw [← hW0]
 clear hW0
 refine DL.mono ?_
 rintro e w1 ⟨fa,fd,fn,fu,fb,v,ns,wd,rfl,O1,T1,hb1⟩
 have b1:=b0.trans (hb1.mono b0.size)
 have lP1:=below_lies hb1 lP0 (lies_lt lP0)
 have C1:=C0.grown hb1
 have hs0:=b0.size
 have hs1:=hb1.size
 clear hb1 DL lP0 C0
 obtain ⟨nb,ncap,hv⟩:=nOwn_some O1 (by have:=T1.1;omega)
 obtain ⟨n,hn⟩:∃ n,n = ns.length:=⟨_,rfl⟩
 rw [← hn] at hv
 subst hv
 have HO1:Hid (OwnN w1 W0.heap.size (.slice (some ⟨nb,0,none⟩) n ncap) ns):=O1
 have HT:Hid (TrOk ns):=T1
 obtain ⟨W1,hW1⟩:∃ W,W = w1.alloc (.cells #[.int .i64 fa,.int .i64 fd,.int .i64 fn,.int .i64 fu,.int .i64 fb] 48):=⟨_,rfl⟩
 have bF:Below w1.heap.size w1 W1:=by rw [hW1];exact (Below.refl _ _).alloc (Nat.le_refl _) _
 have LP:Hid (Calls Tryz.prog 10 #[.agg #[.int .i64 fa,.int .i64 fd,.int .i64 fn,.int .i64 fu,.int .i64 fb],.slice (some ⟨nb,0,none⟩) n ncap,.int .i64 wd] W1 fun e w'=>LayRet W1 e w'):=by
  refine layPage_any fa fd fn fu fb nb 0 n ncap ns wd W1 hn (fun i x hx j u hj=>?_) T1
  have h1:=O1.cell (k:=i) (c:=j) hn hx hj
  rw [Nat.zero_add]
  exact (bF.cell (p:=⟨nb,i * 28 + j,none⟩) (World.block_lt_of_cell? _ ⟨nb,i * 28 + j,none⟩ h1)).trans h1
 have LP':=LP.out
 have bW1:=b1.trans (bF.mono b1.size)
 have lP2:=below_lies bF lP1 (lies_lt lP1)
 have C2:=C1.grown bF
 have HO2:Hid (OwnN W1 W0.heap.size (.slice (some ⟨nb,0,none⟩) n ncap) ns):=nOwn_keep O1 bF
 have hsF:=bF.size
 clear LP O1 T1 lP1 C1 b1 HO1 hn
 go_wp2_with fail
 rw [← hW1]
 clear hW1 bF
 refine LP'.mono ?_
 rintro e w2 ⟨P,code,rfl,hP,hb2⟩
 have b2:=bW1.trans (hb2.mono bW1.size)
 have lP3:=below_lies hb2 lP2 (lies_lt lP2)
 have C3:=C2.grown hb2
 have hnb01:W0.heap.size ≤ nb ∧ nb < W1.heap.size:=by
  have h9:W1.ownsRow W0.heap.size 75 28 (.slice (some ⟨nb,0,none⟩) n ncap) ns.length (flatN ns):=HO2.out
  exact h9.lt nb rfl
 have hnb0:=hnb01.1
 have hnb1:=hnb01.2
 clear hnb01
 have hnb2:nb < w2.heap.size:=by
  have h9:W1.ownsRow W0.heap.size 75 28 (.slice (some ⟨nb,0,none⟩) n ncap) ns.length (flatN ns):=HO2.out
  have:=(h9.lt nb rfl).2
  have:=hb2.size
  omega
 have HO3:Hid (OwnN w2 W0.heap.size (.slice (some ⟨nb,0,none⟩) n ncap) ns):=nOwn_keep HO2.out hb2
 have hs2:=hb2.size
 have hM2:=hP.mv
 have hOL:=hP.own
 have hnl6:=hP.nl
 have HAP:Hid (∀ k,(Value.slice P.la P.ls.length P.lc).ownBlock = some k → (∀ p,P.ba = some p → p.block ≠ k) ∧ (∀ p,P.pa = some p → p.block ≠ k) ∧ (∀ p,P.fa = some p → p.block ≠ k)):=hP.apart
 have HOLT:Hid (∀ k,(Value.slice P.la P.ls.length P.lc).ownBlock = some k → k < w2.heap.size):=fun k hk=>OwnL.lt hP.own k hk
 have HM2:Hid (PgMv w2 W1.heap.size P):=hM2
 have hW1w:w.heap.size + 2 ≤ W1.heap.size:=by omega
 clear hb2 LP' lP2 C2 HO2 bW1 hP
 obtain ⟨W3,hW3⟩:∃ W,W = w2.alloc (.cells (pgA P) 29):=⟨_,rfl⟩
 have bG:Below w2.heap.size w2 W3:=by rw [hW3];exact (Below.refl _ _).alloc (Nat.le_refl _) _
 have lG3:W3.heap[w2.heap.size]? = some (.cells (pgA P) 29 (0,0)):=by rw [hW3];exact heap_at _ _ _ rfl
 have b3:=b2.trans (bG.mono b2.size)
 have HBG:Hid (Below w2.heap.size w2 W3):=bG
 have lP4:=below_lies bG lP3 (lies_lt lP3)
 have C4:=C3.grown bG
 have HO4:Hid (OwnN W3 W0.heap.size (.slice (some ⟨nb,0,none⟩) n ncap) ns):=nOwn_keep HO3.out bG
 have hM3:=hM2.below bG
 have hOL3:OwnL W3 W1.heap.size (.slice P.la P.ls.length P.lc) P.ls:=OwnL.keep hOL bG
 have hsG:w2.heap.size < W3.heap.size:=by rw [hW3];simp
 have lP0':w.heap.size < w2.heap.size:=lies_lt lP3
 have P20:=pick_any (w.heap.size + 1) len cap 0 a 20 W3 (by omega) C4 (by omega) (by omega)
 have hsW0:w.heap.size + 2 ≤ W0.heap.size:=hsz0
 clear lP3 C3 HO3 b2 bG hM2 hOL C4
 go_wp2_with fail
 unfold pgA at hW3
 rw [← hW3]
 clear hW3
 refine P20.mono ?_
 rintro e w4 ⟨z,rfl,z0,z1,C5,G5⟩
 have lG5:=gro_lies G5 lG3 (by omega)
 have lP5:=gro_lies G5 lP4 (by omega)
 have HO5:Hid (OwnN w4 W0.heap.size (.slice (some ⟨nb,0,none⟩) n ncap) ns):=own_gro HO4.out G5 (by omega)
 have hM5:PgMv w4 W1.heap.size P:=hM3.stand (fun b h1 h2=>G5.block b h2 (fun e=>by injection e with e;omega))
 have hOL5:OwnL w4 W1.heap.size (.slice P.la P.ls.length P.lc) P.ls:=World.ownsRow.kept hOL3 G5 (by
  cases hv:(Value.slice P.la P.ls.length P.lc).ownBlock with
  | none=>exact .inl rfl
  | some k =>
   right
   intro e
   have:=(OwnL.base hOL3 k hv)
   injection e with e
   omega)
 have b5:Below w.heap.size w w4:=b3.trans ⟨G5.os,G5.tape,G5.output,G5.size,fun k hk=>G5.block k (by have:=b3.size;omega) (fun e=>by injection e with e;omega)⟩
 have hs5:=G5.size
 have HST:Hid (∀ b,W1.heap.size ≤ b → b < w2.heap.size → w4.heap[b]? = w2.heap[b]?):=fun b h1 h2=>(G5.block b (by omega) (fun e=>by injection e with e;omega)).trans (HBG.out.block b h2)
 have HC5:Hid (CurOk w4 (w.heap.size + 1) a len cap (0 + 2)):=C5
 clear P20 lG3 lP4 HO4 hM3 hOL3 b3 G5 C5
 have hM5':PgMv w4 w.heap.size P:=⟨hM5.row,hM5.nb,hM5.np,hM5.nl,hM5.nf,hM5.tx,hM5.near,fun p h=>by have:=hM5.ab p h;omega,fun p h=>by have:=hM5.ap p h;omega,fun p h=>by have:=hM5.al p h;omega,fun p h=>by have:=hM5.af p h;omega,hM5.pcl⟩
 go_upto_block 0 with fail
 go_cut [] from 28 to 48 (fun wx=>∃ P':Pg,wx.heap[w2.heap.size]? = some (.cells (pgA P') 29 (0,0)) ∧ PgMv wx W1.heap.size P' ∧ OwnN wx W0.heap.size (.slice (some ⟨nb,0,none⟩) n ncap) ns ∧ wx.heap[w.heap.size]? = some (.cells #[.slice none 0 0,.slice none 0 0,.slice none 0 0,.slice none 0 0,.int .i64 0] 29 (0,0)) ∧ Below w.heap.size w wx)
 case first =>
  have RES:Hid (∃ P':Pg,w4.heap[w2.heap.size]? = some (.cells (pgA P') 29 (0,0)) ∧ PgMv w4 W1.heap.size P' ∧ OwnN w4 W0.heap.size (.slice (some ⟨nb,0,none⟩) n ncap) ns ∧ w4.heap[w.heap.size]? = some (.cells #[.slice none 0 0,.slice none 0 0,.slice none 0 0,.slice none 0 0,.int .i64 0] 29 (0,0)) ∧ Below w.heap.size w w4):=⟨P,lG5,hM5,HO5.out,lP5,b5⟩
  by_cases h0:z = 0
  ·subst h0
   have c1:w4.cell? ⟨w2.heap.size,1,none⟩ = some (.slice P.pa P.ps.length P.pc):=(lies_cell lG5 1).trans rfl
   have f1:w4.frozen? ⟨w2.heap.size,1,none⟩ = false:=Lib.frozen_of_heap lG5 1
   have hnp:=hM5.np
   by_cases hps:0 < P.ps.length
   rotate_left
   ·have hps':¬ (0:Int) < (P.ps.length:Int):=by omega
    clear hM5 hM5' hOL5 lG5 lP5 b5
    go_wp2_with fail
    go_meet
    case rel=>exact RES.out
   ·obtain ⟨q,hq⟩:∃ q,P.ps[0]? = some q:=⟨_,List.getElem?_eq_getElem hps⟩
    obtain ⟨b,off,hpa,hc⟩:=pl_some HM2.out.row.rp hq
    obtain ⟨kp,hkp⟩:∃ k,k = P.ps.length:=⟨_,rfl⟩
    rw [hpa,← hkp] at c1
    have hpcl:=HM2.out.pcl
    by_cases hpc:P.pc = 1
    ·have hk1:kp = 1:=by omega
     rw [hpc,hk1] at c1
     have hpa2:=hpa
     have FIN:Hid (∃ P':Pg,(w4.setCell ⟨w2.heap.size,1,none⟩ (.slice (some ⟨b,off,none⟩) 0 0)).heap[w2.heap.size]? = some (.cells (pgA P') 29 (0,0)) ∧ PgMv (w4.setCell ⟨w2.heap.size,1,none⟩ (.slice (some ⟨b,off,none⟩) 0 0)) W1.heap.size P' ∧ OwnN (w4.setCell ⟨w2.heap.size,1,none⟩ (.slice (some ⟨b,off,none⟩) 0 0)) W0.heap.size (.slice (some ⟨nb,0,none⟩) n ncap) ns ∧ (w4.setCell ⟨w2.heap.size,1,none⟩ (.slice (some ⟨b,off,none⟩) 0 0)).heap[w.heap.size]? = some (.cells #[.slice none 0 0,.slice none 0 0,.slice none 0 0,.slice none 0 0,.int .i64 0] 29 (0,0)) ∧ Below w.heap.size w (w4.setCell ⟨w2.heap.size,1,none⟩ (.slice (some ⟨b,off,none⟩) 0 0))):=by
      refine ⟨{ P with pc:=0,ps:=[] },?_,?_,?_,?_,?_⟩
      ·rw [lies_set lG5]
       unfold pgA
       simp only [hpa]
       rfl
      ·have h1:=HM2.out.bare.stand (w':=w4.setCell ⟨w2.heap.size,1,none⟩ (.slice (some ⟨b,off,none⟩) 0 0)) (fun k h1 h2=>(Below.heap_setCell w4 ⟨w2.heap.size,1,none⟩ _ k (by show k ≠ w2.heap.size;omega)).trans (HST.out k h1 h2))
       exact h1
      ·exact World.ownsRow.kept HO5.out (row:=some w2.heap.size) ⟨rfl,rfl,rfl,by simp,fun k _ hk=>Below.heap_setCell w4 ⟨w2.heap.size,1,none⟩ _ k (fun e=>hk (by rw [e]))⟩ (.inr (fun e=>by
        have e2:nb = w2.heap.size:=by simpa [Value.ownBlock] using e
        have:=hnb2
        omega))
      ·exact (Below.heap_setCell w4 ⟨w2.heap.size,1,none⟩ _ w.heap.size (by show w.heap.size ≠ w2.heap.size;omega)).trans lP5
      ·exact b5.setCell (p:=⟨w2.heap.size,1,none⟩) (by show w.heap.size ≤ w2.heap.size;omega) _
     have hkp1:0 < kp:=by omega
     have hkp80:kp ≤ 80:=by omega
     clear hM5 hM5' hOL5 lG5 lP5 b5 hps hnp hkp hq hc hpa
     go_wp2_with fail
     go_meet
     case rel=>exact FIN.out
    have FIN:Hid (∃ P':Pg,(w4.setCell ⟨w2.heap.size,1,none⟩ (.slice (some ⟨b,off + 4,none⟩) (kp - 1) (P.pc - 1))).heap[w2.heap.size]? = some (.cells (pgA P') 29 (0,0)) ∧ PgMv (w4.setCell ⟨w2.heap.size,1,none⟩ (.slice (some ⟨b,off + 4,none⟩) (kp - 1) (P.pc - 1))) W1.heap.size P' ∧ OwnN (w4.setCell ⟨w2.heap.size,1,none⟩ (.slice (some ⟨b,off + 4,none⟩) (kp - 1) (P.pc - 1))) W0.heap.size (.slice (some ⟨nb,0,none⟩) n ncap) ns ∧ (w4.setCell ⟨w2.heap.size,1,none⟩ (.slice (some ⟨b,off + 4,none⟩) (kp - 1) (P.pc - 1))).heap[w.heap.size]? = some (.cells #[.slice none 0 0,.slice none 0 0,.slice none 0 0,.slice none 0 0,.int .i64 0] 29 (0,0)) ∧ Below w.heap.size w (w4.setCell ⟨w2.heap.size,1,none⟩ (.slice (some ⟨b,off + 4,none⟩) (kp - 1) (P.pc - 1)))):=by
     refine ⟨{ P with pa:=some ⟨b,off + 4,none⟩,pc:=P.pc - 1,ps:=P.ps.drop 1 },?_,?_,?_,?_,?_⟩
     ·rw [lies_set lG5]
      unfold pgA
      simp only [List.length_drop,← hkp]
      rfl
     ·have h1:=(HM2.out.cut hpa hc).stand (w':=w4.setCell ⟨w2.heap.size,1,none⟩ (.slice (some ⟨b,off + 4,none⟩) (kp - 1) (P.pc - 1))) (fun k h1 h2=>(Below.heap_setCell w4 ⟨w2.heap.size,1,none⟩ _ k (by show k ≠ w2.heap.size;omega)).trans (HST.out k h1 h2))
      exact h1
     ·exact World.ownsRow.kept HO5.out (row:=some w2.heap.size) ⟨rfl,rfl,rfl,by simp,fun k _ hk=>Below.heap_setCell w4 ⟨w2.heap.size,1,none⟩ _ k (fun e=>hk (by rw [e]))⟩ (.inr (fun e=>by
       have e2:nb = w2.heap.size:=by simpa [Value.ownBlock] using e
       have:=hnb2
       omega))
     ·exact (Below.heap_setCell w4 ⟨w2.heap.size,1,none⟩ _ w.heap.size (by show w.heap.size ≠ w2.heap.size;omega)).trans lP5
     ·exact b5.setCell (p:=⟨w2.heap.size,1,none⟩) (by show w.heap.size ≤ w2.heap.size;omega) _
    have hkp1:0 < kp:=by omega
    have hkp80:kp ≤ 80:=by omega
    clear hM5 hM5' hOL5 lG5 lP5 b5 hps hnp hkp hq hc hpa
    go_wp2_with fail
    go_meet
    case rel=>exact FIN.out
  have e0:(z == 0) = false:=by simpa using h0
  by_cases h1:z = 1
  ·have h1':=h1
   subst h1
   obtain ⟨nl,hnl⟩:∃ n,n = P.ls.length:=⟨_,rfl⟩
   have HNL:Hid (nl = P.ls.length):=hnl
   have hnl':nl ≤ 396:=by omega
   have c2:w4.cell? ⟨w2.heap.size,2,none⟩ = some (.slice P.la nl P.lc):=(lies_cell lG5 2).trans (by rw [hnl];rfl)
   have P9:Hid (∀ W:World,W.heap = w4.heap → W.os = w4.os → W.tape = w4.tape → W.output = w4.output → Calls Tryz.prog 11 #[.pointer (some ⟨w.heap.size + 1,0,none⟩),.int .i64 9] W fun e w'=>∃ z:Int,e = .returned (.int .i64 z) ∧ w4.grownBy w' (some (w.heap.size + 1))):=fun W e1 e2 e3 e4=>by
    have hb:Below w4.heap.size w4 W:=⟨e2,e3,e4,by rw [e1];exact Nat.le_refl _,fun k _=>by rw [e1]⟩
    refine (pick_any (w.heap.size + 1) len cap (0 + 2) a 9 W (by omega) (HC5.out.grown hb) (by omega) (by omega)).mono ?_
    rintro e w' ⟨z,he,-,-,-,G⟩
    exact ⟨z,he,G.os.trans e2,G.tape.trans e3,G.output.trans e4,by have:=G.size;rw [e1] at this;exact this,fun k hk hne=>by rw [G.block k (by rw [e1];exact hk) hne,e1]⟩
   have PREP:Hid (∀ (w5:World) (z:Int),w4.grownBy w5 (some (w.heap.size + 1)) →
     w5.cell? ⟨w2.heap.size,2,none⟩ = some (.slice P.la nl P.lc) ∧ (∀ o,(w5.alloc o).cell? ⟨w2.heap.size,2,none⟩ = some (.slice P.la nl P.lc)) ∧ w4.heap.size ≤ w5.heap.size ∧
     Hid (∀ W:World,W.heap = (w5.alloc ((.cells #[.int .i64 z,.int .i64 0,.int .i64 0,.int .i64 0,.int .i64 0,.string ⟨#[]⟩] 37))).heap → W.ownsRow W1.heap.size 37 6 (.slice P.la nl P.lc) nl (flatLn P.ls)) ∧
     Hid (∀ W:World,W.heap = (w5.alloc ((.cells #[.int .i64 z,.int .i64 0,.int .i64 0,.int .i64 0,.int .i64 0,.string ⟨#[]⟩] 37))).heap → ∀ j u,(lnL (⟨z,0,0,0,0,⟨#[]⟩⟩:Ln))[j]? = some u → W.cell? ((⟨w5.heap.size,0,none⟩:Addr).add j) = some u) ∧
     Hid (∀ W w3:World,W.grownBy w3 (Value.slice P.la nl P.lc).ownBlock → W.heap = (w5.alloc ((.cells #[.int .i64 z,.int .i64 0,.int .i64 0,.int .i64 0,.int .i64 0,.string ⟨#[]⟩] 37))).heap → w3.cell? ⟨w2.heap.size,2,none⟩ = some (.slice P.la nl P.lc) ∧ w3.frozen? ⟨w2.heap.size,2,none⟩ = false) ∧
     Hid (∀ (W w3:World) (g9 cap9:Nat),W.grownBy w3 (Value.slice P.la nl P.lc).ownBlock → w3.ownsRow W1.heap.size 37 6 (.slice (some ⟨g9,0,none⟩) (nl + 1) cap9) (nl + 1) (flatLn P.ls ++ lnL (⟨z,0,0,0,0,⟨#[]⟩⟩:Ln)) → W.heap = (w5.alloc ((.cells #[.int .i64 z,.int .i64 0,.int .i64 0,.int .i64 0,.int .i64 0,.string ⟨#[]⟩] 37))).heap → W.os = w5.os → W.tape = w5.tape → W.output = w5.output → MvX9 w W0 W1 w2 n nb ncap ns (w3.setCell ⟨w2.heap.size,2,none⟩ (.slice (some ⟨g9,0,none⟩) (nl + 1) cap9)))):=fun w5 z G=>by
    have hOwn:w4.ownsRow W1.heap.size 37 6 (.slice P.la nl P.lc) nl (flatLn P.ls):=by rw [hnl];exact hOL5
    have hlt9:∀ k,(Value.slice P.la nl P.lc).ownBlock = some k → W1.heap.size ≤ k ∧ k < w2.heap.size:=fun k hk=>⟨(hOwn.lt k hk).1,HOLT.out k (by rw [← hnl];exact hk)⟩
    have hOwn5:w5.ownsRow W1.heap.size 37 6 (.slice P.la nl P.lc) nl (flatLn P.ls):=World.ownsRow.kept hOwn G (by
     cases hv:(Value.slice P.la nl P.lc).ownBlock with
     | none=>exact .inl rfl
     | some k =>
      right
      intro e
      have:=(hlt9 k hv).1
      injection e with e
      omega)
    have l5:w5.heap[w2.heap.size]? = some (.cells (pgA P) 29 (0,0)):=gro_lies G lG5 (by omega)
    have hs:=G.size
    have hblk:∀ (W w3:World) (b:Nat),W.grownBy w3 (Value.slice P.la nl P.lc).ownBlock → W.heap = (w5.alloc ((.cells #[.int .i64 z,.int .i64 0,.int .i64 0,.int .i64 0,.int .i64 0,.string ⟨#[]⟩] 37))).heap → b < w4.heap.size → b ≠ w.heap.size + 1 → (Value.slice P.la nl P.lc).ownBlock ≠ some b → w3.heap[b]? = w4.heap[b]?:=fun W w3 b hg hW h1 h2 h3=>by
     rw [hg.block b (by rw [hW];simp;omega) (fun e=>h3 e.symm),hW,_root_.Go.heap_alloc_old w5 _ (by omega)]
     exact G.block b h1 (fun e=>by injection e with e;exact h2 e)
    have hown2:(Value.slice P.la nl P.lc).ownBlock ≠ some w2.heap.size:=fun e=>by have:=(hlt9 _ e).2;omega
    refine ⟨(lies_cell l5 2).trans (by rw [hnl];rfl),(fun o=>(lies_cell (heap_in l5) 2).trans (by rw [hnl];rfl)),hs,fun W hW=>?_,fun W hW=>?_,fun W w3 hg hW=>?_,fun W w3 g9 cap9 hg ho hW e1 e2 e3=>?_⟩
    ·have h:=hOwn5.alloc ((.cells #[.int .i64 z,.int .i64 0,.int .i64 0,.int .i64 0,.int .i64 0,.string ⟨#[]⟩] 37))
     refine ⟨h.1,?_⟩
     rcases h.2 with hn | ⟨gg,cc,cur,h1,h2,h3,rest⟩
     ·exact .inl hn
     ·exact .inr ⟨gg,cc,cur,h1,h2,by rw [hW];exact h3,rest⟩
    ·exact World.news_of_block (cs:=#[.int .i64 z,.int .i64 0,.int .i64 0,.int .i64 0,.int .i64 0,.string ⟨#[]⟩]) (t:=37) (fr:=(0,0)) (by rw [hW];exact heap_at _ _ _ rfl)
    ·have h3:w3.heap[w2.heap.size]? = some (.cells (pgA P) 29 (0,0)):=(hblk W w3 _ hg hW (by omega) (by omega) hown2).trans lG5
     exact ⟨(lies_cell h3 2).trans (by rw [hnl];rfl),Lib.frozen_of_heap h3 2⟩
    ·have h3:w3.heap[w2.heap.size]? = some (.cells (pgA P) 29 (0,0)):=(hblk W w3 _ hg hW (by omega) (by omega) hown2).trans lG5
     have b9:Below w.heap.size w w3:=b5.trans ⟨hg.os.trans (e1.trans G.os),hg.tape.trans (e2.trans G.tape),hg.output.trans (e3.trans G.output),by have h9:=hg.size;rw [hW] at h9;simp at h9;omega,fun k hk=>hblk W w3 k hg hW (by have:=b5.size;omega) (by omega) (fun e=>by have:=(hlt9 _ e).1;omega)⟩
     have hoL:OwnL w3 W1.heap.size (.slice (some ⟨g9,0,none⟩) (P.ls.length + 1) cap9) (P.ls ++ [(⟨z,0,0,0,0,⟨#[]⟩⟩:Ln)]):=OwnL.snoc hnl (by rw [← hnl];exact ho)
     have hg9:g9 ≠ w2.heap.size:=fun e=>by
      have h4:w3.ownsRow W1.heap.size 37 6 (.slice (some ⟨g9,0,none⟩) (nl + 1) cap9) (nl + 1) (flatLn P.ls ++ lnL (⟨z,0,0,0,0,⟨#[]⟩⟩:Ln)):=ho
      exact own_ne h4 h3 (by decide) (by rw [e];rfl)
     have hset:∀ k,k ≠ w2.heap.size → (w3.setCell ⟨w2.heap.size,2,none⟩ (.slice (some ⟨g9,0,none⟩) (nl + 1) cap9)).heap[k]? = w3.heap[k]?:=fun k hk=>Below.heap_setCell w3 ⟨w2.heap.size,2,none⟩ _ k hk
     refine ⟨{ P with la:=some ⟨g9,0,none⟩,lc:=cap9,ls:=P.ls ++ [(⟨z,0,0,0,0,⟨#[]⟩⟩:Ln)] },?_,?_,?_,?_,?_⟩
     ·rw [lies_set h3]
      unfold pgA
      simp only [List.length_append,List.length_cons,List.length_nil,← hnl]
      rfl
     ·refine PgMv.more HM2.out (by omega) (by show (0:Nat) ≤ 200;omega) ?_ (fun b h1 h2 h4=>?_) HAP.out
      ·exact World.ownsRow.kept hoL (row:=some w2.heap.size) ⟨rfl,rfl,rfl,by simp,fun k _ hk=>hset k (fun e=>hk (by rw [e]))⟩ (.inr (fun e=>by
        have e2:g9 = w2.heap.size:=by simpa [Value.ownBlock] using e
        exact hg9 e2))
      ·rw [hset b (by omega),hblk W w3 b hg hW (by omega) (by omega) (by rw [hnl];exact h4)]
       exact HST.out b h1 h2
     ·refine owns_at HO5.out (fun k hk=>?_)
      have hk':nb = k:=by simpa [Value.ownBlock] using hk
      subst hk'
      rw [hset nb (by omega)]
      exact hblk W w3 nb hg hW (by omega) (by have:=hnb0;omega) (fun e=>by have:=(hlt9 _ e).1;have:=hnb1;omega)
     ·rw [hset _ (by omega)]
      exact (hblk W w3 _ hg hW (by omega) (by omega) (fun e=>by have:=(hlt9 _ e).1;omega)).trans lP5
     ·exact b9.setCell (p:=⟨w2.heap.size,2,none⟩) (by show w.heap.size ≤ w2.heap.size;omega) _
   obtain ⟨iL,hi0,hz0,hz1,hz2⟩:=info_parts infoLine
   have H1:Hid (∀ z:Int,∀ u ∈ lnL (⟨z,0,0,0,0,⟨#[]⟩⟩:Ln),u.oneCell' = true):=fun z=>lnL_one _
   have hW14:W1.heap.size ≤ w4.heap.size:=by omega
   clear hM5 hM5' hOL5 lG5 lP5 b5 RES hnl e0 h1' h0
   go_wp2_with fail
   go_region_law (first
    | (refine step_append_lies _ (by rfl) _ _ _ (by rfl) W1.heap.size 37 iL _ 6 56 Tryz.underlying26 hi0 hz0 hz1 hz2 rfl (by omega) (.slice P.la nl P.lc) nl (flatLn P.ls) (by rfl) (HOW.out _ rfl) ⟨w5.heap.size,0,none⟩ 1 1 (lnL (⟨zb,0,0,0,0,⟨#[]⟩⟩:Ln)) (by rfl) (by rfl) (HNW.out _ rfl) (H1.out _) (by omega) (by unfold maxLen;omega) (by omega) (by simp;omega) _ rfl ?_;intro g9 cap9 w3 hown3 hgrow3 hat3 hlt3;have p8:=(HLI.out _ w3 hgrow3 rfl).1;have r8:=(HLI.out _ w3 hgrow3 rfl).2;have GG:=HGG.out _ w3 g9 cap9 hgrow3 hown3 rfl rfl rfl rfl)
    | (go_simp;refine (P9.out w4.drew rfl rfl rfl rfl).mono ?_;rintro e w5 ⟨z9,rfl,G6⟩;obtain ⟨zb,hzb⟩:∃ zb,zb = IntKind.i64.wrap (z9 - 1):=⟨_,rfl⟩;obtain ⟨k2,k3,hs45,HOW,HNW,HLI,HGG⟩:=PREP.out w5 zb G6;clear G6;have hzb':IntKind.i64.wrap (z9 - 1) = zb:=hzb.symm;clear hzb;go_wp2_with fail)
    | fail)
   all_goals
    have GG':MvX9 w W0 W1 w2 n nb ncap ns (w3.setCell ⟨w2.heap.size,2,none⟩ (.slice (some ⟨g9,0,none⟩) (nl + 1) cap9)):=GG
    have HGX:Hid (MvX9 w W0 W1 w2 n nb ncap ns (w3.setCell ⟨w2.heap.size,2,none⟩ (.slice (some ⟨g9,0,none⟩) (nl + 1) cap9))):=GG'
    clear GG GG' p8 r8 hown3 hgrow3 hat3 hlt3 HOW HNW HLI HGG
    go_wp2_with fail
    go_meet
    case rel=>exact HGX.out
  ·have e1:(z == 1) = false:=by simpa using h1
   clear hM5 hM5' hOL5 lG5 lP5 b5
   go_wp2_with fail
   go_meet
   case rel=>exact RES.out
 case rest =>
  obtain ⟨P9,l9,hM9,hO9,lR9,b9⟩:=hcut
  obtain ⟨V,hV⟩:∃ W,W = wc:=⟨_,rfl⟩
  subst hV
  have i0:V.cell? ⟨w2.heap.size,0,none⟩ = some (.slice P9.ba P9.bs.length P9.bc):=(lies_cell l9 0).trans rfl
  have i1:V.cell? ⟨w2.heap.size,1,none⟩ = some (.slice P9.pa P9.ps.length P9.pc):=(lies_cell l9 1).trans rfl
  have i2:V.cell? ⟨w2.heap.size,2,none⟩ = some (.slice P9.la P9.ls.length P9.lc):=(lies_cell l9 2).trans rfl
  have i3:V.cell? ⟨w2.heap.size,3,none⟩ = some (.slice P9.fa P9.fs.length P9.fc):=(lies_cell l9 3).trans rfl
  have i4:V.cell? ⟨w2.heap.size,4,none⟩ = some (.int .i64 P9.hi):=(lies_cell l9 4).trans rfl
  have r0:V.cell? ⟨w.heap.size,0,none⟩ = some (.slice none 0 0):=(lies_cell lR9 0).trans rfl
  have r1:V.cell? ⟨w.heap.size,1,none⟩ = some (.slice none 0 0):=(lies_cell lR9 1).trans rfl
  have r2:V.cell? ⟨w.heap.size,2,none⟩ = some (.slice none 0 0):=(lies_cell lR9 2).trans rfl
  have r3:V.cell? ⟨w.heap.size,3,none⟩ = some (.slice none 0 0):=(lies_cell lR9 3).trans rfl
  have r4:V.cell? ⟨w.heap.size,4,none⟩ = some (.int .i64 0):=(lies_cell lR9 4).trans rfl
  have f0:=Lib.frozen_of_heap lR9 0
  have f1:=Lib.frozen_of_heap lR9 1
  have f2:=Lib.frozen_of_heap lR9 2
  have f3:=Lib.frozen_of_heap lR9 3
  have f4:=Lib.frozen_of_heap lR9 4
  have n1:¬ w.heap.size = w2.heap.size:=by omega
  have n2:¬ w2.heap.size = w.heap.size:=by omega
  have HM9:Hid (PgMv V W1.heap.size P9):=hM9
  have HO9:Hid (OwnN V W0.heap.size (.slice (some ⟨nb,0,none⟩) n ncap) ns):=hO9
  have HB9:Hid (Below w.heap.size w V):=b9
  clear l9 lR9 hM9 hO9 b9 lG5 lP5 hM5 hM5' hOL5 b5 HO5 HST HM2 HBG
  go_wp2_with fail
  go_region_held3 (fun w'=>w'.cell? ⟨w2.heap.size,0,none⟩ = some (.slice P9.ba P9.bs.length P9.bc) ∧ w'.cell? ⟨w2.heap.size,1,none⟩ = some (.slice P9.pa P9.ps.length P9.pc) ∧ w'.cell? ⟨w2.heap.size,2,none⟩ = some (.slice P9.la P9.ls.length P9.lc) ∧ w'.cell? ⟨w2.heap.size,3,none⟩ = some (.slice P9.fa P9.fs.length P9.fc) ∧ w'.cell? ⟨w2.heap.size,4,none⟩ = some (.int .i64 P9.hi)) (go_keep) (fail)
  all_goals
   go_wp2
   refine bodyPost_ret (v:=.tuple #[.slice (some ⟨nb,0,none⟩) n ncap,.agg (pgA P9)]) (by simp [results,Tryz.results4,go_sem,pgA, *];try rfl) rfl ⟨_,ns,P9,rfl,own_low9 (B:=W0.heap.size) ?_ (by omega),HT.out,PgMv.low (B:=W1.heap.size) (PgMv.stand HM9.out (fun b h1 h2=>?_)) (by omega),?_⟩
   ·repeat (refine own_set9 ?_ (by show w.heap.size < W0.heap.size;omega) _)
    exact HO9.out
   ·repeat (refine (Below.heap_setCell _ _ _ b (by show b ≠ w.heap.size;omega)).trans ?_)
    rfl
   ·refine Below.drew ?_
    repeat (refine Below.setCell ?_ (by first | (simp;done) | (simp;omega)) _)
    exact HB9.out
theorem w64_small9 (n:Int) (h0:-4611686018427387904 ≤ n) (h1:n < 4611686018427387904):wrap64 n = n:=by unfold wrap64;omega
theorem isNear_yes (n:Int) (w:World) (h:nearB n = true):Calls Tryz.prog 23 #[.int .i64 n] w fun e w'=>e = .returned (.bool true) ∧ w' = w:=(isNear_any n w).mono fun e w' ⟨h1,h2⟩=>⟨by rw [h1,h],h2⟩
theorem near_parts9 {z:Plc} (h:nearQ z = true):nearB z.x = true ∧ nearB z.y = true ∧ nearB (z.x + z.w) = true ∧ nearB (z.y + z.h) = true ∧ extB z.w = true ∧ extB z.h = true:=by
 unfold nearQ nearP at h
 simp only [Bool.and_eq_true] at h
 exact ⟨h.1.1.1.1.1,h.1.1.1.1.2,h.1.1.1.2,h.1.1.2,h.1.2,h.2⟩
set_option maxRecDepth 100000 in
set_option maxHeartbeats 2000000 in
theorem isFar_no (z:Plc) (w:World) (hz:nearQ z = true):Calls Tryz.prog 25 #[.agg #[.int .i64 z.x,.int .i64 z.y,.int .i64 z.w,.int .i64 z.h]] w fun e w'=>e = .returned (.bool false) ∧ Below w.heap.size w w':=by
 obtain ⟨h1,h2,h3,h4,h5,h6⟩:=near_parts9 hz
 obtain ⟨x0,x1,y0,y1,w0,w1,g0,g1⟩:=nearQ_parts hz
 have e1:wrap64 (z.x + z.w) = z.x + z.w:=w64_small9 _ (by omega) (by omega)
 have e2:wrap64 (z.y + z.h) = z.y + z.h:=w64_small9 _ (by omega) (by omega)
 have b0:Below w.heap.size w (w.alloc (.cells #[.int .i64 z.x,.int .i64 z.y,.int .i64 z.w,.int .i64 z.h] 35)):=(Below.refl _ _).alloc (Nat.le_refl _) _
 have n1:=fun W=>isNear_yes z.x W h1
 have n2:=fun W=>isNear_yes z.y W h2
 have n3:=fun W=>isNear_yes (z.x + z.w) W h3
 have n4:=fun W=>isNear_yes (z.y + z.h) W h4
 have m1:¬ (1000000 < z.w):=by omega
 have m2:¬ (1000000 < z.h):=by omega
 clear hz h1 h2 h3 h4 h5 h6
 go_enter Tryz.func25,Tryz.ntmps25
 go_wp2_with fail
 refine (n1 _).mono ?_
 rintro e w' ⟨rfl,hw'⟩
 have hw':=hw'.symm
 subst hw'
 go_wp2_with fail
 refine (n2 _).mono ?_
 rintro e w' ⟨rfl,hw'⟩
 have hw':=hw'.symm
 subst hw'
 go_wp2_with fail
 refine (n3 _).mono ?_
 rintro e w' ⟨rfl,hw'⟩
 have hw':=hw'.symm
 subst hw'
 go_wp2_with fail
 refine (n4 _).mono ?_
 rintro e w' ⟨rfl,hw'⟩
 have hw':=hw'.symm
 subst hw'
 go_wp2
 go_ret
 exact ⟨ret_bool (by rw [decide_eq_false (by omega),decide_eq_false (by omega)];rfl),b0⟩
def holdsB (z:Plc) (x y:Int):Bool:=decide (z.x ≤ x) && decide (x < z.x + z.w) && decide (z.y ≤ y) && decide (y < z.y + z.h)
set_option maxRecDepth 100000 in
set_option maxHeartbeats 2000000 in
theorem holds_any (z : Plc) (x y : Int) (w : World) (hz : nearQ z = true) : Calls Tryz.prog 26 #[.agg #[.int .i64 z.x, .int .i64 z.y, .int .i64 z.w, .int .i64 z.h], .int .i64 x, .int .i64 y] w fun e w' => e = .returned (.bool (holdsB z x y)) ∧ Below w.heap.size w w' := by
  obtain ⟨x0, x1, y0, y1, w0, w1, g0, g1⟩ := nearQ_parts hz
  have e1 : wrap64 (z.x + z.w) = z.x + z.w := w64_small9 _ (by omega) (by omega)
  have e2 : wrap64 (z.y + z.h) = z.y + z.h := w64_small9 _ (by omega) (by omega)
  have b0 : Below w.heap.size w (w.alloc (.cells #[.int .i64 z.x, .int .i64 z.y, .int .i64 z.w, .int .i64 z.h] 35)) := (Below.refl _ _).alloc (Nat.le_refl _) _
  clear hz
  by_cases h1 : z.x ≤ x <;> by_cases h2 : x < z.x + z.w <;> by_cases h3 : z.y ≤ y <;> by_cases h4 : y < z.y + z.h <;>
    first
    | (exfalso; omega)
    | (have HH : Hid (holdsB z x y = (decide (z.x ≤ x) && decide (x < z.x + z.w) && decide (z.y ≤ y) && decide (y < z.y + z.h))) := rfl
       go_enter Tryz.func26, Tryz.ntmps26
       go_wp2
       go_ret
       exact ⟨ret_bool (by rw [HH.out]; simp [h1, h2, h3, h4]), b0⟩)
end Go.Proofs.YtjnmloaopnbpgaaGreatDoor
