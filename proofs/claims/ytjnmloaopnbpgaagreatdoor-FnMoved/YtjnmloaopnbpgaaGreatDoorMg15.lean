/-
 The program's take of a node: the first one.
 The program's BoxesOf, for every row of nodes.
 The model's gathering of boxes in memory, and its end of a text.
 The way through the tree, node by node, against the pass.
 The model's run along the nodes in an element, against the pass.
-/
import Derived.Test.YtjnmloaopnbpgaaGreatDoorMg14
namespace Go.Proofs.YtjnmloaopnbpgaaGreatDoor
open Go.ChangeShapes Go.WideShapes Go.ChangeAt Go.RowKit
set_option linter.unusedVariables false
set_option maxRecDepth 100000 in
set_option maxHeartbeats 8000000 in
theorem take_root (B p b off n cap:Nat) (ns:List Nd) (S:Ps) (vb vi vt:Value) (w:World) (hbg:Bg w B p (.slice (some ⟨b,off,none⟩) n cap) S vb vi vt) (hok:PsOk ns 0 S) (hns:NsOk ns) (hi:0 < n) (hnd:NdAt w B b off n ns) (hwh:WhOk ns) (hS:S.ok = true) (h3:¬ (ns.getD 0 nd0).st.sh = 3) (ht:isT ns 0 = false) (hkd:¬ kindS (ns.getD 0 nd0).st = 0) :
  Calls Tryz.prog 42 #[.pointer (some ⟨p,0,none⟩),.int .i64 0] w fun e w'=>e = .returned (.bool (takeP ns S 0).ok) ∧ (∃ vb' vi' vt',Bg w' B p (.slice (some ⟨b,off,none⟩) n cap) (takeP ns S 0) vb' vi' vt') ∧ Below B w w':=by
 obtain ⟨i0,hinf,hz0,hz1,hz2⟩:=bgInfo3
 have hin:0 < ns.length:=by rw [← hnd.len];exact hi
 obtain ⟨y,hy⟩:∃ y,ns[0]? = some y:=⟨_,List.getElem?_eq_getElem hin⟩
 obtain ⟨gU,gT,gD⟩:=getI hy
 obtain ⟨inf,hif,hx0,hx1,hx2⟩:=info_parts infoBox
 have hTt:zeroS y.st = false:=by rw [← gT];exact ht
 rw [gD] at hkd h3
 have HT:Hid (takeP ns S 0 = { bs:=endB ns S ++ [⟨kindS y.st,(0:Nat),arP ns S 0,ByteArray.empty⟩],inn:=S.inn ++ [((endB ns S).length:Int)],tx:=ByteArray.empty,ti:=S.ti,ok:=S.ok && endO S }):=by
  show _ = _
  unfold takeP
  rw [gD]
  rw [if_neg (by unfold goneP;rw [decide_eq_true_eq,gD];rintro (h | h);exact absurd h.1 (by omega);exact h3 h),if_neg (by rw [ht];decide),if_neg hkd]
 rw [HT.out,hS,Bool.true_and]
 show Calls _ _ _ _ fun e w'=>e = .returned (.bool (endO S)) ∧ _
 clear HT
 obtain ⟨kd,hkd0⟩:∃ kd,kd = kindS y.st:=⟨_,rfl⟩
 rw [← hkd0] at hkd ⊢
 have HKD:Hid (kd = kindS y.st):=hkd0
 clear hkd0
 have hb3:(kd == 0) = false:=by simpa using hkd
 have hr:=hnd.rows 0 y hy
 rw [Nat.zero_mul,Nat.add_zero] at hr
 have hn40:=hnd.le
 have lp:=lies_lt hbg.lies
 have hBs:B ≤ w.heap.size:=Nat.le_trans hbg.hp (Nat.le_of_lt lp)
 have c0:w.cell? ⟨p,0,none⟩ = some (.slice (some ⟨b,off,none⟩) n cap):=(lies_cell hbg.lies 0).trans rfl
 have BK:=fun W=>boxKind_any y.st W
 have TX:=fun W=>implIsText_any y W
 rw [hTt] at TX
 rw [← HKD.out] at BK
 have hyu:y.up = -1:=by rw [← gU];exact (hns.stands 0 hin).top rfl
 obtain ⟨ai,ci,hvi⟩:=own_form hbg.oi
 have hin':S.inn.length = 0:=hok.len
 rw [hin'] at hvi
 subst hvi
 have HA2:Hid (arP ns S 0 = -1):=by show _ = _;unfold arP;rw [gU,hyu];rfl
 rw [HA2.out]
 have HG:Hid (Bg w B p (.slice (some ⟨b,off,none⟩) n cap) S vb (.slice ai 0 ci) vt):=hbg
 clear hbg
 go_enter Tryz.func42,Tryz.ntmps42
 go_wp2_with (first
  | (with_reducible show wpList _ _ _ (⟨some 15,Op.load 75 _,_,_,_,_⟩ :: _) _ _;refine wpList_load_mid rfl 75 _ rfl b off rfl (ndL y) _ hr Tryz.underlying75 rfl (by kernel_rfl) ?_)
  | (with_reducible show wpList _ _ _ (⟨none,Op.store 75 _ _,_,_,_,_⟩ :: _) _ _;refine wpList_store_box rfl 75 _ _ rfl rfl (#[.int .i64 y.up,.string y.tx,.int .i64 y.st.sh,.int .i64 y.st.fl,.int .i64 y.st.cl,.bool y.st.w.a,.bool y.st.w.p,.int .i64 y.st.w.n,.bool y.st.h.a,.bool y.st.h.p,.int .i64 y.st.h.n,.int .i64 y.st.mn,.int .i64 y.st.mx,.int .i64 y.st.mt,.bool y.st.mr.a,.bool y.st.mr.p,.int .i64 y.st.mr.n,.int .i64 y.st.mb,.bool y.st.ml.a,.bool y.st.ml.p,.int .i64 y.st.ml.n,.int .i64 y.st.bo,.int .i64 y.st.pa,.int .i64 y.st.wh,.int .i64 y.st.al,.int .i64 y.st.lh,.int .i64 y.st.ri,.int .i64 y.st.dn]) rfl rfl (by kernel_rfl) rfl (by kernel_rfl) ?_;intro W bel l0 hsz;refine stay ?_)
  | fail)
 unfold Stay
 have cu:W.cell? ⟨w.heap.size,0,none⟩ = some (.int .i64 (-1)):=(lies_cell l0 0).trans (by rw [hyu];rfl)
 have RS:Hid (W.rangeAt w.heap.size 2 (stCells y.st).toList):=fun j v hj=>(lies_cell l0 (2 + j)).trans (by rw [← hj,show (stCells y.st).toList = (#[.int .i64 y.up,.string y.tx,.int .i64 y.st.sh,.int .i64 y.st.fl,.int .i64 y.st.cl,.bool y.st.w.a,.bool y.st.w.p,.int .i64 y.st.w.n,.bool y.st.h.a,.bool y.st.h.p,.int .i64 y.st.h.n,.int .i64 y.st.mn,.int .i64 y.st.mx,.int .i64 y.st.mt,.bool y.st.mr.a,.bool y.st.mr.p,.int .i64 y.st.mr.n,.int .i64 y.st.mb,.bool y.st.ml.a,.bool y.st.ml.p,.int .i64 y.st.ml.n,.int .i64 y.st.bo,.int .i64 y.st.pa,.int .i64 y.st.wh,.int .i64 y.st.al,.int .i64 y.st.lh,.int .i64 y.st.ri,.int .i64 y.st.dn]:Array Value).toList.drop 2 from rfl,List.getElem?_drop];simp)
 have HL0:Hid (W.heap[w.heap.size]? = some (.cells (#[.int .i64 y.up,.string y.tx,.int .i64 y.st.sh,.int .i64 y.st.fl,.int .i64 y.st.cl,.bool y.st.w.a,.bool y.st.w.p,.int .i64 y.st.w.n,.bool y.st.h.a,.bool y.st.h.p,.int .i64 y.st.h.n,.int .i64 y.st.mn,.int .i64 y.st.mx,.int .i64 y.st.mt,.bool y.st.mr.a,.bool y.st.mr.p,.int .i64 y.st.mr.n,.int .i64 y.st.mb,.bool y.st.ml.a,.bool y.st.ml.p,.int .i64 y.st.ml.n,.int .i64 y.st.bo,.int .i64 y.st.pa,.int .i64 y.st.wh,.int .i64 y.st.al,.int .i64 y.st.lh,.int .i64 y.st.ri,.int .i64 y.st.dn]) 75 (0,0))):=l0
 clear l0 hr c0
 go_wp2_with (first
  | (with_reducible show wpList _ _ _ (⟨some 28,Op.load 73 _,_,_,_,_⟩ :: _) _ _;refine wpList_load_mid rfl 73 _ rfl w.heap.size 2 rfl (stCells y.st).toList _ RS.out Tryz.underlying73 rfl (by kernel_rfl) ?_)
  | fail)
 refine (BK _).mono ?_
 rintro e w2 ⟨rfl,hb⟩
 have hbW:Below W.heap.size W w2:=⟨hb.os,hb.tape,hb.output,hb.size,hb.block⟩
 have b2:Below w.heap.size w w2:=bel.trans (hbW.mono bel.size)
 have G2:=HG.out.keep b2
 have l2:Hid (w2.heap[w.heap.size]? = some (.cells (#[.int .i64 y.up,.string y.tx,.int .i64 y.st.sh,.int .i64 y.st.fl,.int .i64 y.st.cl,.bool y.st.w.a,.bool y.st.w.p,.int .i64 y.st.w.n,.bool y.st.h.a,.bool y.st.h.p,.int .i64 y.st.h.n,.int .i64 y.st.mn,.int .i64 y.st.mx,.int .i64 y.st.mt,.bool y.st.mr.a,.bool y.st.mr.p,.int .i64 y.st.mr.n,.int .i64 y.st.mb,.bool y.st.ml.a,.bool y.st.ml.p,.int .i64 y.st.ml.n,.int .i64 y.st.bo,.int .i64 y.st.pa,.int .i64 y.st.wh,.int .i64 y.st.al,.int .i64 y.st.lh,.int .i64 y.st.ri,.int .i64 y.st.dn]) 75 (0,0))):=below_lies hbW HL0.out (by omega)
 have B2:Below B w w2:=b2.mono hBs
 have s0:w2.cell? ⟨w.heap.size,2,none⟩ = some (.int .i64 y.st.sh):=(lies_cell l2.out 2).trans rfl
 have s1:w2.cell? ⟨w.heap.size,1,none⟩ = some (.string y.tx):=(lies_cell l2.out 1).trans rfl
 have c2:w2.cell? ⟨p,2,none⟩ = some (.slice ai 0 ci):=(lies_cell G2.lies 2).trans rfl
 have f2:w2.frozen? ⟨p,2,none⟩ = false:=Lib.frozen_of_heap G2.lies 2
 have lw:w.heap.size < w2.heap.size:=lies_lt l2.out
 clear hb hbW HL0 RS cu bel HG BK b2
 have hb2:(y.st.sh == 3) = false:=by simpa using h3
 have rb:=range_box l2.out
 go_wp2_with (first
  | (with_reducible show wpList _ _ _ (⟨some 53,Op.load 75 _,_,_,_,_⟩ :: _) _ _;refine wpList_load_mid rfl 75 _ rfl w.heap.size 0 rfl (ndL y) _ rb Tryz.underlying75 rfl (by kernel_rfl) ?_)
  | fail)
 refine (TX _).mono ?_
 rintro e w5 ⟨rfl,hb5⟩
 have G5:=G2.keep hb5
 have B5:Below B w w5:=B2.trans (hb5.mono (Nat.le_trans hBs B2.size))
 have s5:w5.cell? ⟨w.heap.size,1,none⟩ = some (.string y.tx):=(hb5.cell (p:=⟨w.heap.size,1,none⟩) lw).trans s1
 have c5:w5.cell? ⟨p,2,none⟩ = some (.slice ai 0 ci):=(lies_cell G5.lies 2).trans rfl
 have f5:w5.frozen? ⟨p,2,none⟩ = false:=Lib.frozen_of_heap G5.lies 2
 have lw5:w.heap.size < w5.heap.size:=Nat.lt_of_lt_of_le lw hb5.size
 clear rb hb5 l2 s0 s1 c2 f2 G2 B2 TX lw
 have o5:w5.ownsRow B 3 1 (.slice ai 0 ci) 0 (S.inn.map (Value.int .i64)):=by have h:=G5.oi;rw [hin'] at h;exact h
 clear s5 c5 f5
 go_wp2_with fail
 refine (endText_any B p 0 b off n cap ns S vb (.slice ai 0 ci) vt _ G5 hok.w (Nat.le_of_lt hi) (hnd.below B5) hwh).mono ?_
 rintro e w7 ⟨rfl,⟨vb',vt',G7⟩,B7⟩
 have hm40:(endB ns S).length ≤ 40:=by have:=(endB_ok hok).2.1;omega
 obtain ⟨ab,cb,hvb⟩:=own_form G7.ob
 have B77:Below B w w7:=B5.trans B7
 have hBw7:B ≤ w7.heap.size:=Nat.le_trans hBs B77.size
 obtain ⟨m,hmm⟩:∃ m,m = (endB ns S).length:=⟨_,rfl⟩
 have hvb2:vb' = .slice ab m cb:=by rw [hmm];exact hvb
 clear hvb
 subst hvb2
 have HMM:Hid (m = (endB ns S).length):=hmm
 rw [← hmm] at hm40
 have o7:w7.ownsRow B 3 1 (.slice ai 0 ci) 0 (S.inn.map (Value.int .i64)):=by have h:=G7.oi;rw [show ({ S with bs:=endB ns S,tx:=ByteArray.empty }:Ps).inn.length = 0 from hin'] at h;exact h
 have c1:w7.cell? ⟨p,1,none⟩ = some (.slice ab m cb):=(lies_cell G7.lies 1).trans rfl
 have c2:w7.cell? ⟨p,2,none⟩ = some (.slice ai 0 ci):=(lies_cell G7.lies 2).trans rfl
 have HG7:Hid (Bg w7 B p (.slice (some ⟨b,off,none⟩) n cap) { S with bs:=endB ns S,tx:=ByteArray.empty } (.slice ab m cb) (.slice ai 0 ci) vt'):=G7
 have HB7:Hid (Below B w w7):=B77
 have HOW:Hid (∀ W:World,W.heap = (w7.alloc (.cells #[.int .i64 (m:Int)] 3)).heap → W.ownsRow B 3 1 (.slice ai 0 ci) 0 (S.inn.map (Value.int .i64))):=by
  show ∀ W:World,_
  intro W hW
  have h:=o7.alloc (.cells #[.int .i64 (m:Int)] 3)
  unfold World.ownsRow at h ⊢
  rw [hW]
  exact h
 have HNW:Hid (∀ W:World,W.heap = (w7.alloc (.cells #[.int .i64 (m:Int)] 3)).heap → ∀ j u,[Value.int .i64 (m:Int)][j]? = some u → W.cell? ((⟨w7.heap.size,0,none⟩:Addr).add j) = some u):=by
  show ∀ W:World,_
  intro W hW
  exact World.news_of_block (cs:=#[.int .i64 (m:Int)]) (t:=3) (fr:=(0,0)) (by rw [hW];exact heap_at _ _ _ rfl)
 have l7:Hid (∀ W w8:World,W.grownBy w8 (Value.ownBlock (.slice ai 0 ci)) → W.heap = (w7.alloc (.cells #[.int .i64 (m:Int)] 3)).heap → w8.heap[p]? = some (.cells #[.slice (some ⟨b,off,none⟩) n cap,.slice ab m cb,.slice ai 0 ci,vt',.int .i64 S.ti] 95 (0,0))):=by
  show ∀ W w8:World,_
  intro W w8 hg hW
  have hWp:W.heap[p]? = _:=(congrArg (fun h=>h[p]?) hW).trans (heap_in HG7.out.lies)
  exact (hg.block p (lies_lt hWp) (fun e=>own_ne (HOW.out W hW) hWp (by decide) e.symm)).trans hWp
 have gb7:Hid (∀ W w8:World,∀ v',W.grownBy w8 (Value.ownBlock (.slice ai 0 ci)) → w8.ownsRow B 3 1 v' (0 + 1) (S.inn.map (Value.int .i64) ++ [.int .i64 (m:Int)]) → W.heap = (w7.alloc (.cells #[.int .i64 (m:Int)] 3)).heap → W.os = w7.os → W.tape = w7.tape → W.output = w7.output → Bg (w8.setCell ⟨p,2,none⟩ v') B p (.slice (some ⟨b,off,none⟩) n cap) { S with bs:=endB ns S,inn:=S.inn ++ [(m:Int)],tx:=ByteArray.empty } (.slice ab m cb) v' vt' ∧ Below B w (w8.setCell ⟨p,2,none⟩ v')):=by
  show ∀ W w8:World,_
  intro W w8 v' hg hown hW ho ht hp
  have bW:Below w7.heap.size w7 W:=⟨ho,ht,hp,by rw [hW];simp,fun k hk=>by rw [hW];exact heap_alloc_old w7 _ hk⟩
  have GW:=HG7.out.keep bW
  refine ⟨GW.putI (l:=S.inn ++ [(m:Int)]) hg (snocI hin'.symm hown),?_⟩
  exact ((HB7.out.trans (bW.mono hBw7)).grown hg (Nat.le_trans hBw7 bW.size) (fun k hk=>((HOW.out W hW).lt k hk).1)).setCell (p:=⟨p,2,none⟩) GW.hp _
 have lp7:p < w7.heap.size:=lies_lt HG7.out.lies
 clear G7 B7 G5 B5 B77 o5 o7 hmm
 go_wp2_with fail
 go_region_law (refine step_append_lies _ (by rfl) _ _ _ (by rfl) B 3 i0 _ 1 8 Tryz.underlying69 hinf hz0 hz1 hz2 rfl (by omega) (.slice ai 0 ci) 0 (S.inn.map (Value.int .i64)) (by rfl) (HOW.out _ rfl) ⟨w7.heap.size,0,none⟩ 1 1 [.int .i64 (m:Int)] (by rfl) (by rfl) (HNW.out _ rfl) (one_i64 _) (by omega) (by unfold maxLen;omega) (by omega) (by simp;omega) _ rfl ?_;intro g9 cap9 w8 hown8 hgrow8 hat8 hlt8;have l8:=l7.out _ w8 hgrow8 rfl;have e2:w8.cell? ⟨p,2,none⟩ = some (.slice ai 0 ci):=(lies_cell l8 2).trans rfl;have f2:w8.frozen? ⟨p,2,none⟩ = false:=Lib.frozen_of_heap l8 2;have GG:=gb7.out _ w8 _ hgrow8 hown8 rfl rfl rfl rfl)
 all_goals
  obtain ⟨G8,B8⟩:=GG
  clear l8 e2 f2 hown8 hgrow8 hat8 hlt8 HOW HNW l7 gb7 c1 c2 HG7 HB7
  generalize World.setCell w8 _ _ = w9 at G8 B8 ⊢
  have c1:w9.cell? ⟨p,1,none⟩ = some (.slice ab m cb):=(lies_cell G8.lies 1).trans rfl
  have o9:w9.ownsRow B 41 4 (.slice ab m cb) m (flatB (endB ns S)):=by have h:=G8.ob;rw [show ({ S with bs:=endB ns S,inn:=S.inn ++ [(m:Int)],tx:=ByteArray.empty }:Ps).bs.length = m from HMM.out.symm] at h;exact h
  have hB9:B ≤ w9.heap.size:=Nat.le_trans hBs B8.size
  have HG9:Hid (Bg w9 B p (.slice (some ⟨b,off,none⟩) n cap) { S with bs:=endB ns S,inn:=S.inn ++ [(m:Int)],tx:=ByteArray.empty } (.slice ab m cb) _ vt'):=G8
  have HB9:Hid (Below B w w9):=B8
  clear G8 B8
  go_wp2_with (at_builtin;refine wpList_append_own_at _ rfl (.tmp 102) (.tmp 107) 24 rfl B 41 inf _ 4 40 Tryz.underlying24 hif hx0 hx1 hx2 rfl (by decide) _ _ _ rfl (o9.alloc _) ⟨w9.heap.size,0,none⟩ 1 1 [.int .i64 kd,.int .i64 (0:Int),.int .i64 (-1),.string ByteArray.empty] rfl rfl (World.news_of_block (cs:=#[.int .i64 kd,.int .i64 (0:Int),.int .i64 (-1),.string ByteArray.empty]) (heap_at _ _ _ rfl)) (one4 _ _ _ _) (by unfold maxLen;omega) (by omega) (by simp;omega) ?_)
  intro v' w10 hown10 hgrow10 _ _
  obtain ⟨a10,k10,rfl⟩:=own_form hown10
  have GA:=HG9.out.keep ((Below.refl _ _).alloc (Nat.le_refl _) (.cells #[.int .i64 kd,.int .i64 (0:Int),.int .i64 (-1),.string ByteArray.empty] 41))
  have l10:w10.heap[p]? = _:=(hgrow10.block p (lies_lt GA.lies) (fun e=>own_ne GA.ob GA.lies (by decide) e.symm)).trans GA.lies
  have d1:w10.cell? ⟨p,1,none⟩ = some (.slice ab m cb):=(lies_cell l10 1).trans rfl
  have g1:w10.frozen? ⟨p,1,none⟩ = false:=Lib.frozen_of_heap l10 1
  have R:=GA.putB (bs':=endB ns S ++ [⟨kd,0,(-1),ByteArray.empty⟩]) hgrow10 (by rw [flatB_snoc,List.length_append,← HMM.out];exact hown10)
  have RB:=((HB9.out.alloc hB9 _).grown hgrow10 (by simp;omega) (fun k hk=>(GA.ob.lt k hk).1)).setCell (p:=⟨p,1,none⟩) GA.hp (.slice a10 (m + 1) k10)
  have HR:Hid (_ ∧ _):=And.intro R RB
  clear R RB GA l10 hown10 hgrow10 o9 HG9 HB9 c1
  go_wp2
  go_ret
  refine ⟨rfl,?_,HR.out.2⟩
  rw [← HMM.out]
  exact ⟨_,_,_,HR.out.1.okp (endO S)⟩
/-- Whatever the node is. -/
theorem take_any (B p i b off n cap:Nat) (ns:List Nd) (S:Ps) (vb vi vt:Value) (w:World) (hbg:Bg w B p (.slice (some ⟨b,off,none⟩) n cap) S vb vi vt) (hok:PsOk ns i S) (hns:NsOk ns) (hi:i < n) (hnd:NdAt w B b off n ns) (hwh:WhOk ns) (hS:S.ok = true) (hroot:kindS (ns.getD 0 nd0).st = 1) :
  Calls Tryz.prog 42 #[.pointer (some ⟨p,0,none⟩),.int .i64 (i:Int)] w fun e w'=>e = .returned (.bool (takeP ns S i).ok) ∧ (∃ vb' vi' vt',Bg w' B p (.slice (some ⟨b,off,none⟩) n cap) (takeP ns S i) vb' vi' vt') ∧ Below B w w':=by
 by_cases h0:0 < i
 ·by_cases ha:arP ns S i = -1
  ·exact take_gone1 B p i b off n cap ns S vb vi vt w hbg hok hns hi hnd hwh hS h0 ha
  ·by_cases h3:(ns.getD i nd0).st.sh = 3
   ·exact take_gone2 B p i b off n cap ns S vb vi vt w hbg hok hns hi hnd hwh hS h0 ha h3
   ·cases ht:isT ns i
    ·by_cases hkd:kindS (ns.getD i nd0).st = 0
     ·exact take_inline B p i b off n cap ns S vb vi vt w hbg hok hns hi hnd hwh hS h0 ha h3 ht hkd
     ·exact take_block B p i b off n cap ns S vb vi vt w hbg hok hns hi hnd hwh hS h0 ha h3 ht hkd
    ·by_cases hq:arP ns S i = S.ti
     ·exact take_text1 B p i b off n cap ns S vb vi vt w hbg hok hns hi hnd hwh hS h0 ha h3 ht hq
     ·exact take_text2 B p i b off n cap ns S vb vi vt w hbg hok hns hi hnd hwh hS h0 ha h3 ht hq
 ·obtain rfl:i = 0:=by omega
  exact take_root B p b off n cap ns S vb vi vt w hbg hok hns hi hnd hwh hS (fun h=>by rw [kindS,if_pos h] at hroot;omega) hns.root (by omega)
theorem treeB_parts {tB:ByteArray → Bool} {sB:St → Bool} {ns:List Nd} (h:treeB tB sB ns = true):(1 ≤ ns.length ∧ ns.length ≤ 40) ∧ ∀ j,j < ns.length → okUp ns j = true ∧ okN tB sB (ns.getD j nd0) = true:=by
 unfold treeB at h
 simp only [Bool.and_eq_true,decide_eq_true_eq,List.all_eq_true,List.mem_range] at h
 refine ⟨h.1,fun j hj=>?_⟩
 have:=h.2 j hj
 unfold okAt at this
 simpa using this
theorem ns_ok {ns:List Nd} (h:treeB (okB true) styleB ns = true):NsOk ns ∧ WhOk ns:=by
 obtain ⟨⟨h1,h40⟩,hp⟩:=treeB_parts h
 refine ⟨⟨stands_of _ (fun j hj=>(hp j hj).1),fun j hj hT=>?_,?_⟩,fun j hj hT=>?_⟩
 ·have:=(hp j hj).2
  unfold okN at this
  unfold isT at hT
  rw [if_pos hT] at this
  simp only [Bool.and_eq_true,decide_eq_true_eq] at this
  exact ⟨this.2,this.1⟩
 ·have:=(hp 0 (by omega)).1
  unfold okUp at this
  simpa using (by simpa using this:_ ∧ _).2
 ·have:=(hp j hj).2
  unfold okN at this
  unfold isT at hT
  rw [if_neg (by rw [hT];decide)] at this
  simp only [Bool.and_eq_true,decide_eq_true_eq] at this
  have h2:=this.2
  unfold styleB gA at h2
  simp only [Bool.and_eq_true] at h2
  exact h2.1.1.1.1.1.2
/-- What BoxesOf answers. -/
def boxB (ns:List Nd):Bool:=treeB (okB true) styleB ns && decide (kindS (ns.getD 0 nd0).st = 1) && boxesOkP ns
def boxR (ns:List Nd):List Bx:=if boxB ns then boxesL ns else []
/-- The slice v owns the boxes bs, in a block from B on. -/
def OwnX (w:World) (B:Nat) (v:Value) (bs:List Bx):Prop:=w.ownsRow B 41 4 v bs.length (flatB bs)
theorem ownX_nil (w:World) (B:Nat):OwnX w B (.slice none 0 0) []:=World.ownsRow_nil w B _ 4
theorem boxR_no {ns:List Nd} (h:boxB ns = false):boxR ns = []:=by unfold boxR;rw [h];rfl
theorem boxR_yes {ns:List Nd} (h:boxB ns = true):boxR ns = boxesL ns:=by unfold boxR;rw [h];rfl
set_option maxRecDepth 100000 in
set_option maxHeartbeats 8000000 in
theorem implBoxes_any (a:Option Addr) (cap:Nat) (ns:List Nd) (w:World) (hr:NdRow w a ns) (hl:ns.length ≤ 1048576) (hs:∀ x ∈ ns,x.tx.size ≤ 1048576)
  (et:TypeId) (ev:Value) (he:w.cell? ⟨0,0,none⟩ = some (.iface et ev)) :
  Calls Tryz.prog 12 #[.slice a ns.length cap] w fun e w'=>∃ v,e = .returned (.tuple #[v,.bool (boxB ns)]) ∧ OwnX w' w.heap.size v (boxR ns) ∧ Below w.heap.size w w':=by
 have GT:=implTree_any a cap ns w hr hl hs et ev he
 obtain ⟨n,hn⟩:∃ n,n = ns.length:=⟨_,rfl⟩
 have HN:Hid (n = ns.length):=hn
 cases hT:treeB (okB true) styleB ns
 ·have HB:Hid (boxB ns = false):=by show _ = _;unfold boxB;rw [hT];rfl
  rw [hT] at GT
  rw [← hn] at GT ⊢
  clear hr hl hs he hn
  go_enter Tryz.func12,Tryz.ntmps12
  go_wp2_with fail
  refine GT.mono ?_
  rintro e w1 ⟨rfl,b1⟩
  go_wp2
  go_ret2
  exact ⟨_,by rw [HB.out];rfl,by rw [boxR_no HB.out];exact ownX_nil _ _,b1⟩
 rw [hT] at GT
 obtain ⟨⟨h1,h40⟩,_⟩:=treeB_parts hT
 obtain ⟨hns,hwh⟩:=ns_ok hT
 obtain ⟨b,off,rfl,hc⟩:∃ b off,a = some ⟨b,off,none⟩ ∧ ∀ i n,ns[i]? = some n → w.rangeAt b (off + i * 28) (ndL n):=by
  rcases hr with h | h
  ·rw [h] at h1;simp at h1
  ·exact h
 obtain ⟨y,hy⟩:∃ y,ns[0]? = some y:=⟨_,List.getElem?_eq_getElem (by omega)⟩
 have gD:ns.getD 0 nd0 = y:=getD_of hy
 have hr0:=hc 0 y hy
 rw [Nat.zero_mul,Nat.add_zero] at hr0
 have lb:=range_lt hr0
 have RS:Hid (∀ W,Below w.heap.size w W → W.rangeAt b (off + 2) (stCells y.st).toList):=by
  show ∀ W,_
  intro W hb j v hj
  have:=range_below hr0 hb lb (2 + j) v (by rw [← hj,show (stCells y.st).toList = (ndL y).drop 2 from rfl,List.getElem?_drop])
  rwa [← Nat.add_assoc] at this
 have HND:Hid (∀ W B,w.heap.size ≤ B → Below w.heap.size w W → NdAt W B b off n ns):=by
  show ∀ W B,_
  intro W B hB hb
  exact ⟨Nat.lt_of_lt_of_le lb hB,HN.out,by rw [HN.out];exact h40,fun i x hx=>range_below (hc i x hx) hb (range_lt (hc i x hx))⟩
 have BK:=fun W=>boxKind_any y.st W
 rw [← hn] at GT h1 h40 ⊢
 clear hr hl hs he hn hc hr0
 by_cases hk:kindS y.st = 1
 rotate_left
 ·have HB:Hid (boxB ns = false):=by show _ = _;unfold boxB;rw [gD];simp [hk]
  generalize kindS y.st = kd at BK hk
  go_enter Tryz.func12,Tryz.ntmps12
  go_wp2_with fail
  refine GT.mono ?_
  rintro e w1 ⟨rfl,b1⟩
  have RS1:=RS.out w1 b1
  clear GT
  have hkb:(kd == 1) = false:=by simpa using hk
  go_wp2_with (with_reducible show wpList _ _ _ (⟨some 13,Op.load 73 _,_,_,_,_⟩ :: _) _ _;refine wpList_load_midG ?qa1 73 _ rfl b (off + 2) ?qb1 (stCells y.st).toList _ RS1 Tryz.underlying73 rfl (by kernel_rfl) ?_)
  try (case qb1=>rfl)
  go_wp2_with fail
  refine (BK _).mono ?_
  rintro e w2 ⟨rfl,hb2⟩
  have b2:=b1.trans (hb2.mono b1.size)
  clear hb2 BK RS1
  go_wp2
  go_ret2
  exact ⟨_,by rw [HB.out];rfl,by rw [boxR_no HB.out];exact ownX_nil _ _,b2⟩
 have hroot:kindS (ns.getD 0 nd0).st = 1:=by rw [gD];exact hk
 rw [hk] at BK
 have HRoot:Hid (kindS (ns.getD 0 nd0).st = 1):=hroot
 have HP:Hid (∀ k,k ≤ n → PsOk ns k (passP ns k)):=by show ∀ k,_;intro k hk;exact pass_ok hns k (by rw [← HN.out];exact hk)
 have HBX:Hid (boxB ns = boxesOkP ns):=by show _ = _;unfold boxB;rw [hT,hroot];rfl
 clear hroot hk
 go_enter Tryz.func12,Tryz.ntmps12
 go_wp2_with fail
 refine GT.mono ?_
 rintro e w1 ⟨rfl,b1⟩
 have RS1:=RS.out w1 b1
 clear GT
 go_wp2_with (with_reducible show wpList _ _ _ (⟨some 13,Op.load 73 _,_,_,_,_⟩ :: _) _ _;refine wpList_load_midG ?qa2 73 _ rfl b (off + 2) ?qb2 (stCells y.st).toList _ RS1 Tryz.underlying73 rfl (by kernel_rfl) ?_)
 try (case qb2=>rfl)
 go_wp2_with fail
 refine (BK _).mono ?_
 rintro e w2 ⟨rfl,hb2⟩
 have b2:=b1.trans (hb2.mono b1.size)
 clear hb2 BK RS1 b1
 go_wp2_with fail
 have G0:Bg (w2.alloc (.cells #[.slice (some ⟨b,off,none⟩) n cap,.slice none 0 0,.slice none 0 0,.slice none 0 0,.int .i64 (-1)] 95)) w.heap.size w2.heap.size (.slice (some ⟨b,off,none⟩) n cap) (passP ns 0) (.slice none 0 0) (.slice none 0 0) (.slice none 0 0) :=
  ⟨b2.size,heap_at _ _ _ rfl,World.ownsRow_nil _ _ _ _,World.ownsRow_nil _ _ _ _,World.ownsRow_nil _ _ _ _⟩
 have b3:=b2.alloc b2.size (.cells #[.slice (some ⟨b,off,none⟩) n cap,.slice none 0 0,.slice none 0 0,.slice none 0 0,.int .i64 (-1)] 95)
 go_loopw [21] (fun i wr=>∃ k:Nat,k ≤ n ∧ i = .int .i64 k ∧ (passP ns k).ok = true ∧ (∃ vb vi vt,Bg wr w.heap.size w2.heap.size (.slice (some ⟨b,off,none⟩) n cap) (passP ns k) vb vi vt) ∧ Below w.heap.size w wr) (fun i _=>n - (intOf i).toNat)
 case atStart=>exact ⟨0,Nat.zero_le _,rfl,rfl,⟨_,_,_,G0⟩,b3⟩
 case round =>
  obtain ⟨k,hk,rfl,hok,⟨vb,vi,vt,hG⟩,hbw⟩:=hrel
  have HG:Hid (Bg wr w.heap.size w2.heap.size (.slice (some ⟨b,off,none⟩) n cap) (passP ns k) vb vi vt):=hG
  clear G0 b3 hG
  by_cases hlt:k < n
  ·have TA:=take_any w.heap.size w2.heap.size k b off n cap ns (passP ns k) vb vi vt wr HG.out (HP.out k hk) hns hlt (HND.out wr w.heap.size (Nat.le_refl _) hbw) hwh hok HRoot.out
   have hpk:takeP ns (passP ns k) k = passP ns (k + 1):=rfl
   rw [hpk] at TA
   cases hno:(passP ns (k + 1)).ok
   ·rw [hno] at TA
    have HB:Hid (boxB ns = false):=by show _ = _;rw [HBX.out];unfold boxesOkP;rw [ok_le hno (by rw [← HN.out];omega)];rfl
    go_wp2_with fail
    refine TA.mono ?_
    rintro e w4 ⟨rfl,_,B4⟩
    have b4:=hbw.trans B4
    clear B4 hbw TA
    go_wp2
    go_ret2
    exact ⟨_,by rw [HB.out];rfl,by rw [boxR_no HB.out];exact ownX_nil _ _,b4⟩
   ·rw [hno] at TA
    go_wp2_with fail
    refine TA.mono ?_
    rintro e w4 ⟨rfl,⟨vb',vi',vt',G4⟩,B4⟩
    have b4:=hbw.trans B4
    have HG4:Hid (Bg w4 w.heap.size w2.heap.size (.slice (some ⟨b,off,none⟩) n cap) (passP ns (k + 1)) vb' vi' vt'):=G4
    clear B4 hbw TA G4
    go_wp2
    go_roundw
    case rel=>exact ⟨k + 1,by omega,by go_num,hno,⟨_,_,_,HG4.out⟩,b4⟩
    case measure=>simp [intOf];omega
  ·have e:k = n:=by omega
   subst e
   have ET:=endText_any w.heap.size w2.heap.size k b off k cap ns (passP ns k) vb vi vt wr HG.out (HP.out k hk).w (Nat.le_refl _) (HND.out wr w.heap.size (Nat.le_refl _) hbw) hwh
   have HOE:Hid (boxB ns = endO (passP ns k)):=by show _ = _;rw [HBX.out];unfold boxesOkP;rw [← HN.out,hok];rfl
   have HLE:Hid (boxesL ns = endB ns (passP ns k)):=by show _ = _;unfold boxesL;rw [← HN.out]
   cases hE:endO (passP ns k)
   ·rw [hE] at ET HOE
    go_wp2_with fail
    refine ET.mono ?_
    rintro e w4 ⟨rfl,_,B4⟩
    have b4:=hbw.trans B4
    clear B4 hbw ET
    go_wp2
    go_ret2
    exact ⟨_,by rw [HOE.out];rfl,by rw [boxR_no HOE.out];exact ownX_nil _ _,b4⟩
   ·rw [hE] at ET HOE
    go_wp2_with fail
    refine ET.mono ?_
    rintro e w4 ⟨rfl,⟨vb',vt',G4⟩,B4⟩
    have b4:=hbw.trans B4
    have c1:w4.cell? ⟨w2.heap.size,1,none⟩ = some vb':=(lies_cell G4.lies 1).trans rfl
    have O4:OwnX w4 w.heap.size vb' (boxR ns):=by rw [boxR_yes HOE.out,HLE.out];exact G4.ob
    clear B4 hbw ET G4
    go_wp2
    go_ret2
    exact ⟨_,by rw [HOE.out];rfl,O4,b4⟩
/-- The model's gathering, at block q. -/
structure Ls (w:World) (B q:Nat) (ls:Value) (out:List Bx) (ok:Bool) (vo:Value):Prop where
 hp:B ≤ q
 lies:w.heap[q]? = some (.cells #[ls,vo,.bool ok] 107 (0,0))
 oo:w.ownsRow B 41 4 vo out.length (flatB out)
theorem Ls.keep {w w':World} {B q:Nat} {ls:Value} {out:List Bx} {ok:Bool} {vo:Value} (h:Ls w B q ls out ok vo) (hb:Below w.heap.size w w'):Ls w' B q ls out ok vo :=
 ⟨h.hp,below_lies hb h.lies (lies_lt h.lies),own_keep h.oo hb⟩
theorem Ls.putB {w w3:World} {B q:Nat} {ls:Value} {out:List Bx} {ok:Bool} {vo vo':Value} {out':List Bx} (h:Ls w B q ls out ok vo) (hg:w.grownBy w3 vo.ownBlock) (ho:w3.ownsRow B 41 4 vo' out'.length (flatB out')):Ls (w3.setCell ⟨q,1,none⟩ vo') B q ls out' ok vo':=by
 have l3:w3.heap[q]? = _:=(hg.block q (lies_lt h.lies) (fun e=>own_ne h.oo h.lies (by decide) e.symm)).trans h.lies
 exact ⟨h.hp,lies_set l3,own_set ho _ (own_ne ho l3 (by decide))⟩
theorem Ls.putO {w:World} {B q:Nat} {ls:Value} {out:List Bx} {ok:Bool} {vo:Value} (h:Ls w B q ls out ok vo) (o:Bool):Ls (w.setCell ⟨q,2,none⟩ (.bool o)) B q ls out o vo :=
 ⟨h.hp,lies_set h.lies,own_set h.oo _ (own_ne h.oo h.lies (by decide))⟩
theorem bhInfo:∃ i0,Tryz.prog.info? 41 = some i0 ∧ i0.zero = some (.agg #[.int .i64 0,.int .i64 0,.int .i64 0,.string ByteArray.empty]) ∧ i0.size = 4 ∧ i0.bytes = 40:=info_parts infoBox
/-- Rows that are no boxes, and not at q, stand. -/
def Stand (q:Nat) (w w':World):Prop:=∀ (g:Nat) (c:Array Value) (t:TypeId) (fr:Nat × Nat),g ≠ q → t ≠ 41 → w.heap[g]? = some (.cells c t fr) → w'.heap[g]? = some (.cells c t fr)
theorem Stand.trans {q:Nat} {w w' w'':World} (h:Stand q w w') (h':Stand q w' w''):Stand q w w'':=fun g c t fr hg ht hh=>h' g c t fr hg ht (h g c t fr hg ht hh)
theorem stand_below {q:Nat} {w w':World} (h:Below w.heap.size w w'):Stand q w w':=fun g c t fr _ _ hh=>below_lies h hh (lies_lt hh)
theorem stand_alloc {q:Nat} (w:World) (o:Obj):Stand q w (w.alloc o):=fun g c t fr _ _ hh=>heap_in hh
theorem stand_set {q i:Nat} (w:World) (v:Value):Stand q w (w.setCell ⟨q,i,none⟩ v):=fun g c t fr hg _ hh=>((bxn_grown_set w q i v).block g (lies_lt hh) (fun e=>hg (Option.some.inj e))).trans hh
theorem stand_grown {q B:Nat} {w w':World} {v:Value} {n:Nat} {xs:List Value} (h:w.grownBy w' v.ownBlock) (ho:w.ownsRow B 41 4 v n xs):Stand q w w':=fun g c t fr _ ht hh=>(h.block g (lies_lt hh) (fun e=>own_ne ho hh ht e.symm)).trans hh
set_option maxRecDepth 100000 in
set_option maxHeartbeats 4000000 in
theorem flush_any (B q b off n cap box node:Nat) (ns:List Nd) (out:List Bx) (ok:Bool) (vo:Value) (t:ByteArray) (w:World) (hls:Ls w B q (.slice (some ⟨b,off,none⟩) n cap) out ok vo) (hnd:NdAt w B b off n ns) (hwh:WhOk ns) (hno:node < n) (hnT:isT ns node = false) (hbx:box ≤ 1000) (ho:out.length ≤ 1000) (ht:t.size ≤ 8000) :
  Calls Tryz.prog 77 #[.pointer (some ⟨q,0,none⟩),.int .i64 (box:Int),.int .i64 (node:Int),.string t] w fun e w'=>e = .returned (.tuple #[]) ∧ (∃ vo',Ls w' B q (.slice (some ⟨b,off,none⟩) n cap) (flB ns box node out t) (flO ok t) vo') ∧ Below B w w' ∧ Stand q w w':=by
 have lp:=lies_lt hls.lies
 have hBs:B ≤ w.heap.size:=Nat.le_trans hls.hp (Nat.le_of_lt lp)
 by_cases h2:t.size ≤ 200
 rotate_left
 ·have h2':(200:Int) < (t.size:Int):=by omega
  have e1:flB ns box node out t = out:=by unfold flB;rw [if_neg h2]
  have e2:flO ok t = false:=by unfold flO;simp [h2]
  rw [e1,e2]
  have c2:w.cell? ⟨q,2,none⟩ = some (.bool ok):=(lies_cell hls.lies 2).trans rfl
  have f2:w.frozen? ⟨q,2,none⟩ = false:=Lib.frozen_of_heap hls.lies 2
  have R:=hls.putO false
  have RB:=(Below.refl B w).setCell (p:=⟨q,2,none⟩) hls.hp (.bool false)
  have HR:Hid (_ ∧ _):=And.intro R RB
  clear R RB hls hnd e1 e2
  go_enter Tryz.func77,Tryz.ntmps77
  go_wp2
  refine bodyPost_ret (results_none Tryz.results77 _ _ _) rfl ?_
  exact ⟨rfl,⟨_,HR.out.1⟩,HR.out.2,stand_set _ _⟩
 have h2':¬ ((200:Int) < (t.size:Int)):=by omega
 have hin:node < ns.length:=by rw [← hnd.len];exact hno
 obtain ⟨y,hy⟩:∃ y,ns[node]? = some y:=⟨_,List.getElem?_eq_getElem hin⟩
 have gD:ns.getD node nd0 = y:=getD_of hy
 have hwy:=inB_yes (by rw [← gD];exact hwh node hin hnT:inB 1 5 y.st.wh = true)
 have qy:w.cell? ⟨b,off + node * 28 + 2 + 21,none⟩ = some (.int .i64 y.st.wh):=by have:=hnd.rows node y hy 23 (.int .i64 y.st.wh) rfl;rwa [Nat.add_assoc (off + node * 28) 2 21]
 have KP:∀ W,Calls Tryz.prog 90 #[.int .i64 y.st.wh,.string t] W fun e w'=>e = .returned (.string (keepT y.st.wh t)) ∧ Below W.heap.size W w':=fun W=>specKeepL_any y.st.wh t W hwy.1 hwy.2 h2
 have c0:w.cell? ⟨q,0,none⟩ = some (.slice (some ⟨b,off,none⟩) n cap):=(lies_cell hls.lies 0).trans rfl
 have e2:flO ok t = ok:=by unfold flO;simp [h2]
 have eL:lineOf ns (node:Int) (box:Int) t = if (keepT y.st.wh t).size = 0 then [] else [⟨2,(node:Int),(box:Int),keepT y.st.wh t⟩]:=by unfold lineOf;rw [show ((node:Int)).toNat = node by simp,gD]
 have e1:flB ns box node out t = out ++ lineOf ns (node:Int) (box:Int) t:=by unfold flB;rw [if_pos h2]
 rw [e1,e2,eL]
 have hn40:=hnd.le
 generalize keepT y.st.wh t = kt at KP ⊢
 generalize y.st.wh = wh at qy KP hwy
 clear e1 e2 eL hnd hwh hy gD
 obtain ⟨ao,co,hvo⟩:=own_form hls.oo
 subst hvo
 have HL:Hid (Ls w B q (.slice (some ⟨b,off,none⟩) n cap) out ok (.slice ao out.length co)):=hls
 obtain ⟨m,hm⟩:∃ m,m = out.length:=⟨_,rfl⟩
 rw [← hm] at HL ho
 have HM:Hid (m = out.length):=hm
 clear hls hm
 obtain ⟨i0,hi,hz0,hz1,hz2⟩:=bhInfo
 by_cases h0:kt.size = 0
 ·rw [if_pos h0,List.append_nil]
  obtain rfl:=size_zero h0
  go_enter Tryz.func77,Tryz.ntmps77
  go_wp2_with fail
  refine (KP _).mono ?_
  rintro e w2 ⟨rfl,hb2⟩
  have L2:=HL.out.keep hb2
  have B2:Below B w w2:=hb2.mono hBs
  have D2:Hid (Stand q w w2):=stand_below hb2
  have hke:ByteArray.empty.toList.isEmpty = true:=by rw [ByteArray.toList_eq];rfl
  clear hb2 KP c0 qy HL
  go_wp2
  go_end0
  exact ⟨rfl,⟨_,L2⟩,B2,D2.out⟩
 ·rw [if_neg h0]
  have hke:kt.toList.isEmpty = false:=by rw [← Bool.not_eq_true,ByteArray.toList_eq,List.isEmpty_iff_length_eq_zero];simpa using h0
  go_enter Tryz.func77,Tryz.ntmps77
  go_wp2_with fail
  refine (KP _).mono ?_
  rintro e w2 ⟨rfl,hb2⟩
  have L2:=HL.out.keep hb2
  have B2:Below B w w2:=hb2.mono hBs
  have D2:Hid (Stand q w w2):=stand_below hb2
  have hB2:B ≤ w2.heap.size:=Nat.le_trans hBs hb2.size
  have c1:w2.cell? ⟨q,1,none⟩ = some (.slice ao m co):=(lies_cell L2.lies 1).trans rfl
  have o2:w2.ownsRow B 41 4 (.slice ao m co) m (flatB out):=by have h:=L2.oo;rw [← HM.out] at h;exact h
  have HL2:Hid (Ls w2 B q (.slice (some ⟨b,off,none⟩) n cap) out ok (.slice ao m co)):=L2
  have HB2:Hid (Below B w w2):=B2
  clear hb2 KP c0 qy HL L2 B2
  go_wp2_with (at_builtin;refine wpList_append_own_at _ rfl (.tmp 32) (.tmp 37) 24 rfl B 41 i0 _ 4 40 Tryz.underlying24 hi hz0 hz1 hz2 rfl (by decide) _ _ _ rfl (o2.alloc _) ⟨w2.heap.size,0,none⟩ 1 1 [.int .i64 2,.int .i64 (node:Int),.int .i64 (box:Int),.string kt] rfl rfl (World.news_of_block (cs:=#[.int .i64 2,.int .i64 (node:Int),.int .i64 (box:Int),.string kt]) (heap_at _ _ _ rfl)) (one4 _ _ _ _) (by unfold maxLen;omega) (by omega) (by simp;omega) ?_)
  intro v' w3 hown3 hgrow3 _ _
  obtain ⟨a3,k3,rfl⟩:=own_form hown3
  have GA:=HL2.out.keep ((Below.refl _ _).alloc (Nat.le_refl _) (.cells #[.int .i64 2,.int .i64 (node:Int),.int .i64 (box:Int),.string kt] 41))
  have l3:w3.heap[q]? = _:=(hgrow3.block q (lies_lt GA.lies) (fun e=>own_ne GA.oo GA.lies (by decide) e.symm)).trans GA.lies
  have d1:w3.cell? ⟨q,1,none⟩ = some (.slice ao m co):=(lies_cell l3 1).trans rfl
  have g1:w3.frozen? ⟨q,1,none⟩ = false:=Lib.frozen_of_heap l3 1
  have R:=GA.putB (out':=out ++ [⟨2,(node:Int),(box:Int),kt⟩]) hgrow3 (by rw [flatB_snoc,List.length_append,← HM.out];exact hown3)
  have RB:=((HB2.out.alloc hB2 _).grown hgrow3 (by simp;omega) (fun k hk=>(GA.oo.lt k hk).1)).setCell (p:=⟨q,1,none⟩) GA.hp (.slice a3 (m + 1) k3)
  have RS:=((D2.out.trans (stand_alloc w2 (.cells #[.int .i64 2,.int .i64 (node:Int),.int .i64 (box:Int),.string kt] 41))).trans (stand_grown hgrow3 GA.oo)).trans (stand_set (q:=q) (i:=1) w3 (.slice a3 (m + 1) k3))
  have HR:Hid (_ ∧ _ ∧ _):=And.intro R (And.intro RB RS)
  clear RS R RB GA l3 hown3 hgrow3 o2 HL2 HB2 c1
  go_wp2
  go_end0
  exact ⟨rfl,⟨_,HR.out.1⟩,HR.out.2.1,HR.out.2.2⟩
theorem zero_sh {s:St} (h:zeroS s = true):s.sh = 0:=by
 unfold zeroS at h
 simp only [Bool.and_eq_true,decide_eq_true_eq] at h
 exact h.1.1.1.1.1.1.1.1.1.1.1.1.1.1.1.1.1
theorem empty_append (t:ByteArray):ByteArray.empty ++ t = t:=by simp
theorem not_gone {ns:List Nd} {S:Ps} {i box:Nat} (har:arP ns S i = (box:Int)) (h3:¬ (ns.getD i nd0).st.sh = 3):¬ goneP ns S i = true:=by
 unfold goneP
 rw [decide_eq_true_eq]
 rintro (h | h)
 ·omega
 ·exact h3 h
theorem kid_text {ns:List Nd} {S:Ps} {i box:Nat} {out:List Bx} {ok:Bool} {t:ByteArray} (h:Mt ns S box out ok t) (har:arP ns S i = (box:Int)) (hT:isT ns i = true):Mt ns (takeP ns S i) box out ok (t ++ (ns.getD i nd0).tx):=by
 have h3:¬ (ns.getD i nd0).st.sh = 3:=by have:=zero_sh (s:=(ns.getD i nd0).st) hT;omega
 have hS:takeP ns S i = if arP ns S i = S.ti then { S with inn:=S.inn ++ [-1],tx:=S.tx ++ (ns.getD i nd0).tx } else { bs:=endB ns S,inn:=S.inn ++ [-1],tx:=(ns.getD i nd0).tx,ti:=arP ns S i,ok:=S.ok && endO S }:=by
  unfold takeP
  rw [if_neg (not_gone har h3),if_pos hT]
 rw [hS,har]
 generalize (ns.getD i nd0).tx = u
 left
 rcases h with ⟨a,b,c,d⟩ | ⟨a,b,c,d⟩
 ·split
  ·rename_i e
   exact ⟨by simp only;rw [a],b,c,fun _=>e.symm⟩
  ·rename_i e
   have h0:S.tx.size = 0:=Classical.byContradiction fun hh=>e (d hh).symm
   have ht:t = ByteArray.empty:=by rw [← a];exact size_zero h0
   exact ⟨by rw [ht,empty_append],by simp only;rw [endB_empty h0];exact b,by simp only;rw [endO_empty h0,Bool.and_true];exact c,fun _=>rfl⟩
 ·split
  ·rename_i e
   have h0:S.tx.size = 0:=Classical.byContradiction fun hh=>by have:=d hh;omega
   rw [endB_empty h0] at b
   rw [endO_empty h0,Bool.and_true] at c
   exact ⟨by simp only;rw [a,size_zero h0],b,c,fun _=>e.symm⟩
  ·exact ⟨by rw [a,empty_append],b,c,fun _=>rfl⟩
theorem kid_inline {ns:List Nd} {S:Ps} {i box:Nat} {out:List Bx} {ok:Bool} {t:ByteArray} (h:Mt ns S box out ok t) (har:arP ns S i = (box:Int)) (hT:isT ns i = false) (h3:¬ (ns.getD i nd0).st.sh = 3) (hk:kindS (ns.getD i nd0).st = 0):Mt ns (takeP ns S i) box out ok t ∧ (takeP ns S i).inn = S.inn ++ [(box:Int)]:=by
 have hS:takeP ns S i = { S with inn:=S.inn ++ [(box:Int)] }:=by
  unfold takeP
  rw [if_neg (not_gone har h3),if_neg (by rw [hT];decide),if_pos hk,har]
 rw [hS]
 exact ⟨mt_inn h rfl rfl rfl rfl,rfl⟩
theorem kid_block {ns:List Nd} {S:Ps} {i box:Nat} (har:arP ns S i = (box:Int)) (hT:isT ns i = false) (h3:¬ (ns.getD i nd0).st.sh = 3) (hk:¬ kindS (ns.getD i nd0).st = 0) :
  Mt ns (takeP ns S i) (endB ns S).length (endB ns S ++ [⟨kindS (ns.getD i nd0).st,(i:Int),(box:Int),ByteArray.empty⟩]) (S.ok && endO S) ByteArray.empty ∧ (takeP ns S i).inn = S.inn ++ [((endB ns S).length:Int)] ∧ (takeP ns S i).bs[(endB ns S).length]? = some ⟨kindS (ns.getD i nd0).st,(i:Int),(box:Int),ByteArray.empty⟩:=by
 have hS:takeP ns S i = { bs:=endB ns S ++ [⟨kindS (ns.getD i nd0).st,(i:Int),(box:Int),ByteArray.empty⟩],inn:=S.inn ++ [((endB ns S).length:Int)],tx:=ByteArray.empty,ti:=S.ti,ok:=S.ok && endO S }:=by
  unfold takeP
  rw [if_neg (not_gone har h3),if_neg (by rw [hT];decide),if_neg hk,har]
 rw [hS]
 exact ⟨.inl ⟨rfl,rfl,rfl,fun hh=>absurd rfl hh⟩,rfl,by simp⟩
theorem after_block {ns:List Nd} {S:Ps} {at_ box i:Nat} {out:List Bx} {ok:Bool} {t:ByteArray} (h:Mt ns S at_ out ok t) (hlt:box < at_) {x:Bx} (hb:S.bs[at_]? = some x) (hx:x.nd = (i:Int)):Mt ns S box (flB ns at_ i out t) (flO ok t) ByteArray.empty:=by
 obtain ⟨e1,e2⟩:=mt_flush h hb hx
 refine .inr ⟨rfl,e1.symm,e2.symm,fun hh=>?_⟩
 rcases h with ⟨a,b,c,d⟩ | ⟨a,b,c,d⟩
 ·have:=d hh;omega
 ·have:=d hh;omega
theorem innF_of {ns:List Nd} {i:Nat} {z:Int} (h:(takeP ns (passP ns i) i).inn = (passP ns i).inn ++ [z]):innF ns i = z:=by
 unfold innF
 show (takeP ns (passP ns i) i).inn.getD i 0 = z
 rw [h]
 have:=getD_snoc_at (l:=(passP ns i).inn) (x:=z)
 rwa [inn_len] at this
/-- What a kid that is not shown leaves. -/
theorem kid_gone {ns:List Nd} (hn:NsOk ns) {i e box:Nat} {out:List Bx} {ok:Bool} {t:ByteArray} (hi:i < ns.length) (h0:0 < i) (he:IsEnd ns i e) (h3:(ns.getD i nd0).st.sh = 3) (h:Mt ns (passP ns i) box out ok t):Mt ns (passP ns e) box out ok t:=by
 obtain ⟨_,a,b,c,d⟩:=gone_skip hn hi h0 (by unfold goneP;rw [decide_eq_true_eq];exact Or.inr h3) he e he.gt (Nat.le_refl _)
 exact mt_inn h a b c d
/-- The bounds that the pass gives. -/
theorem mt_bounds {ns:List Nd} {k box:Nat} {S:Ps} {out:List Bx} {ok:Bool} {t:ByteArray} (hok:PsOk ns k S) (h:Mt ns S box out ok t):out.length ≤ k ∧ t.size ≤ 200 * k:=by
 rcases h with ⟨a,b,c,d⟩ | ⟨a,b,c,d⟩
 ·rw [← a,← b]
  have:=hok.many
  exact ⟨by omega,hok.size⟩
 ·rw [← b,a]
  exact ⟨(endB_ok hok).2.1,Nat.zero_le _⟩
/-- What run leaves. -/
def RunEnd (B q b off n cap:Nat) (ns:List Nd) (e box:Nat) (w:World) (ev:Ending) (w':World):Prop :=
 ∃ (t':ByteArray) (out':List Bx) (ok':Bool) (vo':Value),ev = .returned (.string t') ∧ Ls w' B q (.slice (some ⟨b,off,none⟩) n cap) out' ok' vo' ∧ Mt ns (passP ns e) box out' ok' t' ∧ Below B w w'
theorem runEnd {B q b off n cap:Nat} {ns:List Nd} {e box:Nat} {w w':World} {ev:Ending} (t':ByteArray) (out':List Bx) (ok':Bool) (vo':Value) (h1:ev = .returned (.string t')) (h2:Ls w' B q (.slice (some ⟨b,off,none⟩) n cap) out' ok' vo') (h3:Mt ns (passP ns e) box out' ok' t') (h4:Below B w w'):RunEnd B q b off n cap ns e box w ev w':=⟨t',out',ok',vo',h1,h2,h3,h4⟩
/-- What run does from node k on. -/
def RunOk (B q b off n cap:Nat) (ns:List Nd) (k:Nat):Prop :=
 ∀ (e box node:Nat) (out:List Bx) (ok:Bool) (vo:Value) (t:ByteArray) (x:Bx) (w:World),IsEnd ns k e → innF ns k = (box:Int) → (passP ns (k + 1)).bs[box]? = some x → x.nd = (node:Int) → isT ns node = false → node < n →
  Ls w B q (.slice (some ⟨b,off,none⟩) n cap) out ok vo → Mt ns (passP ns (k + 1)) box out ok t → NdAt w B b off n ns →
  Calls Tryz.prog 76 #[.pointer (some ⟨q,0,none⟩),.int .i64 (box:Int),.int .i64 (node:Int),.int .i64 (k:Int),.string t] w (RunEnd B q b off n cap ns e box w)
theorem mt_len {ns:List Nd} {k p box:Nat} {x:Bx} (hns:NsOk ns) (hp:p ≤ ns.length) (hk:k ≤ p) (hx:(passP ns k).bs[box]? = some x):box < p:=by
 have h1:=box_stays hk hx
 have h2:=(List.getElem?_eq_some_iff.1 h1).1
 have h3:=(pass_ok hns p hp).many
 omega
set_option maxRecDepth 100000 in
set_option maxHeartbeats 4000000 in
theorem inside_of (B q b off n cap k:Nat) (ns:List Nd) (hns:NsOk ns) (hwh:WhOk ns) (hR:RunOk B q b off n cap ns k) (e at_:Nat) (out:List Bx) (ok:Bool) (vo:Value) (x:Bx) (w:World) (he:IsEnd ns k e) (hin:innF ns k = (at_:Int)) (hbx:(passP ns (k + 1)).bs[at_]? = some x) (hxn:x.nd = (k:Int)) (hT:isT ns k = false) (hk:k < n)
  (hls:Ls w B q (.slice (some ⟨b,off,none⟩) n cap) out ok vo) (hmt:Mt ns (passP ns (k + 1)) at_ out ok ByteArray.empty) (hnd:NdAt w B b off n ns) :
  Calls Tryz.prog 55 #[.pointer (some ⟨q,0,none⟩),.int .i64 (at_:Int),.int .i64 (k:Int)] w fun ev w'=>ev = .returned (.tuple #[]) ∧ (∃ (t':ByteArray) (out':List Bx) (ok':Bool) (vo':Value),Ls w' B q (.slice (some ⟨b,off,none⟩) n cap) (flB ns at_ k out' t') (flO ok' t') vo' ∧ Mt ns (passP ns e) at_ out' ok' t') ∧ Below B w w':=by
 have R:=hR e at_ k out ok vo ByteArray.empty x w he hin hbx hxn hT hk hls hmt hnd
 have hel:e ≤ ns.length:=he.le
 have hPe:=pass_ok hns e hel
 have h40:=hnd.le
 have hlen:=hnd.len
 have hat:=mt_len hns hel he.gt hbx
 clear hR hls hmt
 have HND:Hid (NdAt w B b off n ns):=hnd
 clear hnd
 go_enter Tryz.func55,Tryz.ntmps55
 go_wp2_with fail
 refine R.mono ?_
 rintro ev w1 ⟨t',out',ok',vo',rfl,hl1,hm1,hb1⟩
 have hbd:=mt_bounds hPe hm1
 have F:=flush_any B q b off n cap at_ k ns out' ok' vo' t' w1 hl1 (HND.out.below hb1) hwh hk hT (by omega) (by omega) (by omega)
 clear R hl1
 go_wp2_with fail
 refine F.mono ?_
 rintro ev w2 ⟨rfl,⟨vo2,hl2⟩,hb2,_⟩
 have HR:Hid (_ ∧ _):=And.intro hl2 (hb1.trans hb2)
 clear hl2 hb1 hb2 F
 go_wp2
 go_end0
 exact ⟨rfl,⟨_,_,_,_,HR.out.1,hm1⟩,HR.out.2⟩
theorem fix_none {s:St} (h:s.sh = 3):(fixSt s).sh = 3:=by unfold fixSt;rw [if_pos h];exact h
theorem fix_inline {s:St} (h:¬ s.sh = 3) (hk:kindS s = 0) (hs:inB 1 3 s.sh = true):(fixSt s).sh = 2:=by
 have hb:=inB_yes hs
 unfold kindS at hk
 unfold fixSt
 rw [if_neg h] at hk ⊢
 by_cases hf:s.fl ≠ 0
 ·rw [if_pos hf] at hk;omega
 ·rw [if_neg hf] at hk ⊢
  by_cases h1:s.sh = 1
  ·rw [if_pos h1] at hk;omega
  ·rw [if_pos (by omega)]
theorem fix_block {s:St} (h:¬ s.sh = 3) (hk:¬ kindS s = 0):(fixSt s).sh = 1 ∧ (fixSt s).fl = s.fl ∧ kindS s = if s.fl = 0 then 1 else 3:=by
 unfold kindS at hk ⊢
 unfold fixSt
 rw [if_neg h] at hk ⊢
 by_cases hf:s.fl ≠ 0
 ·rw [if_pos hf] at hk ⊢
  rw [if_neg h,if_pos hf,if_neg hf]
  exact ⟨rfl,rfl,rfl⟩
 ·rw [if_neg hf] at hk ⊢
  by_cases h1:s.sh = 1
  ·rw [if_pos h1,if_neg h,if_neg hf,if_neg (by omega),if_pos (by simpa using hf)]
   exact ⟨h1,rfl,rfl⟩
  ·rw [if_neg h1] at hk;omega
set_option maxRecDepth 100000 in
set_option maxHeartbeats 16000000 in
theorem run_step (B q b off n cap:Nat) (ns:List Nd) (hns:NsOk ns) (hwh:WhOk ns) (hsh:∀ j,j < ns.length → isT ns j = false → inB 1 3 (ns.getD j nd0).st.sh = true) (k:Nat) (hk:k < n) (R:∀ j,k < j → j < n → RunOk B q b off n cap ns j):RunOk B q b off n cap ns k:=by
 intro e box node out ok vo t x w he hin hbx hxn hnT hno hls hmt hnd
 have hlen:=hnd.len
 have h40:=hnd.le
 have hBs:B ≤ w.heap.size:=Nat.le_trans hls.hp (Nat.le_of_lt (lies_lt hls.lies))
 have HR:Hid (∀ j,k < j → j < n → RunOk B q b off n cap ns j):=R
 have HNS:Hid (NsOk ns):=hns
 have HWH:Hid (WhOk ns):=hwh
 have HSH:Hid (∀ j,j < ns.length → isT ns j = false → inB 1 3 (ns.getD j nd0).st.sh = true):=hsh
 have HE:Hid (IsEnd ns k e):=he
 have HIN:Hid (innF ns k = (box:Int)):=hin
 have HBX:Hid ((passP ns (k + 1)).bs[box]? = some x):=hbx
 have HXN:Hid (x.nd = (node:Int)):=hxn
 have HNT:Hid (isT ns node = false):=hnT
 have HND:Hid (NdAt w B b off n ns):=hnd
 have HLE:Hid (n = ns.length):=hlen
 have HS0:Hid (Ls w B q (.slice (some ⟨b,off,none⟩) n cap) out ok vo):=hls
 have HM0:Hid (Mt ns (passP ns (k + 1)) box out ok t):=hmt
 have hb40:box < 40:=by
  have h:=mt_len hns (p:=k + 1) (by omega) (Nat.le_refl _) hbx
  omega
 clear R hns hwh hsh he hin hbx hxn hnT hnd hlen hls hmt
 go_enter Tryz.func76,Tryz.ntmps76
 go_wp2
 go_loopw [4,11] (fun tv iv wr=>∃ (j p:Nat) (t:ByteArray) (out:List Bx) (ok:Bool) (vo:Value),k < j ∧ j ≤ n ∧ iv = .int .i64 (j:Int) ∧ tv = .string t ∧ AtP ns k e j p ∧ Mt ns (passP ns p) box out ok t ∧ Ls wr B q (.slice (some ⟨b,off,none⟩) n cap) out ok vo ∧ Below B w wr) (fun _ iv _=>n - (intOf iv).toNat)
 case atStart=>exact ⟨k + 1,k + 1,t,out,ok,vo,by omega,by omega,by go_num,rfl,at_start HNS.out.stands HE.out,HM0.out,HS0.out,Below.refl _ _⟩
 case round =>
  clear HS0 HM0 t out ok vo
  obtain ⟨j,p,t,out,ok,vo,hkj,hjn,rfl,rfl,hat,hmt,hls,hbw⟩:=hrel
  have HAT:Hid (AtP ns k e j p):=hat
  have HMT:Hid (Mt ns (passP ns p) box out ok t):=hmt
  have HLS:Hid (Ls wr B q (.slice (some ⟨b,off,none⟩) n cap) out ok vo):=hls
  have c0:wr.cell? ⟨q,0,none⟩ = some (.slice (some ⟨b,off,none⟩) n cap):=(lies_cell hls.lies 0).trans rfl
  have hq:q < wr.heap.size:=lies_lt hls.lies
  have hBw:B ≤ wr.heap.size:=Nat.le_trans hBs hbw.size
  clear hat hmt hls
  by_cases hlt:j < n
  rotate_left
  ·have hnl:¬ ((j:Int) < (n:Int)):=by omega
   have HRT:Hid (p = e):=at_end HE.out HAT.out (by rw [← HLE.out];omega)
   go_wp2
   go_ret
   exact runEnd t out ok vo rfl HLS.out (by rw [← HRT.out];exact HMT.out) hbw
  have hlt':(j:Int) < (n:Int):=by omega
  have HJ:Hid (j < ns.length):=by show _ < _;rw [← HLE.out];exact hlt
  obtain ⟨y,hy⟩:∃ y,ns[j]? = some y:=⟨_,List.getElem?_eq_getElem HJ.out⟩
  obtain ⟨gU,gT,gD⟩:=getI hy
  have hr:=(HND.out.below hbw).rows j y hy
  have HY:Hid (ns[j]? = some y):=hy
  have HU:Hid (upL ns j = y.up):=gU
  have HT0:Hid (isT ns j = zeroS y.st):=gT
  have HD0:Hid (ns.getD j nd0 = y):=gD
  clear hy gU gT gD
  go_wp2_with (first
   | (with_reducible show wpList _ _ _ (⟨some 33,Op.load 75 _,_,_,_,_⟩ :: _) _ _;refine wpList_load_mid rfl 75 _ rfl b (off + j * 28) rfl (ndL y) _ hr Tryz.underlying75 rfl (by kernel_rfl) ?_)
   | (with_reducible show wpList _ _ _ (⟨none,Op.store 75 _ _,_,_,_,_⟩ :: _) _ _;refine wpList_store_box rfl 75 _ _ rfl rfl (#[.int .i64 y.up,.string y.tx,.int .i64 y.st.sh,.int .i64 y.st.fl,.int .i64 y.st.cl,.bool y.st.w.a,.bool y.st.w.p,.int .i64 y.st.w.n,.bool y.st.h.a,.bool y.st.h.p,.int .i64 y.st.h.n,.int .i64 y.st.mn,.int .i64 y.st.mx,.int .i64 y.st.mt,.bool y.st.mr.a,.bool y.st.mr.p,.int .i64 y.st.mr.n,.int .i64 y.st.mb,.bool y.st.ml.a,.bool y.st.ml.p,.int .i64 y.st.ml.n,.int .i64 y.st.bo,.int .i64 y.st.pa,.int .i64 y.st.wh,.int .i64 y.st.al,.int .i64 y.st.lh,.int .i64 y.st.ri,.int .i64 y.st.dn]) rfl rfl (by kernel_rfl) rfl (by kernel_rfl) ?_;intro W bel l0 hsz;refine stay ?_)
   | fail)
  unfold Stay
  have HL0:Hid (W.heap[wr.heap.size]? = some (.cells (#[.int .i64 y.up,.string y.tx,.int .i64 y.st.sh,.int .i64 y.st.fl,.int .i64 y.st.cl,.bool y.st.w.a,.bool y.st.w.p,.int .i64 y.st.w.n,.bool y.st.h.a,.bool y.st.h.p,.int .i64 y.st.h.n,.int .i64 y.st.mn,.int .i64 y.st.mx,.int .i64 y.st.mt,.bool y.st.mr.a,.bool y.st.mr.p,.int .i64 y.st.mr.n,.int .i64 y.st.mb,.bool y.st.ml.a,.bool y.st.ml.p,.int .i64 y.st.ml.n,.int .i64 y.st.bo,.int .i64 y.st.pa,.int .i64 y.st.wh,.int .i64 y.st.al,.int .i64 y.st.lh,.int .i64 y.st.ri,.int .i64 y.st.dn]) 75 (0,0))):=l0
  have HLW:Hid (Ls W B q (.slice (some ⟨b,off,none⟩) n cap) out ok vo):=HLS.out.keep bel
  have HBW:Hid (Below B w W):=hbw.trans (bel.mono hBw)
  clear hr c0 HLS
  by_cases hu:y.up = (k:Int)
  rotate_left
  ·have cu:W.cell? ⟨wr.heap.size,0,none⟩ = some (.int .i64 y.up):=(lies_cell l0 0).trans rfl
   have hub:(y.up == (k:Int)) = false:=by simpa using hu
   have HSK:Hid (AtP ns k e (j + 1) p):=at_skip HAT.out (by rw [HU.out];exact hu)
   clear l0
   go_wp2
   go_roundw
   case rel=>exact ⟨j + 1,p,t,out,ok,vo,by omega,by omega,by go_num,rfl,HSK.out,HMT.out,HLW.out,HBW.out⟩
   case measure=>simp [intOf];omega
  have cu:W.cell? ⟨wr.heap.size,0,none⟩ = some (.int .i64 (k:Int)):=(lies_cell l0 0).trans (by rw [← hu];rfl)
  have HUK:Hid (upL ns j = (k:Int)):=HU.out.trans hu
  have hpj:p = j:=at_kid HNS.out.stands HE.out HAT.out hkj HJ.out HUK.out
  subst hpj
  have HAR:Hid (arP ns (passP ns p) p = (box:Int)):=(ar_at HUK.out hkj).trans HIN.out
  have hbd:=mt_bounds (pass_ok HNS.out p (Nat.le_of_lt HJ.out)) HMT.out
  obtain ⟨e',he'⟩:=end_some HJ.out
  have HE':Hid (IsEnd ns p e'):=he'
  have HNX:Hid (AtP ns k e (p + 1) e'):=at_next HNS.out.stands HE.out hkj HJ.out HUK.out he'
  clear he' hu HAT
  have TX:=fun W=>specIsText_any y W
  have FX:=fun W=>l4Fix_any y.st W
  cases hT:zeroS y.st
  rotate_left
  ·rw [hT] at TX
   have HTX:Hid (isT ns p = true):=HT0.out.trans hT
   have HKT:Hid (Mt ns (passP ns (p + 1)) box out ok (t ++ y.tx)):=by
    have h:=kid_text HMT.out HAR.out HTX.out
    rw [HD0.out] at h
    exact h
   have HE2:Hid (e' = p + 1):=end_text HNS.out.stands HJ.out HTX.out HE'.out
   have htx:=(HNS.out.texts p HJ.out HTX.out).1
   rw [HD0.out] at htx
   have hsz2:=(okB_yes htx).1
   clear htx hT
   go_wp2_with (with_reducible show wpList _ _ _ (⟨some 38,Op.load 75 _,_,_,_,_⟩ :: _) _ _;refine wpList_load_row rfl 75 _ rfl wr.heap.size rfl _ (#[.int .i64 y.up,.string y.tx,.int .i64 y.st.sh,.int .i64 y.st.fl,.int .i64 y.st.cl,.bool y.st.w.a,.bool y.st.w.p,.int .i64 y.st.w.n,.bool y.st.h.a,.bool y.st.h.p,.int .i64 y.st.h.n,.int .i64 y.st.mn,.int .i64 y.st.mx,.int .i64 y.st.mt,.bool y.st.mr.a,.bool y.st.mr.p,.int .i64 y.st.mr.n,.int .i64 y.st.mb,.bool y.st.ml.a,.bool y.st.ml.p,.int .i64 y.st.ml.n,.int .i64 y.st.bo,.int .i64 y.st.pa,.int .i64 y.st.wh,.int .i64 y.st.al,.int .i64 y.st.lh,.int .i64 y.st.ri,.int .i64 y.st.dn]) _ _ l0 Tryz.underlying75 rfl (by kernel_rfl) ?_)
   refine (TX _).mono ?_
   rintro ev w2 ⟨rfl,hb2⟩
   have c1:w2.cell? ⟨wr.heap.size,1,none⟩ = some (.string y.tx):=(lies_cell (below_lies hb2 l0 (lies_lt l0)) 1).trans rfl
   have HL2:Hid (Ls w2 B q (.slice (some ⟨b,off,none⟩) n cap) out ok vo):=HLW.out.keep hb2
   have HB2:Hid (Below B w w2):=HBW.out.trans (hb2.mono (Nat.le_trans hBs HBW.out.size))
   have hmx:t.size + y.tx.size ≤ maxLen:=by unfold maxLen;omega
   clear hb2 TX FX cu l0 bel hsz
   go_wp2
   go_roundw
   case rel=>exact ⟨p + 1,p + 1,t ++ y.tx,out,ok,vo,by omega,by omega,by go_num,rfl,by have h:=HNX.out;rw [HE2.out] at h;exact h,HKT.out,HL2.out,HB2.out⟩
   case measure=>simp [intOf];omega
  rw [hT] at TX
  have HTF:Hid (isT ns p = false):=HT0.out.trans hT
  clear hT
  go_wp2_with (with_reducible show wpList _ _ _ (⟨some 38,Op.load 75 _,_,_,_,_⟩ :: _) _ _;refine wpList_load_row rfl 75 _ rfl wr.heap.size rfl _ (#[.int .i64 y.up,.string y.tx,.int .i64 y.st.sh,.int .i64 y.st.fl,.int .i64 y.st.cl,.bool y.st.w.a,.bool y.st.w.p,.int .i64 y.st.w.n,.bool y.st.h.a,.bool y.st.h.p,.int .i64 y.st.h.n,.int .i64 y.st.mn,.int .i64 y.st.mx,.int .i64 y.st.mt,.bool y.st.mr.a,.bool y.st.mr.p,.int .i64 y.st.mr.n,.int .i64 y.st.mb,.bool y.st.ml.a,.bool y.st.ml.p,.int .i64 y.st.ml.n,.int .i64 y.st.bo,.int .i64 y.st.pa,.int .i64 y.st.wh,.int .i64 y.st.al,.int .i64 y.st.lh,.int .i64 y.st.ri,.int .i64 y.st.dn]) _ _ l0 Tryz.underlying75 rfl (by kernel_rfl) ?_)
  refine (TX _).mono ?_
  rintro ev w2 ⟨rfl,hb2⟩
  have l2:=below_lies hb2 l0 (lies_lt l0)
  have HL2:Hid (Ls w2 B q (.slice (some ⟨b,off,none⟩) n cap) out ok vo):=HLW.out.keep hb2
  have HB2:Hid (Below B w w2):=HBW.out.trans (hb2.mono (Nat.le_trans hBs HBW.out.size))
  have RS:w2.rangeAt wr.heap.size 2 (stCells y.st).toList:=fun i v hi=>(lies_cell l2 (2 + i)).trans (by rw [← hi,show (stCells y.st).toList = (#[.int .i64 y.up,.string y.tx,.int .i64 y.st.sh,.int .i64 y.st.fl,.int .i64 y.st.cl,.bool y.st.w.a,.bool y.st.w.p,.int .i64 y.st.w.n,.bool y.st.h.a,.bool y.st.h.p,.int .i64 y.st.h.n,.int .i64 y.st.mn,.int .i64 y.st.mx,.int .i64 y.st.mt,.bool y.st.mr.a,.bool y.st.mr.p,.int .i64 y.st.mr.n,.int .i64 y.st.mb,.bool y.st.ml.a,.bool y.st.ml.p,.int .i64 y.st.ml.n,.int .i64 y.st.bo,.int .i64 y.st.pa,.int .i64 y.st.wh,.int .i64 y.st.al,.int .i64 y.st.lh,.int .i64 y.st.ri,.int .i64 y.st.dn]:Array Value).toList.drop 2 from rfl,List.getElem?_drop];simp)
  clear hb2 TX cu l0 bel hsz HL0 HLW HBW
  go_wp2_with (with_reducible show wpList _ _ _ (⟨some 45,Op.load 73 _,_,_,_,_⟩ :: _) _ _;refine wpList_load_mid rfl 73 _ rfl wr.heap.size 2 rfl (stCells y.st).toList _ RS Tryz.underlying73 rfl (by kernel_rfl) ?_)
  refine (FX _).mono ?_
  rintro ev w3 ⟨rfl,hb3⟩
  have HL3:Hid (Ls w3 B q (.slice (some ⟨b,off,none⟩) n cap) out ok vo):=HL2.out.keep hb3
  have HB3:Hid (Below B w w3):=HB2.out.trans (hb3.mono (Nat.le_trans hBs HB2.out.size))
  clear hb3 FX RS l2 HL2 HB2
  go_wp2_with (first
   | (with_reducible show wpList _ _ _ (⟨none,Op.store 73 _ _,_,_,_,_⟩ :: _) _ _;refine wpList_store_box rfl 73 _ _ rfl rfl (stCells (fixSt y.st)) rfl rfl (by kernel_rfl) rfl (by kernel_rfl) ?_;intro W4 bel4 l4 hsz4;refine stay ?_)
   | fail)
  unfold Stay
  have HL4:Hid (Ls W4 B q (.slice (some ⟨b,off,none⟩) n cap) out ok vo):=HL3.out.keep bel4
  have HB4:Hid (Below B w W4):=HB3.out.trans (bel4.mono (Nat.le_trans hBs HB3.out.size))
  have hq3:q < w3.heap.size:=lies_lt HL3.out.lies
  clear HL3 HB3
  by_cases h3:y.st.sh = 3
  ·have s0:W4.cell? ⟨w3.heap.size,0,none⟩ = some (.int .i64 3):=(lies_cell l4 0).trans (by show some (Value.int .i64 (fixSt y.st).sh) = _;rw [fix_none h3])
   have HKG:Hid (Mt ns (passP ns e') box out ok t):=kid_gone HNS.out HJ.out (by omega) HE'.out (by rw [HD0.out];exact h3) HMT.out
   clear l4 bel4 hsz4 h3
   go_wp2
   go_roundw
   case rel=>exact ⟨p + 1,e',t,out,ok,vo,by omega,by omega,by go_num,rfl,HNX.out,HKG.out,HL4.out,HB4.out⟩
   case measure=>simp [intOf];omega
  have H3:Hid (¬ (ns.getD p nd0).st.sh = 3):=by show ¬ _;rw [HD0.out];exact h3
  by_cases hk0:kindS y.st = 0
  ·have s0:W4.cell? ⟨w3.heap.size,0,none⟩ = some (.int .i64 2):=(lies_cell l4 0).trans (by show some (Value.int .i64 (fixSt y.st).sh) = _;rw [fix_inline h3 hk0 (by have h:=HSH.out p HJ.out HTF.out;rw [HD0.out] at h;exact h)])
   have KI:=kid_inline HMT.out HAR.out HTF.out H3.out (by rw [HD0.out];exact hk0)
   have RR:=HR.out p hkj hlt e' box node out ok vo t x W4 HE'.out (innF_of KI.2) (box_stays (by omega) HBX.out) HXN.out HNT.out hno HL4.out KI.1 (HND.out.below HB4.out)
   clear l4 bel4 hsz4 h3 hk0 KI
   go_wp2_with fail
   refine RR.mono ?_
   rintro ev w5 ⟨t',out',ok',vo',rfl,hl5,hm5,hb5⟩
   have HL5:Hid (_ ∧ _ ∧ _):=And.intro hl5 (And.intro hm5 (HB4.out.trans hb5))
   clear RR hl5 hm5 hb5
   go_wp2
   go_roundw
   case rel=>exact ⟨p + 1,e',t',out',ok',vo',by omega,by omega,by go_num,rfl,HNX.out,HL5.out.2.1,HL5.out.1,HL5.out.2.2⟩
   case measure=>simp [intOf];omega
  obtain ⟨fb1,fb2,fb3⟩:=fix_block h3 hk0
  have HK0:Hid (¬ kindS (ns.getD p nd0).st = 0):=by show ¬ _;rw [HD0.out];exact hk0
  have s0:W4.cell? ⟨w3.heap.size,0,none⟩ = some (.int .i64 1):=(lies_cell l4 0).trans (by show some (Value.int .i64 (fixSt y.st).sh) = _;rw [fb1])
  have F:=flush_any B q b off n cap box node ns out ok vo t W4 HL4.out (HND.out.below HB4.out) HWH.out hno HNT.out (by omega) (by omega) (by omega)
  obtain ⟨mf1,mf2⟩:=mt_flush HMT.out (box_stays (k:=k + 1) (p:=p) (by omega) HBX.out) HXN.out
  rw [mf1,mf2] at F
  have KB:=kid_block (ns:=ns) (S:=passP ns p) HAR.out HTF.out H3.out HK0.out
  have hlE:=(endB_ok (pass_ok HNS.out p (Nat.le_of_lt HJ.out)))
  have hbl:box < (endB ns (passP ns p)).length:=Nat.lt_of_lt_of_le (List.getElem?_eq_some_iff.1 (box_stays (k:=k + 1) (p:=p) (by omega) HBX.out)).1 hlE.1
  have hm40:(endB ns (passP ns p)).length ≤ 40:=Nat.le_trans hlE.2.1 (by omega)
  rw [show kindS (ns.getD p nd0).st = kindS y.st by rw [HD0.out]] at KB
  have HKB:Hid (_ ∧ _):=KB
  have HFL:Hid ((fixSt y.st).fl = y.st.fl ∧ kindS y.st = if y.st.fl = 0 then 1 else 3):=⟨fb2,fb3⟩
  clear hlE KB mf1 mf2 fb1 fb2 fb3 h3 hk0 bel4 hsz4
  have HL4b:Hid (W4.heap[w3.heap.size]? = some (.cells (stCells (fixSt y.st)) 73 (0,0))):=l4
  clear l4
  go_wp2_with fail
  refine F.mono ?_
  rintro ev w5 ⟨rfl,⟨vo5,hl5⟩,hb5,hst5⟩
  have l5:=hst5 _ _ _ _ (by omega) (by decide) HL4b.out
  have s1:w5.cell? ⟨w3.heap.size,1,none⟩ = some (.int .i64 y.st.fl):=(lies_cell l5 1).trans (by show some (Value.int .i64 (fixSt y.st).fl) = _;rw [HFL.out.1])
  have HB5:Hid (Below B w w5):=HB4.out.trans hb5
  clear s0 hst5 F l5 HL4b HB4 hb5 HL4
  generalize hES:endB ns (passP ns p) = es at hl5 HKB hbl hm40
  generalize hOS:((passP ns p).ok && endO (passP ns p)) = os5 at hl5 HKB
  clear hES hOS
  obtain ⟨ao,co,hvo⟩:=own_form hl5.oo
  subst hvo
  obtain ⟨m,hm⟩:∃ m,m = es.length:=⟨_,rfl⟩
  rw [← hm] at hl5 HKB hbl hm40
  have HM:Hid (m = es.length):=hm
  have HL5:Hid (Ls w5 B q (.slice (some ⟨b,off,none⟩) n cap) es os5 (.slice ao m co)):=hl5
  have c1:w5.cell? ⟨q,1,none⟩ = some (.slice ao m co):=(lies_cell hl5.lies 1).trans rfl
  have o2:w5.ownsRow B 41 4 (.slice ao m co) m (flatB es):=by have h:=hl5.oo;rw [← hm] at h;exact h
  have hB5:B ≤ w5.heap.size:=Nat.le_trans hBs HB5.out.size
  clear hm hl5
  obtain ⟨i0,hi,hz0,hz1,hz2⟩:=bhInfo
  by_cases hf:y.st.fl = 0
  ·rw [hf] at s1
   have HKD:Hid (kindS y.st = 1):=by show _ = _;rw [HFL.out.2];rw [if_pos hf]
   rw [HKD.out] at HKB
   clear HKD HFL
   go_wp2_with (at_builtin;refine wpList_append_own_at _ rfl (.tmp 66) (.tmp 71) 24 rfl B 41 i0 _ 4 40 Tryz.underlying24 hi hz0 hz1 hz2 rfl (by decide) _ _ _ rfl (o2.alloc _) ⟨w5.heap.size,0,none⟩ 1 1 [.int .i64 1,.int .i64 (p:Int),.int .i64 (box:Int),.string ByteArray.empty] rfl rfl (World.news_of_block (cs:=#[.int .i64 1,.int .i64 (p:Int),.int .i64 (box:Int),.string ByteArray.empty]) (heap_at _ _ _ rfl)) (one4 _ _ _ _) (by unfold maxLen;omega) (by omega) (by simp;omega) ?_)
   intro v' w6 hown6 hgrow6 _ _
   obtain ⟨a6,k6,rfl⟩:=own_form hown6
   have GA:=HL5.out.keep ((Below.refl _ _).alloc (Nat.le_refl _) (.cells #[.int .i64 1,.int .i64 (p:Int),.int .i64 (box:Int),.string ByteArray.empty] 41))
   have l6:w6.heap[q]? = _:=(hgrow6.block q (lies_lt GA.lies) (fun e=>own_ne GA.oo GA.lies (by decide) e.symm)).trans GA.lies
   have d1:w6.cell? ⟨q,1,none⟩ = some (.slice ao m co):=(lies_cell l6 1).trans rfl
   have g1:w6.frozen? ⟨q,1,none⟩ = false:=Lib.frozen_of_heap l6 1
   have R6:=GA.putB (out':=es ++ [(⟨1,(p:Int),(box:Int),ByteArray.empty⟩:Bx)]) hgrow6 (by rw [flatB_snoc,List.length_append,← HM.out];exact hown6)
   have B6:=((HB5.out.alloc hB5 _).grown hgrow6 (by simp;omega) (fun k hk=>(GA.oo.lt k hk).1)).setCell (p:=⟨q,1,none⟩) GA.hp (.slice a6 (m + 1) k6)
   have IN:=inside_of B q b off n cap p ns HNS.out HWH.out (HR.out p hkj hlt) e' m (es ++ [(⟨1,(p:Int),(box:Int),ByteArray.empty⟩:Bx)]) os5 _ (⟨1,(p:Int),(box:Int),ByteArray.empty⟩:Bx) _ HE'.out (innF_of HKB.out.2.1) HKB.out.2.2 rfl HTF.out hlt R6 HKB.out.1 (HND.out.below B6)
   have HB6:Hid (_):=B6
   clear R6 B6 GA l6 hown6 hgrow6 o2 HL5 HB5 c1 s1
   go_wp2_with fail
   refine IN.mono ?_
   rintro ev w7 ⟨rfl,⟨t',out',ok',vo',hl7,hm7⟩,hb7⟩
   have AB:=after_block hm7 hbl (box_stays (k:=p + 1) (p:=e') HE'.out.gt HKB.out.2.2) rfl
   have HF:Hid (_ ∧ _ ∧ _):=And.intro AB (And.intro hl7 (HB6.out.trans hb7))
   clear AB hl7 hm7 hb7 IN HB6 HKB
   go_wp2
   go_roundw
   case rel=>exact ⟨p + 1,e',ByteArray.empty,_,_,vo',by omega,by omega,by go_num,rfl,HNX.out,HF.out.1,HF.out.2.1,HF.out.2.2⟩
   case measure=>simp [intOf];omega
  ·have hfb:(y.st.fl == 0) = false:=by simpa using hf
   have HKD:Hid (kindS y.st = 3):=by show _ = _;rw [HFL.out.2];rw [if_neg hf]
   rw [HKD.out] at HKB
   clear HKD HFL
   go_wp2_with (at_builtin;refine wpList_append_own_at _ rfl (.tmp 66) (.tmp 71) 24 rfl B 41 i0 _ 4 40 Tryz.underlying24 hi hz0 hz1 hz2 rfl (by decide) _ _ _ rfl (o2.alloc _) ⟨w5.heap.size,0,none⟩ 1 1 [.int .i64 3,.int .i64 (p:Int),.int .i64 (box:Int),.string ByteArray.empty] rfl rfl (World.news_of_block (cs:=#[.int .i64 3,.int .i64 (p:Int),.int .i64 (box:Int),.string ByteArray.empty]) (heap_at _ _ _ rfl)) (one4 _ _ _ _) (by unfold maxLen;omega) (by omega) (by simp;omega) ?_)
   intro v' w6 hown6 hgrow6 _ _
   obtain ⟨a6,k6,rfl⟩:=own_form hown6
   have GA:=HL5.out.keep ((Below.refl _ _).alloc (Nat.le_refl _) (.cells #[.int .i64 3,.int .i64 (p:Int),.int .i64 (box:Int),.string ByteArray.empty] 41))
   have l6:w6.heap[q]? = _:=(hgrow6.block q (lies_lt GA.lies) (fun e=>own_ne GA.oo GA.lies (by decide) e.symm)).trans GA.lies
   have d1:w6.cell? ⟨q,1,none⟩ = some (.slice ao m co):=(lies_cell l6 1).trans rfl
   have g1:w6.frozen? ⟨q,1,none⟩ = false:=Lib.frozen_of_heap l6 1
   have R6:=GA.putB (out':=es ++ [(⟨3,(p:Int),(box:Int),ByteArray.empty⟩:Bx)]) hgrow6 (by rw [flatB_snoc,List.length_append,← HM.out];exact hown6)
   have B6:=((HB5.out.alloc hB5 _).grown hgrow6 (by simp;omega) (fun k hk=>(GA.oo.lt k hk).1)).setCell (p:=⟨q,1,none⟩) GA.hp (.slice a6 (m + 1) k6)
   have IN:=inside_of B q b off n cap p ns HNS.out HWH.out (HR.out p hkj hlt) e' m (es ++ [(⟨3,(p:Int),(box:Int),ByteArray.empty⟩:Bx)]) os5 _ (⟨3,(p:Int),(box:Int),ByteArray.empty⟩:Bx) _ HE'.out (innF_of HKB.out.2.1) HKB.out.2.2 rfl HTF.out hlt R6 HKB.out.1 (HND.out.below B6)
   have HB6:Hid (_):=B6
   clear R6 B6 GA l6 hown6 hgrow6 o2 HL5 HB5 c1 s1
   go_wp2_with fail
   refine IN.mono ?_
   rintro ev w7 ⟨rfl,⟨t',out',ok',vo',hl7,hm7⟩,hb7⟩
   have AB:=after_block hm7 hbl (box_stays (k:=p + 1) (p:=e') HE'.out.gt HKB.out.2.2) rfl
   have HF:Hid (_ ∧ _ ∧ _):=And.intro AB (And.intro hl7 (HB6.out.trans hb7))
   clear AB hl7 hm7 hb7 IN HB6 HKB
   go_wp2
   go_roundw
   case rel=>exact ⟨p + 1,e',ByteArray.empty,_,_,vo',by omega,by omega,by go_num,rfl,HNX.out,HF.out.1,HF.out.2.1,HF.out.2.2⟩
   case measure=>simp [intOf];omega
theorem run_any (B q b off n cap:Nat) (ns:List Nd) (hns:NsOk ns) (hwh:WhOk ns) (hsh:∀ j,j < ns.length → isT ns j = false → inB 1 3 (ns.getD j nd0).st.sh = true):∀ (m k:Nat),k < n → n - k ≤ m → RunOk B q b off n cap ns k
 | 0,k,hk,hm=>by omega
 | m + 1,k,hk,hm=>run_step B q b off n cap ns hns hwh hsh k hk fun j hj hjn=>run_any B q b off n cap ns hns hwh hsh m j hjn (by omega)
end Go.Proofs.YtjnmloaopnbpgaaGreatDoor
