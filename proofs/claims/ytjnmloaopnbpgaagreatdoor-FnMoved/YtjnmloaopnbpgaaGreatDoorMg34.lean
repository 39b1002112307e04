/-
 The model's LayPage: of a drawn tree it tells some page whose places are near, with few lines.
 Contract of DrawLayPage: some font, a drawn tree and some width, and all older memory left alone.
-/
import Derived.Test.YtjnmloaopnbpgaaGreatDoorMg30
import Derived.Test.YtjnmloaopnbpgaaGreatDoorMg33
namespace Go.Proofs.YtjnmloaopnbpgaaGreatDoor
open Go.ChangeShapes Go.WideShapes Go.ChangeAt Go.RowKit
set_option linter.unusedVariables false
/-- The boxes of a good tree, by the model. -/
theorem l5_any (nb noff cap:Nat) (ns:List Nd) (W:World) (hr:∀ i n,ns[i]? = some n → W.rangeAt nb (noff + i * 28) (ndL n)) (hT:treeB (okB true) styleB ns = true) :
  Calls Tryz.prog 35 #[.slice (some ⟨nb,noff,none⟩) ns.length cap] W fun e w'=>(∃ v,e = .returned (.tuple #[v,.bool (boxB ns)]) ∧ (boxB ns = true → OwnX w' W.heap.size v (boxesL ns))) ∧ Below W.heap.size W w':=by
 obtain ⟨⟨h1,h40⟩,_⟩:=treeB_parts hT
 obtain ⟨hns,hwh⟩:=ns_ok hT
 have hsh:=sh_ok hT
 obtain ⟨y,hy⟩:∃ y,ns[0]? = some y:=⟨_,List.getElem?_eq_getElem (by omega)⟩
 have hnd:NdAt W W.heap.size nb noff ns.length ns:=⟨range_lt (hr 0 y hy),rfl,h40,hr⟩
 by_cases hk:kindS (ns.getD 0 nd0).st = 1
 ·have HB:boxB ns = boxesOkP ns:=by unfold boxB;rw [hT,hk];rfl
  refine (l5Boxes_yes nb noff ns.length cap ns W hnd hns hwh hsh (by omega) hk).mono ?_
  rintro e w' ⟨v,rfl,ho,hb⟩
  exact ⟨⟨v,by rw [HB],fun _=>ho⟩,hb⟩
 ·have HB:boxB ns = false:=by unfold boxB;rw [decide_eq_false hk,Bool.and_false];rfl
  refine (l5Boxes_not nb noff ns.length cap ns W hnd (by omega) (hsh 0 (by omega) hns.root) hk).mono ?_
  rintro e w' ⟨rfl,hb⟩
  exact ⟨⟨_,by rw [HB],fun h=>by rw [HB] at h;cases h⟩,hb⟩
theorem boxes_pos {ns:List Nd} (hn:NsOk ns) (hl:0 < ns.length) (hr:kindS (ns.getD 0 nd0).st = 1):0 < (boxesL ns).length:=by
 have h1:1 ≤ (passP ns 1).bs.length:=by
  have hup:upL ns 0 = -1:=(hn.stands 0 hl).top rfl
  show 1 ≤ (takeP ns (passP ns 0) 0).bs.length
  unfold takeP
  have hsh:(ns.getD 0 nd0).st.sh ≠ 3:=fun h=>by
   unfold kindS at hr
   rw [if_pos h] at hr
   cases hr
  rw [if_neg (by unfold goneP;rw [decide_eq_true_eq];omega),if_neg (by rw [hn.root];decide),if_neg (by rw [hr];decide)]
  simp
 have h2:∀ k,1 ≤ k → k ≤ ns.length → 1 ≤ (passP ns k).bs.length:=by
  intro k
  induction k with
  | zero=>intro h;omega
  | succ k ih =>
   intro _ hk
   by_cases h0:k = 0
   ·subst h0;exact h1
   ·have hi:=ih (by omega) (by omega)
    obtain ⟨e0,-,-⟩:=endB_ok (pass_ok hn k (by omega))
    show 1 ≤ (takeP ns (passP ns k) k).bs.length
    unfold takeP
    split
    ·exact hi
    ·split
     ·split
      ·exact hi
      ·show 1 ≤ (endB ns (passP ns k)).length
       omega
     ·split
      ·exact hi
      ·simp
 have h3:=h2 ns.length hl (Nat.le_refl _)
 obtain ⟨e0,-,-⟩:=endB_ok (pass_ok hn ns.length (Nat.le_refl _))
 unfold boxesL
 omega
/-- Places out of a row of numbers. -/
def plOf:List Int → List Plc
 | a :: b :: c :: d :: r=>⟨a,b,c,d⟩ :: plOf r
 | _=>[]
theorem plOf_len:∀ (m:Nat) (l:List Int),l.length = m * 4 → (plOf l).length = m
 | 0,l,h=>by
  have e:l = []:=List.eq_nil_of_length_eq_zero (by omega)
  subst e
  rfl
 | m + 1,l,h=>by
  match l,h with
  | [],h=>simp at h
  | [a],h=>simp at h;omega
  | [a,b],h=>simp at h;omega
  | [a,b,c],h=>simp at h;omega
  | a :: b :: c :: d :: r,h =>
   show (plOf r).length + 1 = m + 1
   rw [plOf_len m r (by simp at h;omega)]
theorem plOf_at:∀ (l:List Int) (i:Nat) (q:Plc),(plOf l)[i]? = some q → q = ⟨l.getD (i * 4) 0,l.getD (i * 4 + 1) 0,l.getD (i * 4 + 2) 0,l.getD (i * 4 + 3) 0⟩ ∧ i * 4 + 3 < l.length
 | a :: b :: c :: d :: r,0,q,h=>by
  simp [plOf] at h
  subst h
  exact ⟨rfl,by simp⟩
 | a :: b :: c :: d :: r,i + 1,q,h=>by
  have h':(plOf r)[i]? = some q:=by simpa [plOf] using h
  obtain ⟨h1,h2⟩:=plOf_at r i q h'
  refine ⟨?_,by simp;omega⟩
  rw [h1]
  have e:∀ k,(a :: b :: c :: d :: r).getD (k + 4) 0 = r.getD k 0:=fun k=>by simp [List.getD_eq_getElem?_getD]
  rw [show (i + 1) * 4 = i * 4 + 4 by omega,show i * 4 + 4 + 1 = (i * 4 + 1) + 4 by omega,show i * 4 + 4 + 2 = (i * 4 + 2) + 4 by omega,show i * 4 + 4 + 3 = (i * 4 + 3) + 4 by omega,e,e,e,e]
 | [],i,q,h=>by simp [plOf] at h
 | [a],i,q,h=>by simp [plOf] at h
 | [a,b],i,q,h=>by simp [plOf] at h
 | [a,b,c],i,q,h=>by simp [plOf] at h
theorem Ctx.places {w:World} {B g P:Nat} {E:Le} {c:Cs} (h:Ctx w B g P E c):PlRow w (some ⟨P,0,none⟩) (plOf c.ps):=by
 refine .inr ⟨P,0,rfl,fun i q hq j v hv=>?_⟩
 obtain ⟨h1,h2⟩:=plOf_at c.ps i q hq
 have hl:=h.psl
 subst h1
 have hj:=(List.getElem?_eq_some_iff.1 hv).1
 rw [plL_len] at hj
 have hp:=h.place (i * 4 + j) (by omega)
 rw [Nat.zero_add,hp]
 rw [← hv]
 have:j = 0 ∨ j = 1 ∨ j = 2 ∨ j = 3:=by omega
 rcases this with rfl | rfl | rfl | rfl <;> rfl
/-- What is known of a page that is told. -/
structure PgOk (w:World) (B:Nat) (P:Pg):Prop where
 row:PgRow w P
 own:OwnL w B (.slice P.la P.ls.length P.lc) P.ls
 nb:P.bs.length ≤ 80
 np:P.ps.length = P.bs.length
 nl:P.ls.length ≤ 396
 nf:P.fs.length ≤ 1000
 tx:∀ x ∈ P.ls,x.tx.size ≤ 200
 near:∀ q ∈ P.ps,nearQ q = true
 ab:∀ p,P.ba = some p → B ≤ p.block
 ap:∀ p,P.pa = some p → B ≤ p.block
 al:∀ p,P.la = some p → B ≤ p.block
 af:∀ p,P.fa = some p → B ≤ p.block
 pcl:P.ps.length ≤ P.pc
 apart:∀ k,(Value.slice P.la P.ls.length P.lc).ownBlock = some k → (∀ p,P.ba = some p → p.block ≠ k) ∧ (∀ p,P.pa = some p → p.block ≠ k) ∧ (∀ p,P.fa = some p → p.block ≠ k)
def LayRet (w:World) (e:Ending) (w':World):Prop:=∃ (P:Pg) (code:Int),e = .returned (.tuple #[.agg #[.slice P.ba P.bs.length P.bc,.slice P.pa P.ps.length P.pc,.slice P.la P.ls.length P.lc,.slice P.fa P.fs.length P.fc,.int .i64 P.hi],.int .i64 code]) ∧ PgOk w' w.heap.size P ∧ Below w.heap.size w w'
theorem lay_zero {w w':World} (hb:Below w.heap.size w w') (code:Int):LayRet w (.returned (.tuple #[.agg #[.slice none 0 0,.slice none 0 0,.slice none 0 0,.slice none 0 0,.int .i64 0],.int .i64 code])) w' :=
 ⟨⟨none,0,[],none,0,[],none,0,[],none,0,[],0⟩,code,rfl,⟨⟨.inl rfl,.inl rfl,.inl rfl,.inl rfl⟩,ownL_nil _ _,by simp,rfl,by simp,by simp,fun x hx=>absurd hx List.not_mem_nil,fun q hq=>absurd hq List.not_mem_nil,(fun p h=>by cases h),(fun p h=>by cases h),(fun p h=>by cases h),(fun p h=>by cases h),by simp,(fun k hk=>by cases hk)⟩,hb⟩
set_option maxRecDepth 1000000 in
set_option maxHeartbeats 4000000 in
theorem layPage_any (fa fd fn fu fb:Int) (nb noff n cap:Nat) (ns:List Nd) (wd:Int) (w:World) (hn:n = ns.length) (hr:∀ i x,ns[i]? = some x → w.rangeAt nb (noff + i * 28) (ndL x)) (hT:TrOk ns) :
  Calls Tryz.prog 10 #[.agg #[.int .i64 fa,.int .i64 fd,.int .i64 fn,.int .i64 fu,.int .i64 fb],.slice (some ⟨nb,noff,none⟩) n cap,.int .i64 wd] w fun e w'=>LayRet w e w':=by
 have HTO:Hid (TrOk ns):=hT
 have HN:Hid (n = ns.length):=hn
 have HR:Hid (∀ W,Below w.heap.size w W → ∀ i x,ns[i]? = some x → W.rangeAt nb (noff + i * 28) (ndL x)):=fun W hb i x hx=>range_below (hr i x hx) hb (range_lt (hr i x hx))
 have GT:Hid (∀ W,Below w.heap.size w W → Calls Tryz.prog 34 #[.slice (some ⟨nb,noff,none⟩) n cap] W fun e w'=>e = .returned (.bool (treeB (okB true) styleB ns)) ∧ Below W.heap.size W w'):=fun W hb=>by
  rw [hn]
  exact specTree_any (some ⟨nb,noff,none⟩) cap ns W (.inr ⟨nb,noff,rfl,fun i x hx=>range_below (hr i x hx) hb (range_lt (hr i x hx))⟩) (by have:=hT.2.1;omega) (fun x hx=>by
   obtain ⟨j,hj,rfl⟩:=List.mem_iff_getElem.1 hx
   have:=(hT.2.2 j _ (List.getElem?_eq_getElem hj)).1
   omega)
 obtain ⟨W0,hW0⟩:∃ W,W = (w.alloc (.cells #[.int .i64 fa,.int .i64 fd,.int .i64 fn,.int .i64 fu,.int .i64 fb] 48)).alloc (.cells #[.slice none 0 0,.slice none 0 0,.slice none 0 0,.slice none 0 0,.int .i64 0] 29):=⟨_,rfl⟩
 have b0:Below w.heap.size w W0:=by rw [hW0];exact ((Below.refl _ _).alloc (Nat.le_refl _) _).alloc (by simp) _
 have lF0:W0.heap[w.heap.size]? = some (.cells #[.int .i64 fa,.int .i64 fd,.int .i64 fn,.int .i64 fu,.int .i64 fb] 48 (0,0)):=by rw [hW0];exact heap_in (heap_at _ _ _ rfl)
 have lP0:W0.heap[w.heap.size + 1]? = some (.cells #[.slice none 0 0,.slice none 0 0,.slice none 0 0,.slice none 0 0,.int .i64 0] 29 (0,0)):=by rw [hW0];exact heap_at _ _ _ (by simp)
 clear hn hr hT
 go_enter Tryz.func10,Tryz.ntmps10
 go_wp2_with fail
 rw [← hW0]
 clear hW0
 refine (specGood_any fa fd fn fu fb _).mono ?_
 rintro e w1 ⟨rfl,hb1⟩
 have b1:=b0.trans (hb1.mono b0.size)
 have lF1:=below_lies hb1 lF0 (lies_lt lF0)
 have lP1:=below_lies hb1 lP0 (lies_lt lP0)
 clear hb1 lF0 lP0 b0
 rcases Bool.eq_false_or_eq_true (fontB fa fd fn fu fb) with hF | hF
 rotate_left
 ·rw [hF]
  clear hF lF1
  go_wp2_with (first | ((with_reducible show wpList _ _ _ (⟨none,Op.store 29 (Operand.tmp 6) _,_,_,_,_⟩ :: _) _ _);refine wpList_putA rfl _ _ _ rfl rfl (w.heap.size + 1) 0 5 (#[.slice none 0 0,.slice none 0 0,.slice none 0 0,.slice none 0 0,.int .i64 0]:Array Value).toList _ _ rfl rfl lP1 rfl (by kernel_rfl) (by kernel_rfl) (by kernel_rfl) ?_;intro W5 p9 l9 n9;refine stayT ?_) | fail)
  have l5:W5.heap[w.heap.size + 1]? = some (.cells #[.slice none 0 0,.slice none 0 0,.slice none 0 0,.slice none 0 0,.int .i64 0] 29 (0,0)):=l9.trans (congrArg (fun c=>some (Obj.cells c 29 (0,0))) (show _ = (#[.slice none 0 0,.slice none 0 0,.slice none 0 0,.slice none 0 0,.int .i64 0]:Array Value) by kernel_rfl))
  have b5:=p9.below b1 (by omega)
  unfold StayT
  clear l9 p9 n9
  go_wp2
  exact bodyPost_ret (v:=.tuple #[.agg #[.slice none 0 0,.slice none 0 0,.slice none 0 0,.slice none 0 0,.int .i64 0],.int .i64 1]) (results_row_tmp Tryz.results10 _ _ (w.heap.size + 1) _ _ _ _ _ rfl l5 Tryz.underlying29 rfl (by kernel_rfl) rfl) rfl (lay_zero b5 1)
 have hF9:=fontB_yes hF
 rw [hF]
 clear hF
 have GT1:=GT.out w1 b1
 go_wp2_with fail
 refine GT1.mono ?_
 rintro e w2 ⟨rfl,hb2⟩
 have b2:=b1.trans (hb2.mono b1.size)
 have lF2:=below_lies hb2 lF1 (lies_lt lF1)
 have lP2:=below_lies hb2 lP1 (lies_lt lP1)
 clear hb2 lF1 lP1 b1 GT1 GT
 rcases Bool.eq_false_or_eq_true (treeB (okB true) styleB ns) with hTr | hTr
 rotate_left
 ·rw [hTr]
  clear hTr lF2
  go_wp2_with (first | ((with_reducible show wpList _ _ _ (⟨none,Op.store 29 (Operand.tmp 6) _,_,_,_,_⟩ :: _) _ _);refine wpList_putA rfl _ _ _ rfl rfl (w.heap.size + 1) 0 5 (#[.slice none 0 0,.slice none 0 0,.slice none 0 0,.slice none 0 0,.int .i64 0]:Array Value).toList _ _ rfl rfl lP2 rfl (by kernel_rfl) (by kernel_rfl) (by kernel_rfl) ?_;intro W5 p9 l9 n9;refine stayT ?_) | fail)
  have l5:W5.heap[w.heap.size + 1]? = some (.cells #[.slice none 0 0,.slice none 0 0,.slice none 0 0,.slice none 0 0,.int .i64 0] 29 (0,0)):=l9.trans (congrArg (fun c=>some (Obj.cells c 29 (0,0))) (show _ = (#[.slice none 0 0,.slice none 0 0,.slice none 0 0,.slice none 0 0,.int .i64 0]:Array Value) by kernel_rfl))
  have b5:=p9.below b2 (by omega)
  unfold StayT
  clear l9 p9 n9
  go_wp2
  exact bodyPost_ret (v:=.tuple #[.agg #[.slice none 0 0,.slice none 0 0,.slice none 0 0,.slice none 0 0,.int .i64 0],.int .i64 1]) (results_row_tmp Tryz.results10 _ _ (w.heap.size + 1) _ _ _ _ _ rfl l5 Tryz.underlying29 rfl (by kernel_rfl) rfl) rfl (lay_zero b5 1)
 have HTR:Hid (treeB (okB true) styleB ns = true):=hTr
 rw [hTr]
 clear hTr
 go_wp2_with fail
 refine (l1In_any wd 0 100000 _).mono ?_
 rintro e w' ⟨rfl,hw'⟩
 have hw':=hw'.symm
 subst hw'
 rcases Bool.eq_false_or_eq_true (inB 0 100000 wd) with hI | hI
 rotate_left
 ·rw [hI]
  clear hI lF2
  go_wp2_with (first | ((with_reducible show wpList _ _ _ (⟨none,Op.store 29 (Operand.tmp 6) _,_,_,_,_⟩ :: _) _ _);refine wpList_putA rfl _ _ _ rfl rfl (w.heap.size + 1) 0 5 (#[.slice none 0 0,.slice none 0 0,.slice none 0 0,.slice none 0 0,.int .i64 0]:Array Value).toList _ _ rfl rfl lP2 rfl (by kernel_rfl) (by kernel_rfl) (by kernel_rfl) ?_;intro W5 p9 l9 n9;refine stayT ?_) | fail)
  have l5:W5.heap[w.heap.size + 1]? = some (.cells #[.slice none 0 0,.slice none 0 0,.slice none 0 0,.slice none 0 0,.int .i64 0] 29 (0,0)):=l9.trans (congrArg (fun c=>some (Obj.cells c 29 (0,0))) (show _ = (#[.slice none 0 0,.slice none 0 0,.slice none 0 0,.slice none 0 0,.int .i64 0]:Array Value) by kernel_rfl))
  have b5:=p9.below b2 (by omega)
  unfold StayT
  clear l9 p9 n9
  go_wp2
  exact bodyPost_ret (v:=.tuple #[.agg #[.slice none 0 0,.slice none 0 0,.slice none 0 0,.slice none 0 0,.int .i64 0],.int .i64 1]) (results_row_tmp Tryz.results10 _ _ (w.heap.size + 1) _ _ _ _ _ rfl l5 Tryz.underlying29 rfl (by kernel_rfl) rfl) rfl (lay_zero b5 1)
 rw [hI]
 clear hI
 have L5:Hid (Calls Tryz.prog 35 #[.slice (some ⟨nb,noff,none⟩) n cap] w2 fun e w'=>(∃ v,e = .returned (.tuple #[v,.bool (boxB ns)]) ∧ (boxB ns = true → OwnX w' w2.heap.size v (boxesL ns))) ∧ Below w2.heap.size w2 w'):=by
  show Calls _ _ _ _ _
  rw [HN.out]
  exact l5_any nb noff cap ns w2 (HR.out w2 b2) HTR.out
 have L5':=L5.out
 clear L5
 go_wp2_with fail
 refine L5'.mono ?_
 rintro e w3 ⟨⟨v,rfl,hv⟩,hb3⟩
 have b3:=b2.trans (hb3.mono b2.size)
 have lF3:=below_lies hb3 lF2 (lies_lt lF2)
 have lP3:=below_lies hb3 lP2 (lies_lt lP2)
 have hs23:=hb3.size
 have hs2:=b2.size
 have hP2lt:=lies_lt lP2
 clear hb3 lF2 lP2 b2 L5'
 rcases Bool.eq_false_or_eq_true (boxB ns) with hB | hB
 rotate_left
 ·rw [hB]
  clear hB hv lF3
  go_wp2_with (first | ((with_reducible show wpList _ _ _ (⟨none,Op.store 29 (Operand.tmp 6) _,_,_,_,_⟩ :: _) _ _);refine wpList_putA rfl _ _ _ rfl rfl (w.heap.size + 1) 0 5 (#[.slice none 0 0,.slice none 0 0,.slice none 0 0,.slice none 0 0,.int .i64 0]:Array Value).toList _ _ rfl rfl lP3 rfl (by kernel_rfl) (by kernel_rfl) (by kernel_rfl) ?_;intro W5 p9 l9 n9;refine stayT ?_) | fail)
  have l5:W5.heap[w.heap.size + 1]? = some (.cells #[.slice none 0 0,.slice none 0 0,.slice none 0 0,.slice none 0 0,.int .i64 0] 29 (0,0)):=l9.trans (congrArg (fun c=>some (Obj.cells c 29 (0,0))) (show _ = (#[.slice none 0 0,.slice none 0 0,.slice none 0 0,.slice none 0 0,.int .i64 0]:Array Value) by kernel_rfl))
  have b5:=p9.below b3 (by omega)
  unfold StayT
  clear l9 p9 n9
  go_wp2
  exact bodyPost_ret (v:=.tuple #[.agg #[.slice none 0 0,.slice none 0 0,.slice none 0 0,.slice none 0 0,.int .i64 0],.int .i64 2]) (results_row_tmp Tryz.results10 _ _ (w.heap.size + 1) _ _ _ _ _ rfl l5 Tryz.underlying29 rfl (by kernel_rfl) rfl) rfl (lay_zero b5 2)
 have hv:=hv hB
 have HB:Hid (boxB ns = true):=hB
 rw [hB]
 clear hB
 obtain ⟨hns,-⟩:=ns_ok HTR.out
 obtain ⟨⟨h1n,h40⟩,-⟩:=treeB_parts HTR.out
 have hkr:kindS (ns.getD 0 nd0).st = 1:=by
  have h:=HB.out
  unfold boxB at h
  simp only [Bool.and_eq_true,decide_eq_true_eq] at h
  exact h.1.2
 have hbok:boxesOkP ns = true:=by
  have h:=HB.out
  unfold boxB at h
  simp only [Bool.and_eq_true] at h
  exact h.2
 have hpos:=boxes_pos hns (by omega) hkr
 obtain ⟨gx,xcap,hvx⟩:=nOwn_some hv hpos
 obtain ⟨m,hm⟩:∃ m,m = (boxesL ns).length:=⟨_,rfl⟩
 rw [← hm] at hvx hpos
 subst hvx
 have HBR:Hid (∀ W:World,W.heap[gx]? = w3.heap[gx]? → BxRow W (some ⟨gx,0,none⟩) (boxesL ns)):=fun W hW=>by
  have ho:OwnX W w2.heap.size (.slice (some ⟨gx,0,none⟩) m xcap) (boxesL ns):=own_stand hv (fun b hb=>by
   have e:gx = b:=by simpa [Value.ownBlock] using hb
   subst e
   exact hW)
  obtain ⟨a9,c9,h1,h2⟩:=ho.row
  injection h1 with h1
  subst h1
  exact h2
 have hgx:gx < w3.heap.size:=(hv.lt gx rfl).2
 have hgx2:w2.heap.size ≤ gx:=(hv.lt gx rfl).1
 have HE:LeOk ⟨fa,fd,fn,fu,fb,ns,boxesL ns,nb,noff,n,cap,gx,0,m,xcap⟩:=le_ok hns h40 rfl rfl HN.out hm ⟨hF9.2.2.2.2.1,hF9.2.2.2.2.2.1,hF9.2.2.2.2.2.2.1,hF9.2.2.2.2.2.2.2.1,hF9.2.2.2.2.2.2.2.2.1,hF9.2.2.2.2.2.2.2.2.2⟩
 have hnb:nb < w3.heap.size:=by
  obtain ⟨y,hy⟩:∃ y,ns[0]? = some y:=⟨_,List.getElem?_eq_getElem (by omega)⟩
  exact range_lt (HR.out w3 b3 0 y hy)
 have HLE:Hid (LeAt w3 w3.heap.size ⟨fa,fd,fn,fu,fb,ns,boxesL ns,nb,noff,n,cap,gx,0,m,xcap⟩):=⟨hnb,hgx,HR.out w3 b3,fun i x hx=>by
  rcases HBR.out w3 rfl with h0 | ⟨b9,o9,h9,hc⟩
  ·show w3.rangeAt gx (0 + i * 4) (bxL x)
   have hx':(boxesL ns)[i]? = some x:=hx
   rw [h0] at hx'
   simp at hx'
  ·injection h9 with h9
   injection h9 with h9a h9b
   subst h9a h9b
   exact hc i x hx⟩
 have hsum:sumB ns (boxesL ns) ≤ 396:=breaks_all hns hkr (by omega) h40 (fun k hk hTk=>by
  obtain ⟨-,-,h⟩:=HTO.out
  have h9:=h k _ (List.getElem?_eq_getElem hk)
  have e:ns.getD k nd0 = ns[k]:=by rw [List.getD_eq_getElem?_getD,List.getElem?_eq_getElem hk];rfl
  rw [e]
  refine h9.2 ?_
  have h7:=(hns.texts k hk hTk).1
  rw [e] at h7
  exact (okB_yes h7).2) hbok
 obtain ⟨ll,nn,HK,hll,hnn⟩:=lay_all _ HE (lineW ⟨fa,fd,fn,fu,fb,ns,boxesL ns,nb,noff,n,cap,gx,0,m,xcap⟩) across_some clear_some clamp_some (fun l n k hk h=>float_of _ HE l n k hk clamp_some (content_all _ HE k hk) h) (fun i nd x y hx h1 h3 hnd hy=>line_le i nd x y hx hnd hy) 0 hpos
 have BLK:=block_of _ HE ll nn 0 hpos across_some clear_some clamp_some HK
 have hup0:upX (boxesL ns) 0 < 0:=by
  obtain ⟨x,hx⟩:∃ x,(boxesL ns)[0]? = some x:=⟨_,List.getElem?_eq_getElem (by omega)⟩
  rw [upX_of hx]
  exact (HE.up 0 x hx).2
 have hl396:ll ≤ 396:=by
  have h1:=Bud_le (wtL ⟨fa,fd,fn,fu,fb,ns,boxesL ns,nb,noff,n,cap,gx,0,m,xcap⟩ (lineW ⟨fa,fd,fn,fu,fb,ns,boxesL ns,nb,noff,n,cap,gx,0,m,xcap⟩)) (boxesL ns) m HE.ups 0 hpos hup0
  have h2:=wt_sum ⟨fa,fd,fn,fu,fb,ns,boxesL ns,nb,noff,n,cap,gx,0,m,xcap⟩
  have h3:sumR (wtL ⟨fa,fd,fn,fu,fb,ns,boxesL ns,nb,noff,n,cap,gx,0,m,xcap⟩ (lineW ⟨fa,fd,fn,fu,fb,ns,boxesL ns,nb,noff,n,cap,gx,0,m,xcap⟩)) m = sumB ns (boxesL ns):=by
   have h2':=h2
   simp only at h2'
   rw [← hm] at h2'
   exact h2'
  simp only at hll
  omega
 have hn80:nn ≤ 80:=by
  have h1:=Bud_le (fun _=>1) (boxesL ns) m HE.ups 0 hpos hup0
  have h2:∀ k,sumR (fun _=>1) k = k:=fun k=>by
   induction k with
   | zero=>rfl
   | succ k ih=>show sumR _ k + 1 = k + 1;rw [ih]
  have h3:=HE.m80
  simp only at hnn h3
  rw [h2] at h1
  omega
 have hm80:m ≤ 80:=HE.m80
 have hfont:w3.rangeAt w.heap.size 0 [.int .i64 fa,.int .i64 fd,.int .i64 fn,.int .i64 fu,.int .i64 fb]:=range9 lF3 0 rfl
 have lq3:w.heap.size < w3.heap.size:=lies_lt lF3
 have HM:Hid (m = (boxesL ns).length):=hm
 have HBLK:Hid (LayOk ⟨fa,fd,fn,fu,fb,ns,boxesL ns,nb,noff,n,cap,gx,0,m,xcap⟩ 36 ll (nn + 1) 0):=BLK
 clear hv HR HTO HTR HB hns h1n h40 hkr hbok HE hnb hsum HK hll hnn BLK hup0 hm hF9 HN
 go_upto_region 6 with fail
 go_cut [10] from 34 to 41 (fun p wx=>p = .pointer (some ⟨w3.heap.size + 1,0,none⟩) ∧ Ctx wx w3.heap.size (w3.heap.size + 1) w3.heap.size ⟨fa,fd,fn,fu,fb,ns,boxesL ns,nb,noff,n,cap,gx,0,m,xcap⟩ (cs0 m) ∧ Below w3.heap.size w3 wx)
 case first =>
  refine wp_region_held_drew (S:=fun W=>Below w3.heap.size w3 W) (by kernel_rfl) ((Below.refl _ _).drew) (fun hHeld=>?_)
  refine wpAnyH_take (i:=0) (oi:=⟨some 34,Op.load 48 (.tmp 3),48,"l9_page.go:195",#[],none⟩) (v:=.agg (#[.int .i64 fa,.int .i64 fd,.int .i64 fn,.int .i64 fu,.int .i64 fb])) rfl (by kernel_rfl) (by kernel_rfl) (by kernel_rfl) (fun _ _ _ h=>h) (yieldsIf_load_mid (by rfl) 48 _ rfl (w.heap.size) (0) rfl ([.int .i64 fa,.int .i64 fd,.int .i64 fn,.int .i64 fu,.int .i64 fb]) _ (fun wz hw=>fun j u hu=>(hw.cell (p:=⟨w.heap.size,0 + j,none⟩) (lq3)).trans (hfont j u hu)) Tryz.underlying48 rfl (by kernel_rfl)) hHeld ?_
  simp only [Act.put,List.setIfInBounds_toArray,List.set_cons_zero,List.set_cons_succ]
  refine wpAnyH_take (i:=1) (oi:=⟨some 35,Op.move (.tmp 1),23,"l9_page.go:195",#[],none⟩) (v:=.slice (some ⟨nb,noff,none⟩) n cap) rfl (by kernel_rfl) (by kernel_rfl) (by kernel_rfl) (fun _ _ _ h=>h) (Or.inl ⟨by rfl,by intro wz hSw;go_simp⟩) hHeld ?_
  simp only [Act.put,List.setIfInBounds_toArray,List.set_cons_zero,List.set_cons_succ]
  refine wpAnyH_take (i:=2) (oi:=⟨some 36,Op.move (.tmp 8),24,"l9_page.go:195",#[],none⟩) (v:=.slice (some ⟨gx,0,none⟩) m xcap) rfl (by kernel_rfl) (by kernel_rfl) (by kernel_rfl) (fun _ _ _ h=>h) (Or.inl ⟨by rfl,by intro wz hSw;go_simp⟩) hHeld ?_
  simp only [Act.put,List.setIfInBounds_toArray,List.set_cons_zero,List.set_cons_succ]
  refine wpAnyH_take (i:=3) (oi:=⟨some 37,Op.move (.tmp 8),24,"l9_page.go:195",#[],none⟩) (v:=.slice (some ⟨gx,0,none⟩) m xcap) rfl (by kernel_rfl) (by kernel_rfl) (by kernel_rfl) (fun _ _ _ h=>h) (Or.inl ⟨by rfl,by intro wz hSw;go_simp⟩) hHeld ?_
  simp only [Act.put,List.setIfInBounds_toArray,List.set_cons_zero,List.set_cons_succ]
  refine wpAnyH_take (i:=4) (oi:=⟨some 38,Op.call { callee:=Callee.builtin Builtin.len,args:=#[.tmp 37],argTypes:=#[24] },3,"l9_page.go:195",#[⟨3,.data⟩],none⟩) (v:=.int .i64 (m:Int)) rfl (by kernel_rfl) (by kernel_rfl) (by kernel_rfl) (fun _ _ _ h=>h) (Or.inl ⟨by rfl,by intro wz hSw;go_simp⟩) hHeld ?_
  simp only [Act.put,List.setIfInBounds_toArray,List.set_cons_zero,List.set_cons_succ]
  refine wpAnyH_ready (rs:=[5]) (by kernel_rfl) (by simp) ?_
  refine AllReadyH.cons (o:=⟨some 39,Op.makeSlice 25 (.tmp 38) (.tmp 38),25,"l9_page.go:195",#[⟨4,.data⟩,⟨4,.data⟩],none⟩) rfl (fun K hK=>?_) AllReadyH.nil
  rw [if_pos (by rfl)]
  refine wp_make9 _ _ rfl m rfl rfl hm80 ?_
  refine hK.out _ _ (hHeld.alloc hHeld.size _) (fun hHeld'=>?_)
  have fz:=heap_at w3.drew (.cells (intsV (List.replicate (m * 4) 0)).toArray 35) w3.heap.size rfl
  clear hK K
  try simp only [Act.put,List.setIfInBounds_toArray,List.set_cons_zero,List.set_cons_succ]
  refine wpAnyH_take (i:=6) (oi:=⟨some 40,Op.build 90 #[(0,.tmp 34),(1,.tmp 35),(2,.tmp 36),(3,.tmp 39)],90,"l9_page.go:195",#[⟨0,.data⟩,⟨1,.data⟩,⟨2,.data⟩,⟨5,.data⟩],none⟩) (v:=.agg #[.int .i64 fa,.int .i64 fd,.int .i64 fn,.int .i64 fu,.int .i64 fb,.slice (some ⟨nb,noff,none⟩) n cap,.slice (some ⟨gx,0,none⟩) m xcap,.slice (some ⟨w3.heap.size,0,none⟩) m m,.slice none 0 0,.slice none 0 0,.int .i64 0,.int .i64 0,.int .i64 0,.slice none 0 0,.bool false]) rfl (by kernel_rfl) (by kernel_rfl) (by kernel_rfl) (fun _ _ _ h=>h) (Or.inl ⟨by rfl,by intro wz hSw;go_simp⟩) hHeld' ?_
  simp only [Act.put,List.setIfInBounds_toArray,List.set_cons_zero,List.set_cons_succ]
  refine wpAnyH_ready (rs:=[7]) (by kernel_rfl) (by simp) ?_
  refine AllReadyH.cons (o:=⟨some 41,Op.box 90 (.tmp 40),88,"l9_page.go:195",#[⟨6,.data⟩],none⟩) rfl (fun K hK=>?_) AllReadyH.nil
  go_simp
  refine hK.out _ _ (hHeld'.alloc hHeld'.size _) (fun hHeld''=>?_)
  clear hK K
  try simp only [Act.put,List.setIfInBounds_toArray,List.set_cons_zero,List.set_cons_succ]
  refine wpAnyH_take (i:=8) (oi:=⟨some 10,Op.assign (.tmp 41),88,"l9_page.go:195",#[⟨7,.data⟩,⟨0,.phase⟩,⟨1,.phase⟩,⟨2,.phase⟩,⟨3,.phase⟩,⟨4,.phase⟩,⟨5,.phase⟩,⟨6,.phase⟩,⟨7,.phase⟩],none⟩) (v:=.pointer (some ⟨(w3.heap.size + 1),0,none⟩)) rfl (by kernel_rfl) (by kernel_rfl) (by kernel_rfl) (fun _ _ _ h=>h) (Or.inl ⟨by rfl,by intro wz hSw;go_simp⟩) hHeld'' ?_
  simp only [Act.put,List.setIfInBounds_toArray,List.set_cons_zero,List.set_cons_succ]
  refine wpAnyH_done (by kernel_rfl) ?_ _
  obtain ⟨W3,hW3⟩:∃ W,W = World.drew (World.alloc (World.alloc w3 (.cells (intsV (List.replicate (m * 4) 0)).toArray 35)) (.cells (#[.int .i64 fa,.int .i64 fd,.int .i64 fn,.int .i64 fu,.int .i64 fb,.slice (some ⟨nb,noff,none⟩) n cap,.slice (some ⟨gx,0,none⟩) m xcap,.slice (some ⟨w3.heap.size,0,none⟩) m m,.slice none 0 0,.slice none 0 0,.int .i64 0,.int .i64 0,.int .i64 0,.slice none 0 0,.bool false]) 90)):=⟨_,rfl⟩
  have X3:Ctx W3 w3.heap.size (w3.heap.size + 1) w3.heap.size ⟨fa,fd,fn,fu,fb,ns,boxesL ns,nb,noff,n,cap,gx,0,m,xcap⟩ (cs0 m):=by
   rw [hW3]
   exact ctx_new (Nat.le_succ _) (Nat.le_refl _) (heap_at (w3.alloc (.cells (intsV (List.replicate (m * 4) 0)).toArray 35)) _ _ (Array.size_push _)) (heap_in (w:=w3.alloc (.cells (intsV (List.replicate (m * 4) 0)).toArray 35)) (heap_at w3 _ _ rfl))
  have b3':Below w3.heap.size w3 W3:=by rw [hW3];exact hHeld''
  go_simp
  rw [← hW3]
  clear hW3 fz hHeld
  go_wp2_with fail
  go_meet
  case rel=>exact ⟨rfl,X3,b3'⟩
 case rest =>
  obtain ⟨rfl,X4,b4⟩:=hcut
  obtain ⟨W4,hW4⟩:∃ W,W = wc:=⟨_,rfl⟩
  subst hW4
  have BL:=HBLK.out _ _ _ _ 0 wd W4 X4 (HLE.out.below b4) (small_new m ll (nn + 1) (by omega) (by omega))
  clear hfont lF3
  go_wp2_with fail
  refine BL.mono ?_
  rintro e W5 ⟨rfl,c5,G5,n5⟩
  have hno5:c5.os.length ≤ 1000:=by have h1:=n5.2.2;have h3:(cs0 m).os.length = 0:=rfl;omega
  have SE:=settle_ctx W5 G5.ctx hno5
  clear BL
  go_wp2_with fail
  refine SE.mono ?_
  rintro e W6 ⟨rfl,y6,ps6,G6⟩
  have X6:=G6.ctx
  have G46:=G5.trans G6
  have b46:Below w3.heap.size W4 W6:=G46.below X4
  have b36:Below w3.heap.size w3 W6:=b4.trans b46
  have lP6:=below_lies b36 lP3 (by have:=lies_lt lP3;omega)
  obtain ⟨z10,-,-,-,z7,z8o,z9o,z14⟩:=X6.cells
  obtain ⟨al,capl,hvl,-,hrl,-⟩:=OwnL.form X6.ol
  obtain ⟨af,capf,hvf,-,hrf,-⟩:=OwnA.form X6.of
  have hol:=X6.ol
  have hlok:=X6.lok
  have hpl:=X6.places
  have hpsl:=X6.psl
  obtain ⟨c6,hc6⟩:∃ c,c = ({ c5 with y:=y6,up:=0,dn:=0,os:=[],vo:=.slice none 0 0,ps:=ps6 }:Cs):=⟨_,rfl⟩
  rw [← hc6] at hvl hvf hrl hrf hol hlok hpl hpsl z8o z9o z14 X6
  have hxs:c6.xs = c5.xs:=by rw [hc6]
  have hfs:c6.fs = c5.fs:=by rw [hc6]
  obtain ⟨nl,hnl⟩:∃ k,k = c6.xs.length:=⟨_,rfl⟩
  obtain ⟨nf,hnf⟩:∃ k,k = c6.fs.length:=⟨_,rfl⟩
  rw [← hnl] at hvl
  rw [← hnf] at hvf
  have z8:W6.cell? ⟨w3.heap.size + 1,8,none⟩ = some (.slice al nl capl):=z8o.trans (by rw [hvl])
  have z9:W6.cell? ⟨w3.heap.size + 1,9,none⟩ = some (.slice af nf capf):=z9o.trans (by rw [hvf])
  have hnl396:nl ≤ 396:=by have h1:=n5.1;have h3:(cs0 m).xs.length = 0:=rfl;rw [hnl,hxs];omega
  have hnf1:nf ≤ 1000:=by have h1:=n5.2.1;have h3:(cs0 m).fs.length = 0:=rfl;rw [hnf,hfs];omega
  have lg6:w3.heap.size + 1 < W6.heap.size:=lies_lt X6.lies
  have hps:(plOf c6.ps).length = m:=plOf_len m c6.ps hpsl
  have hs36:=b36.size
  have FT:Hid (∀ W,Below W6.heap.size W6 W → Calls Tryz.prog 38 #[.agg (#[.slice (some ⟨gx,0,none⟩) m xcap,.slice (some ⟨w3.heap.size,0,none⟩) m m,.slice al nl capl,.slice af nf capf,.int .i64 y6])] W fun e w'=>FitRet (plOf c6.ps) e ∧ Below W.heap.size W w'):=fun W hW=>fits_any (some ⟨gx,0,none⟩) (some ⟨w3.heap.size,0,none⟩) al af xcap m capl capf m m nl nf (plOf c6.ps) c6.xs c6.fs y6 W hps.symm hnl hnf (hpl.below hW) (hrl.below hW) (hrf.below hW) (by omega) (by omega) hnf1
  have FIN:Hid (∀ W:World,(∀ b,w2.heap.size ≤ b → b < W6.heap.size → W.heap[b]? = W6.heap[b]?) → Below w.heap.size w W → (∀ q ∈ plOf c6.ps,nearQ q = true) → LayRet w (.returned (.tuple #[.agg (#[.slice (some ⟨gx,0,none⟩) m xcap,.slice (some ⟨w3.heap.size,0,none⟩) m m,.slice al nl capl,.slice af nf capf,.int .i64 y6]),.int .i64 0])) W):=fun W hst bW hq=>by
   have hl':c6.xs.length = nl:=hnl.symm
   have hf':c6.fs.length = nf:=hnf.symm
   have X9:=X6.stand (w':=W) (fun b hb=>hst b (by have:=X6.own_base hb;omega) (X6.own_lt hb))
   have hbx:=HBR.out W ((hst gx hgx2 (by omega)).trans (b36.block gx hgx))
   have hpl9:=X9.places
   obtain ⟨al9,capl9,hvl9,-,hrl9,-,hsl9⟩:=OwnL.form X9.ol
   obtain ⟨af9,capf9,hvf9,-,hrf9,-,hsf9⟩:=OwnA.form X9.of
   rw [hvl] at hvl9
   rw [hvf] at hvf9
   injection hvl9 with e1 e2 e3
   injection hvf9 with e4 e5 e6
   subst e1 e4
   have hrow:=X9.ol
   rw [hvl] at hrow
   refine ⟨⟨some ⟨gx,0,none⟩,xcap,boxesL ns,some ⟨w3.heap.size,0,none⟩,m,plOf c6.ps,al,capl,c6.xs,af,capf,c6.fs,y6⟩,0,?_,⟨⟨hbx,hpl9,hrl9,hrf9⟩,?_,?_,?_,?_,?_,fun x hx=>(hlok x hx).2,hq,?_,?_,?_,?_,Nat.le_of_eq hps,?_⟩,bW⟩
   ·simp only [hl',hf',hps,← HM.out]
   ·show OwnL W w.heap.size (.slice al c6.xs.length capl) c6.xs
    unfold OwnL
    rw [hl'] at hrow ⊢
    exact own_lower hrow b3.size
   ·show (boxesL ns).length ≤ 80
    rw [← HM.out];exact hm80
   ·show (plOf c6.ps).length = (boxesL ns).length
    rw [hps,HM.out]
   ·show c6.xs.length ≤ 396
    omega
   ·show c6.fs.length ≤ 1000
    omega
   ·intro p hp
    injection hp with hp
    subst hp
    show w.heap.size ≤ gx
    omega
   ·intro p hp
    injection hp with hp
    subst hp
    exact b3.size
   ·intro p hp
    obtain ⟨g',h1,h2,-⟩:=hsl9 p hp
    rw [h1]
    exact Nat.le_trans b3.size h2
   ·intro p hp
    obtain ⟨g',h1,h2,-⟩:=hsf9 p hp
    rw [h1]
    exact Nat.le_trans b3.size h2
   ·intro k hk
    have hk':(Value.slice al nl capl).ownBlock = some k:=by rw [← hl'];exact hk
    have hbase:=World.ownsRow.lt hrow k hk'
    refine ⟨fun p hp=>?_,fun p hp=>?_,fun p hp=>?_⟩
    ·injection hp with hp
     subst hp
     show gx ≠ k
     omega
    ·injection hp with hp
     subst hp
     intro e
     exact own_ne hrow X9.pl (by decide) (by rw [hk',← e])
    ·have hof:=X9.of
     rw [hvf] at hof
     rcases hof.2 with ⟨h0,-⟩ | ⟨g,cap,cur,h0,-,hg,-⟩
     ·injection h0 with h0 _ _
      rw [h0] at hp
      cases hp
     ·injection h0 with h0 _ _
      rw [h0] at hp
      injection hp with hp
      subst hp
      intro e
      exact own_ne hrow hg (by decide) (by rw [hk',← e])
  generalize c6.many = mny at z14
  clear hvl hvf hrl hrf hol hlok hpl hpsl z8o z9o X6 hxs hfs hnl hnf hps hc6 G5 G6 G46 n5 hno5 SE b46 HBLK HLE HBR HM X4 hgx hgx2
  go_upto_region 9 with fail
  go_cut [11] from 47 to 64 (fun p wx=>p = .pointer (some ⟨W6.heap.size,0,none⟩) ∧ wx.heap[W6.heap.size]? = some (.cells (#[.slice (some ⟨gx,0,none⟩) m xcap,.slice (some ⟨w3.heap.size,0,none⟩) m m,.slice al nl capl,.slice af nf capf,.int .i64 y6]) 29 (0,0)) ∧ Below W6.heap.size W6 wx)
  case first =>
   refine wp_region_held_drew (S:=fun W=>Below W6.heap.size W6 W) (by kernel_rfl) ((Below.refl _ _).drew) (fun hHeld=>?_)
   refine wpAnyH_take (i:=0) (oi:=⟨some 47,Op.move (.tmp 8),24,"l9_page.go:198",#[],none⟩) (v:=.slice (some ⟨gx,0,none⟩) m xcap) rfl (by kernel_rfl) (by kernel_rfl) (by kernel_rfl) (fun _ _ _ h=>h) (Or.inl ⟨by rfl,by intro wz hSw;go_simp⟩) hHeld ?_
   simp only [Act.put,List.setIfInBounds_toArray,List.set_cons_zero,List.set_cons_succ]
   refine wpAnyH_take (i:=1) (oi:=⟨some 48,Op.move (.tmp 10),88,"l9_page.go:198",#[],none⟩) (v:=.pointer (some ⟨(w3.heap.size + 1),0,none⟩)) rfl (by kernel_rfl) (by kernel_rfl) (by kernel_rfl) (fun _ _ _ h=>h) (Or.inl ⟨by rfl,by intro wz hSw;go_simp⟩) hHeld ?_
   simp only [Act.put,List.setIfInBounds_toArray,List.set_cons_zero,List.set_cons_succ]
   refine wpAnyH_take (i:=2) (oi:=⟨some 49,Op.nilCheck (.tmp 48),0,"l9_page.go:198",#[⟨1,.data⟩],none⟩) (v:=.pointer (some ⟨(w3.heap.size + 1),0,none⟩)) rfl (by kernel_rfl) (by kernel_rfl) (by kernel_rfl) (fun _ _ _ h=>h) (Or.inl ⟨by rfl,by intro wz hSw;go_simp⟩) hHeld ?_
   simp only [Act.put,List.setIfInBounds_toArray,List.set_cons_zero,List.set_cons_succ]
   refine wpAnyH_take (i:=3) (oi:=⟨some 50,Op.fieldAddr 90 (.tmp 49) 3,0,"l9_page.go:198",#[⟨2,.data⟩],none⟩) (v:=.pointer (some ⟨(w3.heap.size + 1),7,none⟩)) rfl (by kernel_rfl) (by kernel_rfl) (by kernel_rfl) (fun _ _ _ h=>h) (Or.inl ⟨by rfl,by intro wz hSw;go_simp⟩) hHeld ?_
   simp only [Act.put,List.setIfInBounds_toArray,List.set_cons_zero,List.set_cons_succ]
   refine wpAnyH_take (i:=4) (oi:=⟨some 51,Op.load 25 (.tmp 50),25,"l9_page.go:198",#[⟨3,.data⟩],none⟩) (v:=.slice (some ⟨w3.heap.size,0,none⟩) m m) rfl (by kernel_rfl) (by kernel_rfl) (by kernel_rfl) (fun _ _ _ h=>h) (Or.inl ⟨by rfl,by intro wz hSw;have hq:wz.cell? ⟨(w3.heap.size + 1),7,none⟩ = some (.slice (some ⟨w3.heap.size,0,none⟩) m m):=(hSw.cell (p:=⟨(w3.heap.size + 1),7,none⟩) (lg6)).trans z7;clear hSw;go_simp⟩) hHeld ?_
   simp only [Act.put,List.setIfInBounds_toArray,List.set_cons_zero,List.set_cons_succ]
   refine wpAnyH_take (i:=5) (oi:=⟨some 52,Op.move (.tmp 10),88,"l9_page.go:198",#[],none⟩) (v:=.pointer (some ⟨(w3.heap.size + 1),0,none⟩)) rfl (by kernel_rfl) (by kernel_rfl) (by kernel_rfl) (fun _ _ _ h=>h) (Or.inl ⟨by rfl,by intro wz hSw;go_simp⟩) hHeld ?_
   simp only [Act.put,List.setIfInBounds_toArray,List.set_cons_zero,List.set_cons_succ]
   refine wpAnyH_take (i:=6) (oi:=⟨some 53,Op.nilCheck (.tmp 52),0,"l9_page.go:198",#[⟨5,.data⟩],none⟩) (v:=.pointer (some ⟨(w3.heap.size + 1),0,none⟩)) rfl (by kernel_rfl) (by kernel_rfl) (by kernel_rfl) (fun _ _ _ h=>h) (Or.inl ⟨by rfl,by intro wz hSw;go_simp⟩) hHeld ?_
   simp only [Act.put,List.setIfInBounds_toArray,List.set_cons_zero,List.set_cons_succ]
   refine wpAnyH_take (i:=7) (oi:=⟨some 54,Op.fieldAddr 90 (.tmp 53) 4,0,"l9_page.go:198",#[⟨6,.data⟩],none⟩) (v:=.pointer (some ⟨(w3.heap.size + 1),8,none⟩)) rfl (by kernel_rfl) (by kernel_rfl) (by kernel_rfl) (fun _ _ _ h=>h) (Or.inl ⟨by rfl,by intro wz hSw;go_simp⟩) hHeld ?_
   simp only [Act.put,List.setIfInBounds_toArray,List.set_cons_zero,List.set_cons_succ]
   refine wpAnyH_take (i:=8) (oi:=⟨some 55,Op.load 26 (.tmp 54),26,"l9_page.go:198",#[⟨7,.data⟩],none⟩) (v:=.slice al nl capl) rfl (by kernel_rfl) (by kernel_rfl) (by kernel_rfl) (fun _ _ _ h=>h) (Or.inl ⟨by rfl,by intro wz hSw;have hq:wz.cell? ⟨(w3.heap.size + 1),8,none⟩ = some (.slice al nl capl):=(hSw.cell (p:=⟨(w3.heap.size + 1),8,none⟩) (lg6)).trans z8;clear hSw;go_simp⟩) hHeld ?_
   simp only [Act.put,List.setIfInBounds_toArray,List.set_cons_zero,List.set_cons_succ]
   refine wpAnyH_take (i:=9) (oi:=⟨some 56,Op.move (.tmp 10),88,"l9_page.go:198",#[],none⟩) (v:=.pointer (some ⟨(w3.heap.size + 1),0,none⟩)) rfl (by kernel_rfl) (by kernel_rfl) (by kernel_rfl) (fun _ _ _ h=>h) (Or.inl ⟨by rfl,by intro wz hSw;go_simp⟩) hHeld ?_
   simp only [Act.put,List.setIfInBounds_toArray,List.set_cons_zero,List.set_cons_succ]
   refine wpAnyH_take (i:=10) (oi:=⟨some 57,Op.nilCheck (.tmp 56),0,"l9_page.go:198",#[⟨9,.data⟩],none⟩) (v:=.pointer (some ⟨(w3.heap.size + 1),0,none⟩)) rfl (by kernel_rfl) (by kernel_rfl) (by kernel_rfl) (fun _ _ _ h=>h) (Or.inl ⟨by rfl,by intro wz hSw;go_simp⟩) hHeld ?_
   simp only [Act.put,List.setIfInBounds_toArray,List.set_cons_zero,List.set_cons_succ]
   refine wpAnyH_take (i:=11) (oi:=⟨some 58,Op.fieldAddr 90 (.tmp 57) 5,0,"l9_page.go:198",#[⟨10,.data⟩],none⟩) (v:=.pointer (some ⟨(w3.heap.size + 1),9,none⟩)) rfl (by kernel_rfl) (by kernel_rfl) (by kernel_rfl) (fun _ _ _ h=>h) (Or.inl ⟨by rfl,by intro wz hSw;go_simp⟩) hHeld ?_
   simp only [Act.put,List.setIfInBounds_toArray,List.set_cons_zero,List.set_cons_succ]
   refine wpAnyH_take (i:=12) (oi:=⟨some 59,Op.load 27 (.tmp 58),27,"l9_page.go:198",#[⟨11,.data⟩],none⟩) (v:=.slice af nf capf) rfl (by kernel_rfl) (by kernel_rfl) (by kernel_rfl) (fun _ _ _ h=>h) (Or.inl ⟨by rfl,by intro wz hSw;have hq:wz.cell? ⟨(w3.heap.size + 1),9,none⟩ = some (.slice af nf capf):=(hSw.cell (p:=⟨(w3.heap.size + 1),9,none⟩) (lg6)).trans z9;clear hSw;go_simp⟩) hHeld ?_
   simp only [Act.put,List.setIfInBounds_toArray,List.set_cons_zero,List.set_cons_succ]
   refine wpAnyH_take (i:=13) (oi:=⟨some 60,Op.move (.tmp 10),88,"l9_page.go:198",#[],none⟩) (v:=.pointer (some ⟨(w3.heap.size + 1),0,none⟩)) rfl (by kernel_rfl) (by kernel_rfl) (by kernel_rfl) (fun _ _ _ h=>h) (Or.inl ⟨by rfl,by intro wz hSw;go_simp⟩) hHeld ?_
   simp only [Act.put,List.setIfInBounds_toArray,List.set_cons_zero,List.set_cons_succ]
   refine wpAnyH_take (i:=14) (oi:=⟨some 61,Op.nilCheck (.tmp 60),0,"l9_page.go:198",#[⟨13,.data⟩],none⟩) (v:=.pointer (some ⟨(w3.heap.size + 1),0,none⟩)) rfl (by kernel_rfl) (by kernel_rfl) (by kernel_rfl) (fun _ _ _ h=>h) (Or.inl ⟨by rfl,by intro wz hSw;go_simp⟩) hHeld ?_
   simp only [Act.put,List.setIfInBounds_toArray,List.set_cons_zero,List.set_cons_succ]
   refine wpAnyH_take (i:=15) (oi:=⟨some 62,Op.fieldAddr 90 (.tmp 61) 6,0,"l9_page.go:198",#[⟨14,.data⟩],none⟩) (v:=.pointer (some ⟨(w3.heap.size + 1),10,none⟩)) rfl (by kernel_rfl) (by kernel_rfl) (by kernel_rfl) (fun _ _ _ h=>h) (Or.inl ⟨by rfl,by intro wz hSw;go_simp⟩) hHeld ?_
   simp only [Act.put,List.setIfInBounds_toArray,List.set_cons_zero,List.set_cons_succ]
   refine wpAnyH_take (i:=16) (oi:=⟨some 63,Op.load 3 (.tmp 62),3,"l9_page.go:198",#[⟨15,.data⟩],none⟩) (v:=.int .i64 y6) rfl (by kernel_rfl) (by kernel_rfl) (by kernel_rfl) (fun _ _ _ h=>h) (Or.inl ⟨by rfl,by intro wz hSw;have hq:wz.cell? ⟨(w3.heap.size + 1),10,none⟩ = some (.int .i64 y6):=(hSw.cell (p:=⟨(w3.heap.size + 1),10,none⟩) (lg6)).trans z10;clear hSw;go_simp⟩) hHeld ?_
   simp only [Act.put,List.setIfInBounds_toArray,List.set_cons_zero,List.set_cons_succ]
   refine wpAnyH_take (i:=17) (oi:=⟨some 64,Op.build 29 #[(0,.tmp 47),(1,.tmp 51),(2,.tmp 55),(3,.tmp 59),(4,.tmp 63)],29,"l9_page.go:198",#[⟨0,.data⟩,⟨4,.data⟩,⟨8,.data⟩,⟨12,.data⟩,⟨16,.data⟩],none⟩) (v:=.agg #[.slice (some ⟨gx,0,none⟩) m xcap,.slice (some ⟨w3.heap.size,0,none⟩) m m,.slice al nl capl,.slice af nf capf,.int .i64 y6]) rfl (by kernel_rfl) (by kernel_rfl) (by kernel_rfl) (fun _ _ _ h=>h) (Or.inl ⟨by rfl,by intro wz hSw;go_simp⟩) hHeld ?_
   simp only [Act.put,List.setIfInBounds_toArray,List.set_cons_zero,List.set_cons_succ]
   refine wpAnyH_ready (rs:=[18]) (by kernel_rfl) (by simp) ?_
   refine AllReadyH.cons (o:=⟨some 11,Op.alloc 29,0,"l9_page.go:198",#[],none⟩) rfl (fun K hK=>?_) AllReadyH.nil
   go_simp
   refine hK.out _ _ (hHeld.alloc hHeld.size _) (fun hHeld'=>?_)
   have fz:=heap_at W6.drew (.cells #[.slice none 0 0,.slice none 0 0,.slice none 0 0,.slice none 0 0,.int .i64 0] 29) W6.heap.size rfl
   clear hK K
   try simp only [Act.put,List.setIfInBounds_toArray,List.set_cons_zero,List.set_cons_succ]
   refine wpAnyH_ready (rs:=[19]) (by kernel_rfl) (by simp) ?_
   refine AllReadyH.cons (o:=⟨none,Op.store 29 (.tmp 11) (.tmp 64),0,"l9_page.go:198",#[⟨18,.data⟩,⟨17,.data⟩,⟨0,.phase⟩,⟨1,.phase⟩,⟨2,.phase⟩,⟨3,.phase⟩,⟨4,.phase⟩,⟨5,.phase⟩,⟨6,.phase⟩,⟨7,.phase⟩,⟨8,.phase⟩,⟨9,.phase⟩,⟨10,.phase⟩,⟨11,.phase⟩,⟨12,.phase⟩,⟨13,.phase⟩,⟨14,.phase⟩,⟨15,.phase⟩,⟨16,.phase⟩,⟨17,.phase⟩,⟨18,.phase⟩],none⟩) rfl (fun K hK=>?_) AllReadyH.nil
   rw [if_pos (by rfl)]
   refine wp_put9 29 _ _ rfl rfl W6.heap.size 0 5 (#[.slice (some ⟨gx,0,none⟩) m xcap,.slice (some ⟨w3.heap.size,0,none⟩) m m,.slice al nl capl,.slice af nf capf,.int .i64 y6]).toList _ _ rfl rfl fz rfl (by kernel_rfl) (by kernel_rfl) (by kernel_rfl) ?_
   intro W7 p9 l9
   have l7:W7.heap[W6.heap.size]? = some (.cells (#[.slice (some ⟨gx,0,none⟩) m xcap,.slice (some ⟨w3.heap.size,0,none⟩) m m,.slice al nl capl,.slice af nf capf,.int .i64 y6]) 29 (0,0)):=l9.trans (congrArg (fun c=>some (Obj.cells c 29 (0,0))) (show _ = (#[.slice (some ⟨gx,0,none⟩) m xcap,.slice (some ⟨w3.heap.size,0,none⟩) m m,.slice al nl capl,.slice af nf capf,.int .i64 y6]:Array Value) by kernel_rfl))
   refine hK.out _ _ (p9.below hHeld' (Nat.le_refl _)) (fun hHeld''=>?_)
   clear hK K
   try simp only [Act.put,List.setIfInBounds_toArray,List.set_cons_zero,List.set_cons_succ]
   refine wpAnyH_done (by kernel_rfl) ?_ _
   have b7:Below W6.heap.size W6 W7:=hHeld''
   clear hHeld fz p9 l9
   go_wp2_with fail
   go_meet
   case rel=>exact ⟨rfl,l7,b7⟩
  case rest =>
   obtain ⟨rfl,l7,b7⟩:=hcut
   obtain ⟨W7,hW7⟩:∃ W,W = wc:=⟨_,rfl⟩
   subst hW7
   have lP7:=below_lies b7 lP6 (lies_lt lP6)
   have z147:W7.cell? ⟨w3.heap.size + 1,14,none⟩ = some (.bool mny):=(b7.cell (p:=⟨w3.heap.size + 1,14,none⟩) lg6).trans z14
   have B7:Below w.heap.size w W7:=b3.trans ((b36.trans (b7.mono hs36)).mono b3.size)
   have hs7:=B7.size
   have FT7:=FT.out W7 b7
   have i0:W7.cell? ⟨W6.heap.size,0,none⟩ = some (.slice (some ⟨gx,0,none⟩) m xcap):=(lies_cell l7 0).trans rfl
   have i1:W7.cell? ⟨W6.heap.size,1,none⟩ = some (.slice (some ⟨w3.heap.size,0,none⟩) m m):=(lies_cell l7 1).trans rfl
   have i2:W7.cell? ⟨W6.heap.size,2,none⟩ = some (.slice al nl capl):=(lies_cell l7 2).trans rfl
   have i3:W7.cell? ⟨W6.heap.size,3,none⟩ = some (.slice af nf capf):=(lies_cell l7 3).trans rfl
   have i4:W7.cell? ⟨W6.heap.size,4,none⟩ = some (.int .i64 y6):=(lies_cell l7 4).trans rfl
   clear z10 z7 z8 z9 z14 lP6 FT b4
   cases mny
   rotate_left
   ·clear FT7 i0 i1 i2 i3 i4
    go_wp2_with (first | ((with_reducible show wpList _ _ _ (⟨none,Op.store 29 (Operand.tmp 6) _,_,_,_,_⟩ :: _) _ _);refine wpList_putA rfl _ _ _ rfl rfl (w.heap.size + 1) 0 5 (#[.slice none 0 0,.slice none 0 0,.slice none 0 0,.slice none 0 0,.int .i64 0]:Array Value).toList _ _ rfl rfl lP7 rfl (by kernel_rfl) (by kernel_rfl) (by kernel_rfl) ?_;intro W5 p9 l9 n9;refine stayT ?_) | fail)
    have l5:W5.heap[w.heap.size + 1]? = some (.cells #[.slice none 0 0,.slice none 0 0,.slice none 0 0,.slice none 0 0,.int .i64 0] 29 (0,0)):=l9.trans (congrArg (fun c=>some (Obj.cells c 29 (0,0))) (show _ = (#[.slice none 0 0,.slice none 0 0,.slice none 0 0,.slice none 0 0,.int .i64 0]:Array Value) by kernel_rfl))
    have b5:=p9.below B7 (by omega)
    unfold StayT
    clear l9 p9 n9
    go_wp2
    exact bodyPost_ret (v:=.tuple #[.agg #[.slice none 0 0,.slice none 0 0,.slice none 0 0,.slice none 0 0,.int .i64 0],.int .i64 3]) (results_row_tmp Tryz.results10 _ _ (w.heap.size + 1) _ _ _ _ _ rfl l5 Tryz.underlying29 rfl (by kernel_rfl) rfl) rfl (lay_zero b5 3)
   go_wp2_with fail
   refine FT7.mono ?_
   rintro e W8 ⟨⟨bb,rfl,hbb⟩,hb8⟩
   have b8:=b7.trans (hb8.mono b7.size)
   have B8:Below w.heap.size w W8:=B7.trans (hb8.mono B7.size)
   have lP8:=below_lies hb8 lP7 (lies_lt lP7)
   have l8:=below_lies hb8 l7 (lies_lt l7)
   clear i0 i1 i2 i3 i4 FT7 z147
   cases bb
   ·skip
    go_wp2_with (first | ((with_reducible show wpList _ _ _ (⟨none,Op.store 29 (Operand.tmp 6) _,_,_,_,_⟩ :: _) _ _);refine wpList_putA rfl _ _ _ rfl rfl (w.heap.size + 1) 0 5 (#[.slice none 0 0,.slice none 0 0,.slice none 0 0,.slice none 0 0,.int .i64 0]:Array Value).toList _ _ rfl rfl lP8 rfl (by kernel_rfl) (by kernel_rfl) (by kernel_rfl) ?_;intro W5 p9 l9 n9;refine stayT ?_) | fail)
    have l5:W5.heap[w.heap.size + 1]? = some (.cells #[.slice none 0 0,.slice none 0 0,.slice none 0 0,.slice none 0 0,.int .i64 0] 29 (0,0)):=l9.trans (congrArg (fun c=>some (Obj.cells c 29 (0,0))) (show _ = (#[.slice none 0 0,.slice none 0 0,.slice none 0 0,.slice none 0 0,.int .i64 0]:Array Value) by kernel_rfl))
    have b5:=p9.below B8 (by omega)
    unfold StayT
    clear l9 p9 n9
    go_wp2
    exact bodyPost_ret (v:=.tuple #[.agg #[.slice none 0 0,.slice none 0 0,.slice none 0 0,.slice none 0 0,.int .i64 0],.int .i64 3]) (results_row_tmp Tryz.results10 _ _ (w.heap.size + 1) _ _ _ _ _ rfl l5 Tryz.underlying29 rfl (by kernel_rfl) rfl) rfl (lay_zero b5 3)
   have FN:=FIN.out
   have hq:=hbb rfl
   have i0:W8.cell? ⟨W6.heap.size,0,none⟩ = some (.slice (some ⟨gx,0,none⟩) m xcap):=(lies_cell l8 0).trans rfl
   have i1:W8.cell? ⟨W6.heap.size,1,none⟩ = some (.slice (some ⟨w3.heap.size,0,none⟩) m m):=(lies_cell l8 1).trans rfl
   have i2:W8.cell? ⟨W6.heap.size,2,none⟩ = some (.slice al nl capl):=(lies_cell l8 2).trans rfl
   have i3:W8.cell? ⟨W6.heap.size,3,none⟩ = some (.slice af nf capf):=(lies_cell l8 3).trans rfl
   have i4:W8.cell? ⟨W6.heap.size,4,none⟩ = some (.int .i64 y6):=(lies_cell l8 4).trans rfl
   have HQ:Hid (∀ q ∈ plOf c6.ps,nearQ q = true):=hq
   have HFN:Hid (∀ W:World,(∀ b,w2.heap.size ≤ b → b < W6.heap.size → W.heap[b]? = W6.heap[b]?) → Below w.heap.size w W → (∀ q ∈ plOf c6.ps,nearQ q = true) → LayRet w (.returned (.tuple #[.agg (#[.slice (some ⟨gx,0,none⟩) m xcap,.slice (some ⟨w3.heap.size,0,none⟩) m m,.slice al nl capl,.slice af nf capf,.int .i64 y6]),.int .i64 0])) W):=FN
   have hlt6:w.heap.size + 1 < W6.heap.size:=by omega
   clear FIN FN hq hbb
   go_wp2_with (first | ((with_reducible show wpList _ _ _ (⟨none,Op.store 29 (Operand.tmp 6) _,_,_,_,_⟩ :: _) _ _);refine wpList_putA rfl _ _ _ rfl rfl (w.heap.size + 1) 0 5 (#[.slice (some ⟨gx,0,none⟩) m xcap,.slice (some ⟨w3.heap.size,0,none⟩) m m,.slice al nl capl,.slice af nf capf,.int .i64 y6]:Array Value).toList _ _ rfl rfl lP8 rfl (by kernel_rfl) (by kernel_rfl) (by kernel_rfl) ?_;intro W9 p9 l9 n9;refine stayT ?_) | fail)
   have l10:W9.heap[w.heap.size + 1]? = some (.cells (#[.slice (some ⟨gx,0,none⟩) m xcap,.slice (some ⟨w3.heap.size,0,none⟩) m m,.slice al nl capl,.slice af nf capf,.int .i64 y6]) 29 (0,0)):=l9.trans (congrArg (fun c=>some (Obj.cells c 29 (0,0))) (show _ = (#[.slice (some ⟨gx,0,none⟩) m xcap,.slice (some ⟨w3.heap.size,0,none⟩) m m,.slice al nl capl,.slice af nf capf,.int .i64 y6]:Array Value) by kernel_rfl))
   have RES:=HFN.out W9 (fun b h1 h2=>(p9.other b (by omega)).trans (b8.block b h2)) (p9.below B8 (by omega)) HQ.out
   unfold StayT
   clear l9 p9 n9 HFN HQ
   go_wp2
   exact bodyPost_ret (v:=.tuple #[.agg (#[.slice (some ⟨gx,0,none⟩) m xcap,.slice (some ⟨w3.heap.size,0,none⟩) m m,.slice al nl capl,.slice af nf capf,.int .i64 y6]),.int .i64 0]) (results_row_tmp Tryz.results10 _ _ (w.heap.size + 1) _ _ _ _ _ rfl l10 Tryz.underlying29 rfl (by kernel_rfl) rfl) rfl RES
theorem below_two9 {w w':World} {o o':Obj} (h:((w.alloc o).alloc o').grownBy w' (some (w.heap.size + 1))):Below w.heap.size w w':=by
 have h':((w.alloc o).alloc o').grownBy w' (some (w.alloc o).heap.size):=by simpa using h
 exact ((Below.refl w.heap.size w).alloc (Nat.le_refl _) o).trans ((below_new h').mono (by simp))
theorem cur_two9 (w:World) (o:Obj) (a:Option Addr) (len cap:Nat) (hl:len ≤ 1048576) (h:RowB w a len) :
  CurOk ((w.alloc o).alloc (.cells #[.slice a len cap,.int .i64 0,.int .u64 0] 46)) (w.heap.size + 1) a len cap 0:=by
 have:=cur_new (w.alloc o) a len cap hl (h.below ((Below.refl w.heap.size w).alloc (Nat.le_refl _) o))
 simpa using this
theorem own_set9 {w:World} {B:Nat} {v:Value} {ns:List Nd} (h:OwnN w B v ns) {p:Addr} (hp:p.block < B) (u:Value):OwnN (w.setCell p u) B v ns:=ownsRow_setCell_below h hp u
theorem own_low9 {w:World} {B B':Nat} {v:Value} {ns:List Nd} (h:OwnN w B v ns) (hB:B' ≤ B):OwnN w B' v ns:=by
 refine ⟨h.1,?_⟩
 rcases h.2 with h' | ⟨g,cap,cur,h1,h2,h3⟩
 ·exact .inl h'
 ·exact .inr ⟨g,cap,cur,h1,Nat.le_trans hB h2,h3⟩
set_option maxRecDepth 100000 in
set_option maxHeartbeats 4000000 in
theorem drawLay_any (a:Option Addr) (len cap:Nat) (w:World) (hl:len ≤ 1048576) (h:RowB w a len) :
  Calls Tryz.prog 9 #[.slice a len cap] w fun e w'=>∃ (fa fd fn fu fb:Int) (v:Value) (ns:List Nd) (wd:Int),e = .returned (.tuple #[.agg #[.int .i64 fa,.int .i64 fd,.int .i64 fn,.int .i64 fu,.int .i64 fb],v,.int .i64 wd]) ∧ OwnN w' w.heap.size v ns ∧ TrOk ns ∧ Below w.heap.size w w':=by
 have hC0:=cur_two9 w (.cells #[.int .i64 0,.int .i64 0,.int .i64 0,.int .i64 0,.int .i64 0] 48) a len cap hl h
 have FA:=font_any (w.heap.size + 1) len cap 0 a _ (by omega) hC0
 have R0:=(fontAt_new w 0 0 0 0 0).below ((Below.refl _ _).alloc (Nat.le_refl _) (.cells #[.slice a len cap,.int .i64 0,.int .u64 0] 46))
 clear hC0
 go_enter Tryz.func9,Tryz.ntmps9
 go_wp2_with fail
 refine FA.mono ?_
 rintro e w1 ⟨fa,fd,fn,fu,fb,rfl,C1,G1⟩
 have B1:=below_two9 G1
 have R1:=FontAt.grown (b:=w.heap.size + 1) R0 G1 (by omega)
 have hs1:w.heap.size + 2 ≤ w1.heap.size:=by have:=G1.size;simp at this;omega
 have b1:=(Below.refl w1.heap.size w1).alloc (Nat.le_refl _) (.cells #[.int .i64 fa,.int .i64 fd,.int .i64 fn,.int .i64 fu,.int .i64 fb] 48)
 have L1:=fontAt_new w1 fa fd fn fu fb
 have R2:=R1.below b1
 have C2:=C1.grown b1
 have B2:=B1.trans (b1.mono B1.size)
 obtain ⟨W2,hW2⟩:∃ W,W = w1.alloc (.cells #[.int .i64 fa,.int .i64 fd,.int .i64 fn,.int .i64 fu,.int .i64 fb] 48):=⟨_,rfl⟩
 rw [← hW2] at b1 L1 R2 C2 B2
 have hs2:w1.heap.size < W2.heap.size:=by rw [hW2];simp
 have TR:=tree_any (w.heap.size + 1) len cap 20 a W2 (by omega) C2
 clear FA R0 G1 C1 R1
 go_wp2_with fail
 rw [← hW2]
 clear hW2 b1
 refine TR.mono ?_
 rintro e w3 ⟨v,ns,rfl,O3,T3,C3,G3⟩
 have L3:=FontAt.grown (b:=w.heap.size + 1) L1 G3 (by omega)
 have R3:=FontAt.grown (b:=w.heap.size + 1) R2 G3 (by omega)
 have hs3:=G3.size
 have P4:=pick_any (w.heap.size + 1) len cap 20020 a 400 w3 (by omega) (C3.more (by omega)) (by omega) (by omega)
 clear TR L1 R2 C3
 go_wp2_with fail
 refine P4.mono ?_
 rintro e w4 ⟨x4,rfl,x40,x41,C4,G4⟩
 have O4:=own_gro O3 G4 (by omega)
 have L4:=FontAt.grown (b:=w.heap.size + 1) L3 G4 (by omega)
 have R4:=FontAt.grown (b:=w.heap.size + 1) R3 G4 (by omega)
 have hs4:=G4.size
 have P5:=one_any (w.heap.size + 1) len cap 20022 a 30 w4 (by omega) C4 (by omega) (by omega)
 have G34:=grown_trans G3 G4
 clear P4 O3 L3 R3 C4 G3 G4
 go_wp2_with fail
 refine P5.mono ?_
 rintro e w5 ⟨v5,rfl,C5,G5⟩
 have O5:=own_gro O4 G5 (by omega)
 have L5:=FontAt.grown (b:=w.heap.size + 1) L4 G5 (by omega)
 have R5:=FontAt.grown (b:=w.heap.size + 1) R4 G5 (by omega)
 have G35:=grown_trans G34 G5
 have hs5:=G5.size
 clear P5 O4 L4 R4 G34 G5
 have HT:Hid (TrOk ns):=T3
 have b5:=(Below.refl w5.heap.size w5).alloc (Nat.le_refl _) (.cells #[.int .i64 (-1),.int .i64 0,.int .i64 100000,.int .i64 100001] 3)
 have AM:=among_any (w.heap.size + 1) len cap 20024 w5.heap.size 4 4 a _ (by omega) (C5.grown b5) (by omega) (by omega) (by omega) (four_cells w5 (-1) 0 100000 100001)
 have HB2:Hid (Below w.heap.size w W2):=B2
 have FIN:Hid (∀ W:World,W2.grownBy W (some (w.heap.size + 1)) → Below w.heap.size w W):=fun W hW=>B2.trans ⟨hW.os,hW.tape,hW.output,hW.size,fun k hk=>hW.block k (by omega) (fun e=>by injection e with e;omega)⟩
 clear B2 T3 C5
 cases v5
 ·have HO:Hid (OwnN w5 W2.heap.size v ns):=O5
  have HFB:=FIN.out _ G35
  obtain ⟨l0,l1,l2,l3,l4,l5,-⟩:=L5
  obtain ⟨r0,r1,r2,r3,r4,r5,r6,r7,r8,r9,r10⟩:=R5
  have n1:¬ w.heap.size = w1.heap.size:=by omega
  have n2:¬ w1.heap.size = w.heap.size:=by omega
  have hlow:w.heap.size < W2.heap.size:=by omega
  clear AM G35 b5 O5 hs5
  go_wp2
  refine bodyPost_ret (v:=.tuple #[.agg #[.int .i64 fa,.int .i64 fd,.int .i64 fn,.int .i64 fu,.int .i64 fb],v,.int .i64 _]) (by simp [results,Tryz.results9,go_sem, *];rfl) rfl ⟨_,_,_,_,_,_,ns,_,rfl,own_low9 (B:=W2.heap.size) ?_ (Nat.le_of_lt hlow),HT.out,?_⟩
  ·repeat (refine own_set9 ?_ (by simpa using hlow) _)
   exact HO.out
  ·repeat (refine Below.setCell ?_ (by first | (simp;done) | (simp;omega)) _)
   exact HFB
 ·have O6:OwnN (w5.alloc (.cells #[.int .i64 (-1),.int .i64 0,.int .i64 100000,.int .i64 100001] 3)) W2.heap.size v ns:=World.ownsRow.alloc O5 _
  have L6:=L5.below b5
  have R6:=R5.below b5
  have G36:=grown_trans G35 (grown_of_below (w.heap.size + 1) b5)
  clear O5 L5 R5 G35 b5
  go_wp2_with fail
  refine AM.mono ?_
  rintro e w7 ⟨x7,rfl,C7,G7⟩
  have HO:Hid (OwnN w7 W2.heap.size v ns):=own_gro O6 G7 (by omega)
  have HFB:=FIN.out _ (grown_trans G36 G7)
  obtain ⟨l0,l1,l2,l3,l4,l5,-⟩:=FontAt.grown (b:=w.heap.size + 1) L6 G7 (by omega)
  obtain ⟨r0,r1,r2,r3,r4,r5,r6,r7,r8,r9,r10⟩:=FontAt.grown (b:=w.heap.size + 1) R6 G7 (by omega)
  have n1:¬ w.heap.size = w1.heap.size:=by omega
  have n2:¬ w1.heap.size = w.heap.size:=by omega
  have hlow:w.heap.size < W2.heap.size:=by omega
  clear AM G36 G7 C7 L6 R6 O6 hs5
  go_wp2
  refine bodyPost_ret (v:=.tuple #[.agg #[.int .i64 fa,.int .i64 fd,.int .i64 fn,.int .i64 fu,.int .i64 fb],v,.int .i64 _]) (by simp [results,Tryz.results9,go_sem, *];rfl) rfl ⟨_,_,_,_,_,_,ns,_,rfl,own_low9 (B:=W2.heap.size) ?_ (Nat.le_of_lt hlow),HT.out,?_⟩
  ·repeat (refine own_set9 ?_ (by simpa using hlow) _)
   exact HO.out
  ·repeat (refine Below.setCell ?_ (by first | (simp;done) | (simp;omega)) _)
   exact HFB
end Go.Proofs.YtjnmloaopnbpgaaGreatDoor
