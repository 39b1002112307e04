/-
 The model's BoxesOf, for every row of nodes.
 The law's own looking again at a row of boxes that it has marked.
 Rows of boxes that a call made: read, marked, and held.
 GoodBoxes of both sides: slices.Equal over boxes, and the model's loop.
 KidsOf: of the model and of the program, for every row of boxes and every number.
 Boxes as plain data.
 Rows of floats in memory: what it is that a slice reads as some floats, and what keeps it so.
 The law's own copies of a row of floats.
 The law's own comparison of a row of floats with another of the same floats.
 Good floats: of the model and of the program, for every row of floats.
 Rows of floats that a call has made, and those of a row that a function picks, for every function that answers and leaves memory alone.
 Lines as plain data.
 Rows of lines in memory: what it is that a slice reads as some lines, and what keeps it so.
 The law's own copies of a row of lines.
 The law's own comparison of a row of lines with another of the same lines.
 Rows of lines that a call has made.
 Boxes as plain data.
 Rows of places in memory: what it is that a slice reads as some places, and what keeps it so.
 A slice of places of the law's own type that came in: what it holds.
 All that the layout stands on.
-/
import Derived.Test.YtjnmloaopnbpgaaGreatDoorMg15
import Derived.ArgAppend
namespace Go.Proofs.YtjnmloaopnbpgaaGreatDoor
open Go.ChangeShapes Go.WideShapes Go.ChangeAt Go.RowKit
set_option linter.unusedVariables false
theorem sh_ok {ns:List Nd} (h:treeB (okB true) styleB ns = true):∀ j,j < ns.length → isT ns j = false → inB 1 3 (ns.getD j nd0).st.sh = true:=by
 obtain ⟨_,hp⟩:=treeB_parts h
 intro j hj hT
 have:=(hp j hj).2
 unfold okN at this
 unfold isT at hT
 rw [if_neg (by rw [hT];decide)] at this
 simp only [Bool.and_eq_true,decide_eq_true_eq] at this
 have h2:=this.2
 unfold styleB gA at h2
 simp only [Bool.and_eq_true] at h2
 exact h2.1.1.1.1.1.1.1.1
theorem pass_one {ns:List Nd} (hns:NsOk ns) (h0:0 < ns.length) (hk:kindS (ns.getD 0 nd0).st = 1):passP ns 1 = ⟨[⟨1,0,-1,ByteArray.empty⟩],[0],ByteArray.empty,-1,true⟩:=by
 have hup:upL ns 0 = -1:=(hns.stands 0 h0).top rfl
 have har:arP ns (passP ns 0) 0 = -1:=by unfold arP;rw [hup,if_neg (by omega)]
 have h3:¬ (ns.getD 0 nd0).st.sh = 3:=fun h=>by unfold kindS at hk;rw [if_pos h] at hk;omega
 have hg:¬ goneP ns (passP ns 0) 0 = true:=by
  unfold goneP
  rw [decide_eq_true_eq]
  rintro (h | h)
  ·omega
  ·exact h3 h
 show takeP ns (passP ns 0) 0 = _
 unfold takeP
 rw [if_neg hg,if_neg (by rw [hns.root];decide),if_neg (by omega),har,hk]
 rfl
theorem kind_not {s:St} (hs:inB 1 3 s.sh = true) (h:¬ kindS s = 1):¬ (fixSt s).sh = 1 ∨ ((fixSt s).sh = 1 ∧ ¬ (fixSt s).fl = 0):=by
 by_cases h3:s.sh = 3
 ·left;rw [fix_none h3];omega
 ·by_cases h0:kindS s = 0
  ·left;rw [fix_inline h3 h0 hs];omega
  ·right
   obtain ⟨a,b,c⟩:=fix_block h3 h0
   refine ⟨a,?_⟩
   rw [b]
   intro hf
   rw [if_pos hf] at c
   exact h c
theorem kind_yes {s:St} (h:kindS s = 1):(fixSt s).sh = 1 ∧ (fixSt s).fl = 0:=by
 have h3:¬ s.sh = 3:=fun hh=>by unfold kindS at h;rw [if_pos hh] at h;omega
 obtain ⟨a,b,c⟩:=fix_block h3 (by omega)
 refine ⟨a,?_⟩
 rw [b]
 by_cases hf:s.fl = 0
 ·exact hf
 ·rw [if_neg hf] at c;omega
theorem ownX_lower {w:World} {B B':Nat} {v:Value} {bs:List Bx} (h:OwnX w B v bs) (hB:B' ≤ B):OwnX w B' v bs:=by
 refine ⟨h.1,?_⟩
 rcases h.2 with h' | ⟨g,cap,cur,h1,h2,h3⟩
 ·exact .inl h'
 ·exact .inr ⟨g,cap,cur,h1,Nat.le_trans hB h2,h3⟩
set_option maxRecDepth 100000 in
set_option maxHeartbeats 4000000 in
theorem l5Boxes_not (b off n cap:Nat) (ns:List Nd) (w:World) (hnd:NdAt w w.heap.size b off n ns) (h0:0 < n) (hsh:inB 1 3 (ns.getD 0 nd0).st.sh = true) (hk:¬ kindS (ns.getD 0 nd0).st = 1) :
  Calls Tryz.prog 35 #[(.slice (some ⟨b,off,none⟩) n cap)] w fun e w'=>e = .returned (.tuple #[.slice none 0 0,.bool false]) ∧ Below w.heap.size w w':=by
 have h0':0 < ns.length:=by rw [← hnd.len];exact h0
 obtain ⟨y,hy⟩:∃ y,ns[0]? = some y:=⟨_,List.getElem?_eq_getElem h0'⟩
 have gD:ns.getD 0 nd0 = y:=getD_of hy
 rw [gD] at hsh hk
 have hr0:=hnd.rows 0 y hy
 rw [Nat.zero_mul,Nat.add_zero] at hr0
 have RS:w.rangeAt b (off + 2) (stCells y.st).toList:=fun j v hj=>by
  have:=hr0 (2 + j) v (by rw [← hj,show (stCells y.st).toList = (ndL y).drop 2 from rfl,List.getElem?_drop])
  rwa [← Nat.add_assoc] at this
 have FX:=fun W=>l4Fix_any y.st W
 have hn':(0:Int) < (n:Int):=by omega
 have HK:=kind_not hsh hk
 have h40:=hnd.le
 clear hnd hy gD hr0 hsh hk
 go_enter Tryz.func35,Tryz.ntmps35
 go_wp2_with (with_reducible show wpList _ _ _ (⟨some 9,Op.load 73 _,_,_,_,_⟩ :: _) _ _;refine wpList_load_mid rfl 73 _ rfl b (off + 2) rfl (stCells y.st).toList _ RS Tryz.underlying73 rfl (by kernel_rfl) ?_)
 refine (FX _).mono ?_
 rintro e w1 ⟨rfl,hb1⟩
 go_wp2_with (first
  | (with_reducible show wpList _ _ _ (⟨none,Op.store 73 _ _,_,_,_,_⟩ :: _) _ _;refine wpList_store_box rfl 73 _ _ rfl rfl (stCells (fixSt y.st)) rfl rfl (by kernel_rfl) rfl (by kernel_rfl) ?_;intro W4 bel4 l4 hsz4;refine stay ?_)
  | fail)
 unfold Stay
 have B4:Below w.heap.size w W4:=hb1.trans (bel4.mono hb1.size)
 have s0:W4.cell? ⟨w1.heap.size,0,none⟩ = some (.int .i64 (fixSt y.st).sh):=(lies_cell l4 0).trans rfl
 have s1:W4.cell? ⟨w1.heap.size,1,none⟩ = some (.int .i64 (fixSt y.st).fl):=(lies_cell l4 1).trans rfl
 clear l4 bel4 hsz4 hb1 FX RS
 rcases HK with hk | ⟨hk,hf⟩
 ·have hkb:((fixSt y.st).sh == 1) = false:=by simpa using hk
  go_wp2
  go_ret2
  exact ⟨rfl,B4⟩
 ·rw [hk] at s0
  have hfb:((fixSt y.st).fl == 0) = false:=by simpa using hf
  go_wp2
  go_ret2
  exact ⟨rfl,B4⟩
set_option maxRecDepth 100000 in
set_option maxHeartbeats 8000000 in
theorem l5Boxes_yes (b off n cap:Nat) (ns:List Nd) (w:World) (hnd:NdAt w w.heap.size b off n ns) (hns:NsOk ns) (hwh:WhOk ns) (hsh:∀ j,j < ns.length → isT ns j = false → inB 1 3 (ns.getD j nd0).st.sh = true) (h0:0 < n) (hk:kindS (ns.getD 0 nd0).st = 1) :
  Calls Tryz.prog 35 #[(.slice (some ⟨b,off,none⟩) n cap)] w fun e w'=>∃ v,e = .returned (.tuple #[v,.bool (boxesOkP ns)]) ∧ OwnX w' w.heap.size v (boxesL ns) ∧ Below w.heap.size w w':=by
 have h0':0 < ns.length:=by rw [← hnd.len];exact h0
 obtain ⟨y,hy⟩:∃ y,ns[0]? = some y:=⟨_,List.getElem?_eq_getElem h0'⟩
 have gD:ns.getD 0 nd0 = y:=getD_of hy
 have HP1:Hid (passP ns 1 = _):=pass_one hns h0' hk
 rw [gD] at hk
 obtain ⟨k1,k2⟩:=kind_yes hk
 have hr0:=hnd.rows 0 y hy
 rw [Nat.zero_mul,Nat.add_zero] at hr0
 have RS:w.rangeAt b (off + 2) (stCells y.st).toList:=fun j v hj=>by
  have:=hr0 (2 + j) v (by rw [← hj,show (stCells y.st).toList = (ndL y).drop 2 from rfl,List.getElem?_drop])
  rwa [← Nat.add_assoc] at this
 have FX:=fun W=>l4Fix_any y.st W
 have hn':(0:Int) < (n:Int):=by omega
 have h40:=hnd.le
 obtain ⟨e,he⟩:=end_some h0'
 have hee:e = ns.length:=end_root hns.stands he
 have HE:Hid (IsEnd ns 0 e ∧ e = ns.length):=⟨he,hee⟩
 have HND:Hid (NdAt w w.heap.size b off n ns):=hnd
 have HRN:Hid (∀ q,RunOk w.heap.size q b off n cap ns 0):=fun q=>run_any w.heap.size q b off n cap ns hns hwh hsh n 0 h0 (by omega)
 have HNS:Hid (NsOk ns ∧ WhOk ns):=⟨hns,hwh⟩
 have HOK:Hid (PsOk ns ns.length (passP ns ns.length)):=pass_ok hns ns.length (Nat.le_refl _)
 have HLN:Hid (n = ns.length):=hnd.len
 clear hnd hy gD hr0 hk he hee hns hwh hsh
 obtain ⟨i0,hi,hz0,hz1,hz2⟩:=bhInfo
 go_enter Tryz.func35,Tryz.ntmps35
 go_wp2_with (with_reducible show wpList _ _ _ (⟨some 9,Op.load 73 _,_,_,_,_⟩ :: _) _ _;refine wpList_load_mid rfl 73 _ rfl b (off + 2) rfl (stCells y.st).toList _ RS Tryz.underlying73 rfl (by kernel_rfl) ?_)
 refine (FX _).mono ?_
 rintro e w1 ⟨rfl,hb1⟩
 go_wp2_with (first
  | (with_reducible show wpList _ _ _ (⟨none,Op.store 73 _ _,_,_,_,_⟩ :: _) _ _;refine wpList_store_box rfl 73 _ _ rfl rfl (stCells (fixSt y.st)) rfl rfl (by kernel_rfl) rfl (by kernel_rfl) ?_;intro W4 bel4 l4 hsz4;refine stay ?_)
  | fail)
 unfold Stay
 have B4:Below w.heap.size w W4:=hb1.trans (bel4.mono hb1.size)
 have s0:W4.cell? ⟨w1.heap.size,0,none⟩ = some (.int .i64 1):=(lies_cell l4 0).trans (by show some (Value.int .i64 (fixSt y.st).sh) = _;rw [k1])
 have s1:W4.cell? ⟨w1.heap.size,1,none⟩ = some (.int .i64 0):=(lies_cell l4 1).trans (by show some (Value.int .i64 (fixSt y.st).fl) = _;rw [k2])
 clear l4 bel4 hsz4 hb1 FX RS k1 k2
 have L0:Ls (W4.alloc (.cells #[(.slice (some ⟨b,off,none⟩) n cap),.slice none 0 0,.bool true] 107)) w.heap.size W4.heap.size (.slice (some ⟨b,off,none⟩) n cap) [] true (.slice none 0 0):=⟨B4.size,heap_at _ _ _ rfl,World.ownsRow_nil _ _ _ _⟩
 have B5:=B4.alloc B4.size (.cells #[(.slice (some ⟨b,off,none⟩) n cap),.slice none 0 0,.bool true] 107)
 have o2:=L0.oo
 have HL0:Hid (Ls (W4.alloc (.cells #[(.slice (some ⟨b,off,none⟩) n cap),.slice none 0 0,.bool true] 107)) w.heap.size W4.heap.size (.slice (some ⟨b,off,none⟩) n cap) [] true (.slice none 0 0)):=L0
 have HB5:Hid (Below w.heap.size w (W4.alloc (.cells #[(.slice (some ⟨b,off,none⟩) n cap),.slice none 0 0,.bool true] 107))):=B5
 have hB4:=B4.size
 clear L0 B5 B4
 go_wp2_with (at_builtin;refine wpList_append_own_at _ rfl (.tmp 26) (.tmp 28) 24 rfl w.heap.size 41 i0 _ 4 40 Tryz.underlying24 hi hz0 hz1 hz2 rfl (by decide) _ 0 [] rfl (o2.alloc _) ⟨W4.heap.size + 1,0,none⟩ 1 1 [.int .i64 1,.int .i64 0,.int .i64 (-1),.string ByteArray.empty] rfl rfl (World.news_of_block (cs:=#[.int .i64 1,.int .i64 0,.int .i64 (-1),.string ByteArray.empty]) (heap_at _ _ _ (by simp))) (one4 _ _ _ _) (by unfold maxLen;omega) (by omega) (by simp;omega) ?_)
 intro v' w6 hown6 hgrow6 _ _
 obtain ⟨a6,k6,rfl⟩:=own_form hown6
 have GA:=HL0.out.keep ((Below.refl _ _).alloc (Nat.le_refl _) (.cells #[.int .i64 1,.int .i64 0,.int .i64 (-1),.string ByteArray.empty] 41))
 have l6:w6.heap[W4.heap.size]? = _:=(hgrow6.block W4.heap.size (lies_lt GA.lies) (fun e=>own_ne GA.oo GA.lies (by decide) e.symm)).trans GA.lies
 have d1:w6.cell? ⟨W4.heap.size,1,none⟩ = some (.slice none 0 0):=(lies_cell l6 1).trans rfl
 have g1:w6.frozen? ⟨W4.heap.size,1,none⟩ = false:=Lib.frozen_of_heap l6 1
 have R6:=GA.putB (out':=[(⟨1,0,-1,ByteArray.empty⟩:Bx)]) hgrow6 hown6
 have B6:=((HB5.out.alloc HB5.out.size _).grown hgrow6 (by simp;omega) (fun k hk=>(GA.oo.lt k hk).1)).setCell (p:=⟨W4.heap.size,1,none⟩) GA.hp (.slice a6 (0 + 1) k6)
 have IN:=inside_of w.heap.size W4.heap.size b off n cap 0 ns HNS.out.1 HNS.out.2 (HRN.out _) e 0 [(⟨1,0,-1,ByteArray.empty⟩:Bx)] true _ (⟨1,0,-1,ByteArray.empty⟩:Bx) _ HE.out.1 (by unfold innF;rw [HP1.out];rfl) (by rw [HP1.out];rfl) rfl HNS.out.1.root h0 R6 (by rw [HP1.out];exact .inl ⟨rfl,rfl,rfl,fun hh=>absurd rfl hh⟩) (HND.out.below B6)
 have HB6:Hid (_):=B6
 clear R6 B6 GA l6 hown6 hgrow6 o2 HL0 HB5
 go_wp2_with fail
 refine IN.mono ?_
 rintro ev w7 ⟨rfl,⟨t',out',ok',vo',hl7,hm7⟩,hb7⟩
 obtain ⟨f1,f2⟩:=mt_flush hm7 (box_stays (k:=1) (p:=e) HE.out.1.gt (x:=⟨1,0,-1,ByteArray.empty⟩) (by rw [HP1.out];rfl)) (node:=0) rfl
 rw [f1,f2,HE.out.2] at hl7
 have hl8:Ls w7 w.heap.size W4.heap.size (.slice (some ⟨b,off,none⟩) n cap) (boxesL ns) (boxesOkP ns) vo':=hl7
 have B8:=HB6.out.trans hb7
 have hm40:(boxesL ns).length ≤ 40:=Nat.le_trans (endB_ok HOK.out).2.1 (by rw [← HLN.out];exact h40)
 clear hl7 f1 f2 hm7 IN HB6 hb7
 obtain ⟨ao,co,hvo⟩:=own_form hl8.oo
 subst hvo
 have HOX:Hid (OwnX w7 w.heap.size (.slice ao (boxesL ns).length co) (boxesL ns)):=hl8.oo
 have c1:w7.cell? ⟨W4.heap.size,1,none⟩ = some (.slice ao (boxesL ns).length co):=(lies_cell hl8.lies 1).trans rfl
 have c2:w7.cell? ⟨W4.heap.size,2,none⟩ = some (.bool (boxesOkP ns)):=(lies_cell hl8.lies 2).trans rfl
 have lq7:W4.heap.size < w7.heap.size:=lies_lt hl8.lies
 clear hl8
 obtain ⟨bl,hbl⟩:∃ l,l = boxesL ns:=⟨_,rfl⟩
 rw [← hbl] at HOX c1 hm40
 have HBL:Hid (bl = boxesL ns):=hbl
 obtain ⟨m,hm⟩:∃ m,m = bl.length:=⟨_,rfl⟩
 rw [← hm] at HOX c1 hm40
 clear hbl hm
 cases hok:boxesOkP ns
 ·rw [hok] at c2
  go_wp2
  go_quiet (fail)
  all_goals
   go_wp2
   go_ret2
   exact ⟨.slice ao m co,by rw [hok];first | rfl | exact congrArg (fun x=>Ending.returned (.tuple #[.slice ao m co,.bool x])) (decide_eq_true (by omega)),by rw [← HBL.out];exact HOX.out,below_drewN B8 _⟩
 ·rw [hok] at c2
  go_wp2
  go_quiet (fail)
  all_goals
   go_wp2
   go_ret2
   exact ⟨.slice ao m co,by rw [hok];first | rfl | exact congrArg (fun x=>Ending.returned (.tuple #[.slice ao m co,.bool x])) (decide_eq_true (by omega)),by rw [← HBL.out];exact HOX.out,below_drewN B8 _⟩
set_option maxRecDepth 100000 in
set_option maxHeartbeats 4000000 in
theorem specBoxes_any (a:Option Addr) (cap:Nat) (ns:List Nd) (w:World) (hr:NdRow w a ns) (hl:ns.length ≤ 1048576) (hs:∀ x ∈ ns,x.tx.size ≤ 1048576) :
  Calls Tryz.prog 45 #[.slice a ns.length cap] w fun e w'=>∃ v,e = .returned (.tuple #[v,.bool (boxB ns)]) ∧ OwnX w' w.heap.size v (boxR ns) ∧ Below w.heap.size w w':=by
 have GT:=specTree_any a cap ns w hr hl hs
 obtain ⟨n,hn⟩:∃ n,n = ns.length:=⟨_,rfl⟩
 have HN:Hid (n = ns.length):=hn
 cases hT:treeB (okB true) styleB ns
 ·have HB:Hid (boxB ns = false):=by show _ = _;unfold boxB;rw [hT];rfl
  rw [hT] at GT
  rw [← hn] at GT ⊢
  clear hr hl hs hn
  go_enter Tryz.func45,Tryz.ntmps45
  go_wp2_with fail
  refine GT.mono ?_
  rintro e w1 ⟨rfl,b1⟩
  go_wp2
  go_ret2
  exact ⟨_,by rw [HB.out];rfl,by rw [boxR_no HB.out];exact ownX_nil _ _,b1⟩
 rw [hT] at GT
 obtain ⟨⟨h1,h40⟩,_⟩:=treeB_parts hT
 obtain ⟨hns,hwh⟩:=ns_ok hT
 have hsh:=sh_ok hT
 obtain ⟨b,off,rfl,hc⟩:∃ b off,a = some ⟨b,off,none⟩ ∧ ∀ i n,ns[i]? = some n → w.rangeAt b (off + i * 28) (ndL n):=by
  rcases hr with h | h
  ·rw [h] at h1;simp at h1
  ·exact h
 obtain ⟨y,hy⟩:∃ y,ns[0]? = some y:=⟨_,List.getElem?_eq_getElem (by omega)⟩
 have lb:=range_lt (hc 0 y hy)
 have HND:Hid (∀ W,Below w.heap.size w W → NdAt W W.heap.size b off n ns):=by
  show ∀ W,_
  intro W hb
  exact ⟨Nat.lt_of_lt_of_le lb hb.size,HN.out,by rw [HN.out];exact h40,fun i x hx=>range_below (hc i x hx) hb (range_lt (hc i x hx))⟩
 rw [← hn] at GT h1 h40 ⊢
 clear hr hl hs hn hc hy
 by_cases hk:kindS (ns.getD 0 nd0).st = 1
 rotate_left
 ·have HB:Hid (boxB ns = false):=by show _ = _;unfold boxB;rw [decide_eq_false hk,Bool.and_false];rfl
  have LB:=fun (W:World) (hb:Below w.heap.size w W)=>l5Boxes_not b off n cap ns W (HND.out W hb) h1 (hsh 0 (by rw [← HN.out];omega) hns.root) hk
  clear hk hsh hns hwh
  go_enter Tryz.func45,Tryz.ntmps45
  go_wp2_with fail
  refine GT.mono ?_
  rintro e w1 ⟨rfl,b1⟩
  go_wp2_with fail
  refine (LB _ b1).mono ?_
  rintro e w2 ⟨rfl,hb2⟩
  have b2:=b1.trans (hb2.mono b1.size)
  clear hb2 b1 LB GT
  go_wp2
  go_ret2
  exact ⟨_,by rw [HB.out];rfl,by rw [boxR_no HB.out];exact ownX_nil _ _,b2⟩
 have HBX:Hid (boxB ns = boxesOkP ns):=by show _ = _;unfold boxB;rw [hT,hk];rfl
 have LB:=fun (W:World) (hb:Below w.heap.size w W)=>l5Boxes_yes b off n cap ns W (HND.out W hb) hns hwh hsh h1 hk
 clear hk hsh hns hwh hT
 cases hok:boxesOkP ns
 ·rw [hok] at LB HBX
  go_enter Tryz.func45,Tryz.ntmps45
  go_wp2_with fail
  refine GT.mono ?_
  rintro e w1 ⟨rfl,b1⟩
  go_wp2_with fail
  refine (LB _ b1).mono ?_
  rintro e w2 ⟨v,rfl,_,hb2⟩
  have b2:=b1.trans (hb2.mono b1.size)
  clear hb2 b1 LB GT hok
  go_wp2
  go_ret2
  exact ⟨_,by rw [HBX.out];rfl,by rw [boxR_no HBX.out];exact ownX_nil _ _,b2⟩
 ·rw [hok] at LB HBX
  go_enter Tryz.func45,Tryz.ntmps45
  go_wp2_with fail
  refine GT.mono ?_
  rintro e w1 ⟨rfl,b1⟩
  go_wp2_with fail
  refine (LB _ b1).mono ?_
  rintro e w2 ⟨v,rfl,hox,hb2⟩
  have b2:=b1.trans (hb2.mono b1.size)
  have HOX:Hid (OwnX w2 w.heap.size v (boxesL ns)):=ownX_lower hox b1.size
  clear hb2 b1 LB GT hok hox
  go_wp2
  go_ret2
  exact ⟨_,by rw [HBX.out];rfl,by rw [boxR_yes HBX.out];exact HOX.out,b2⟩
theorem OwnX.row {w:World} {B:Nat} {v:Value} {bs:List Bx} (h:OwnX w B v bs):∃ (a:Option Addr) (cap:Nat),v = .slice a bs.length cap ∧ BxRow w a bs:=by
 by_cases h0:0 < bs.length
 ·obtain ⟨g,cap,rfl⟩:=own_some h h0
  refine ⟨_,_,rfl,.inr ⟨g,0,rfl,fun i n hi j v hj=>?_⟩⟩
  have hi':=(List.getElem?_eq_some_iff.1 hi).1
  have hj':=(List.getElem?_eq_some_iff.1 hj).1
  rw [bxL_len] at hj'
  have hk:=World.ownsRow.cellAt h (i * 4 + j) (by omega)
  rw [Nat.zero_add]
  exact hk.trans (flatB_at bs i n j v hi hj)
 ·obtain ⟨a,cap,rfl⟩:=own_form h
  exact ⟨_,_,rfl,.inl (List.eq_nil_of_length_eq_zero (by omega))⟩
theorem boxR_len (ns:List Nd):(boxR ns).length ≤ 40:=by
 unfold boxR
 split
 ·rename_i h
  unfold boxB at h
  rw [Bool.and_eq_true,Bool.and_eq_true] at h
  obtain ⟨⟨_,h40⟩,_⟩:=treeB_parts h.1.1
  exact Nat.le_trans (endB_ok (pass_ok (ns_ok h.1.1).1 ns.length (Nat.le_refl _))).2.1 h40
 ·simp
/-- Whether two boxes are the same. -/
def bxEq (x y:Bx):Bool:=decide (x.kd = y.kd) && decide (x.nd = y.nd) && decide (x.up = y.up) && (x.tx.toList == y.tx.toList)
def sameX (xs ys:List Bx):Bool:=decide (xs.length = ys.length) && (List.range xs.length).all fun i=>bxEq (xs.getD i bx0) (ys.getD i bx0)
def allX (xs ys:List Bx) (k:Nat):Prop:=∀ j,j < k → bxEq (xs.getD j bx0) (ys.getD j bx0) = true
theorem all_next {xs ys:List Bx} {k:Nat} (h:allX xs ys k) (hk:bxEq (xs.getD k bx0) (ys.getD k bx0) = true):allX xs ys (k + 1):=fun j hj=>by
 by_cases e:j = k
 ·subst e;exact hk
 ·exact h j (by omega)
theorem same_no {xs ys:List Bx} {k:Nat} (hk:k < xs.length) (h:bxEq (xs.getD k bx0) (ys.getD k bx0) = false):sameX xs ys = false:=by
 cases hs:sameX xs ys
 ·rfl
 ·unfold sameX at hs
  rw [Bool.and_eq_true,List.all_eq_true] at hs
  have:=hs.2 k (List.mem_range.2 hk)
  rw [h] at this
  cases this
theorem same_len {xs ys:List Bx} (h:¬ xs.length = ys.length):sameX xs ys = false:=by unfold sameX;rw [decide_eq_false h];rfl
theorem same_yes {xs ys:List Bx} (h:xs.length = ys.length) (ha:allX xs ys xs.length):sameX xs ys = true:=by
 unfold sameX
 rw [decide_eq_true h,Bool.true_and,List.all_eq_true]
 exact fun i hi=>ha i (List.mem_range.1 hi)
theorem eqBx_held:Tryz.prog.stoodInHeld 41 = false:=by kernel_rfl
theorem eqBx_guard:Tryz.prog.eqGuardType Tryz.prog.depth 41 = false:=by kernel_rfl
theorem eqBx_fields:Tryz.prog.underlying 41 = some (.struct (Tryz.prog.fieldsOf 41)):=by kernel_rfl
theorem neBx_run (x y:Bx) (w:World) :
  (binOp .neq 41 (.agg #[.int .i64 x.kd,.int .i64 x.nd,.int .i64 x.up,.string x.tx]) (.agg #[.int .i64 y.kd,.int .i64 y.nd,.int .i64 y.up,.string y.tx])).run Tryz.prog w = .ok (.bool (!bxEq x y)) w:=by
 rw [run_neq_struct,run_equalIn_agg _ _ _ _ _ eqBx_fields eqBx_held]
 simp only [Program.fieldsOf,Tryz.underlying41]
 unfold bxEq
 by_cases h1:x.kd = y.kd <;> by_cases h2:x.nd = y.nd <;> by_cases h3:x.up = y.up <;> by_cases h4:x.tx.toList = y.tx.toList <;> simp [Op.eqFields,go_sem,Tryz.underlying3,Tryz.underlying9,h1,h2,h3,h4]
set_option maxRecDepth 100000 in
set_option maxHeartbeats 4000000 in
theorem slEq_some (b off b' off' n cap cap':Nat) (xs ys:List Bx) (w:World) (hx:n = xs.length) (hy:n = ys.length) (hl:n ≤ 1048576)
  (hc:∀ i x,xs[i]? = some x → w.rangeAt b (off + i * 4) (bxL x)) (hd:∀ i x,ys[i]? = some x → w.rangeAt b' (off' + i * 4) (bxL x)) :
  Calls Tryz.prog 13 #[.slice (some ⟨b,off,none⟩) n cap,.slice (some ⟨b',off',none⟩) n cap'] w fun e w'=>e = .returned (.bool (sameX xs ys)) ∧ Below w.heap.size w w':=by
 have HC:Hid (∀ i x,xs[i]? = some x → w.rangeAt b (off + i * 4) (bxL x)):=hc
 have HD:Hid (∀ i x,ys[i]? = some x → w.rangeAt b' (off' + i * 4) (bxL x)):=hd
 have HX:Hid (n = xs.length):=hx
 have HY:Hid (n = ys.length):=hy
 clear hc hd hx hy
 go_enter Tryz.func13,Tryz.ntmps13
 go_wp2
 go_loopw [13] (fun i wr=>∃ k:Nat,k ≤ n ∧ i = .int .i64 k ∧ Hid (allX xs ys k) ∧ Below w.heap.size w wr) (fun i _=>n - (intOf i).toNat)
 case atStart=>exact ⟨0,Nat.zero_le _,rfl,(fun j hj=>by omega:allX xs ys 0),Below.refl _ _⟩
 case round =>
  obtain ⟨k,hk,rfl,hall,hbw⟩:=hrel
  by_cases hlt:k < n
  ·obtain ⟨x,hx⟩:∃ x,xs[k]? = some x:=⟨_,List.getElem?_eq_getElem (by rw [← HX.out];exact hlt)⟩
   obtain ⟨y,hy⟩:∃ y,ys[k]? = some y:=⟨_,List.getElem?_eq_getElem (by rw [← HY.out];exact hlt)⟩
   have rx:=bx_below (HC.out k x hx) hbw (bx_lt (HC.out k x hx))
   have ry:=bx_below (HD.out k y hy) hbw (bx_lt (HD.out k y hy))
   obtain ⟨p0,p1,p2,p3⟩:=bx_cells rx
   obtain ⟨q0,q1,q2,q3⟩:=bx_cells ry
   have HXY:Hid (xs.getD k bx0 = x ∧ ys.getD k bx0 = y):=⟨by rw [List.getD_eq_getElem?_getD,hx];rfl,by rw [List.getD_eq_getElem?_getD,hy];rfl⟩
   have NE:=neBx_run x y
   have GD:=fun (w:World) (xo yo:Operand)=>run_eqGuard_agg (P:=Tryz.prog) w .neq 41 xo yo #[.int .i64 x.kd,.int .i64 x.nd,.int .i64 x.up,.string x.tx] #[.int .i64 y.kd,.int .i64 y.nd,.int .i64 y.up,.string y.tx] eqBx_guard
   have hlt':(k:Int) < (n:Int):=by omega
   clear rx ry hx hy
   cases hq:bxEq x y
   ·rw [hq] at NE
    have HF:Hid (sameX xs ys = false):=same_no (by rw [← HX.out];exact hlt) (by rw [HXY.out.1,HXY.out.2];exact hq)
    go_wp2
    go_quiet (fail)
    all_goals
     go_wp2
     go_ret
     exact ⟨ret_bool (by rw [HF.out]),below_drewN hbw _⟩
   ·rw [hq] at NE
    have HT:Hid (allX xs ys (k + 1)):=all_next hall.out (by rw [HXY.out.1,HXY.out.2];exact hq)
    go_wp2
    go_quiet (fail)
    all_goals
     go_wp2
     go_roundw
     case rel=>exact ⟨k + 1,by omega,by go_num,HT.out,below_drewN hbw _⟩
     case measure=>simp [intOf];omega
  ·have HT:Hid (sameX xs ys = true):=same_yes (by rw [← HX.out,← HY.out]) (by rw [← HX.out];have h:=hall.out;rwa [show k = n by omega] at h)
   go_wp2
   go_ret
   exact ⟨ret_bool (by rw [HT.out]),hbw⟩
set_option maxHeartbeats 1000000 in
theorem slEq_none (a a':Option Addr) (cap cap':Nat) (w:World) :
  Calls Tryz.prog 13 #[.slice a 0 cap,.slice a' 0 cap'] w fun e w'=>e = .returned (.bool true) ∧ Below w.heap.size w w':=by
 go_enter Tryz.func13,Tryz.ntmps13
 go_wp2
 refine wp_loop_rounds 1 ?_
 rw [rounds_succ]
 go_wp2
 go_ret
 exact ⟨rfl,Below.refl _ _⟩
theorem slEq_len (a a':Option Addr) (n m cap cap':Nat) (w:World) (h:¬ n = m) (hn:n ≤ 1048576) (hm:m ≤ 1048576) :
  Calls Tryz.prog 13 #[.slice a n cap,.slice a' m cap'] w fun e w'=>e = .returned (.bool false) ∧ Below w.heap.size w w':=by
 have h1:((n:Int) == (m:Int)) = false:=by rw [beq_eq_false_iff_ne];omega
 have h2:¬ (n:Int) = (m:Int):=by omega
 go_enter Tryz.func13,Tryz.ntmps13
 go_wp2
 go_ret
 exact ⟨rfl,Below.refl _ _⟩
theorem slEq_any (a a':Option Addr) (cap cap':Nat) (xs ys:List Bx) (w:World) (hr:BxRow w a xs) (hr':BxRow w a' ys) (hl:xs.length ≤ 1048576) (hl':ys.length ≤ 1048576) :
  Calls Tryz.prog 13 #[.slice a xs.length cap,.slice a' ys.length cap'] w fun e w'=>e = .returned (.bool (sameX xs ys)) ∧ Below w.heap.size w w':=by
 by_cases hlen:xs.length = ys.length
 ·rcases hr with rfl | ⟨b,off,rfl,hc⟩
  ·have h0:ys = []:=List.eq_nil_of_length_eq_zero hlen.symm
   subst h0
   exact slEq_none a a' cap cap' w
  ·rcases hr' with rfl | ⟨b',off',rfl,hd⟩
   ·have h0:xs = []:=List.eq_nil_of_length_eq_zero hlen
    subst h0
    exact slEq_none _ _ cap cap' w
   ·have h:=slEq_some b off b' off' xs.length cap cap' xs ys w rfl hlen hl hc hd
    rw [← hlen]
    exact h
 ·rw [same_len hlen]
  exact slEq_len a a' _ _ cap cap' w hlen hl hl'
def gbB (ns:List Nd) (bs:List Bx):Bool:=boxB ns && sameX (boxR ns) bs
set_option maxRecDepth 100000 in
set_option maxHeartbeats 8000000 in
theorem specGoodBoxes_any (a a':Option Addr) (cap cap':Nat) (ns:List Nd) (ys:List Bx) (w:World) (hr:NdRow w a ns) (hl:ns.length ≤ 1048576) (hs:∀ x ∈ ns,x.tx.size ≤ 1048576) (hr':BxRow w a' ys) (hl':ys.length ≤ 1048576) :
  Calls Tryz.prog 20 #[.slice a ns.length cap,.slice a' ys.length cap'] w fun e w'=>e = .returned (.bool (gbB ns ys)) ∧ Below w.heap.size w w':=by
 have IB:=specBoxes_any a cap ns w hr hl hs
 unfold gbB
 have hb40:=boxR_len ns
 generalize boxR ns = xs at IB hb40 ⊢
 generalize ns.length = nl at IB ⊢
 have HR':Hid (BxRow w a' ys):=hr'
 obtain ⟨m,hm⟩:∃ m,m = ys.length:=⟨_,rfl⟩
 rw [← hm] at hl' ⊢
 obtain ⟨n,hn⟩:∃ n,n = xs.length:=⟨_,rfl⟩
 rw [← hn] at hb40
 have HX:Hid (n = xs.length):=hn
 have HM:Hid (m = ys.length):=hm
 clear hr hl hs hr' hm hn
 cases hB:boxB ns
 ·rw [hB] at IB
  clear hB
  rw [Bool.false_and]
  go_enter Tryz.func20,Tryz.ntmps20
  go_wp2_with fail
  refine IB.mono ?_
  rintro e w1 ⟨v,rfl,_,hb1⟩
  go_wp2
  go_ret
  exact ⟨rfl,hb1⟩
 rw [hB] at IB
 clear hB
 rw [Bool.true_and]
 by_cases hnm:n = m
 rotate_left
 ·have HS:Hid (sameX xs ys = false):=same_len (by rw [← HX.out,← HM.out];exact hnm)
  have h1:((n:Int) == (m:Int)) = false:=by rw [beq_eq_false_iff_ne];omega
  have h2:¬ (n:Int) = (m:Int):=by omega
  go_enter Tryz.func20,Tryz.ntmps20
  go_wp2_with fail
  refine IB.mono ?_
  rintro e w1 ⟨v,rfl,hox,hb1⟩
  obtain ⟨ax,cx,hv,_⟩:=hox.row
  rw [← HX.out] at hv
  subst hv
  clear hox IB
  go_wp2
  go_ret
  exact ⟨ret_bool HS.out.symm,hb1⟩
 subst hnm
 have HY:Hid (n = ys.length):=HM.out
 clear HM
 by_cases h0:n = 0
 ·have HS:Hid (sameX xs ys = true):=same_yes (by rw [← HX.out,← HY.out]) (fun j hj=>by rw [← HX.out] at hj;omega)
  subst h0
  go_enter Tryz.func20,Tryz.ntmps20
  go_wp2_with fail
  refine IB.mono ?_
  rintro e w1 ⟨v,rfl,hox,hb1⟩
  obtain ⟨ax,cx,hv,_⟩:=hox.row
  rw [← HX.out] at hv
  subst hv
  clear hox IB
  go_wp2
  refine wp_loop_rounds 1 ?_
  rw [rounds_succ]
  go_wp2
  go_ret
  exact ⟨ret_bool HS.out.symm,hb1⟩
 go_enter Tryz.func20,Tryz.ntmps20
 go_wp2_with fail
 refine IB.mono ?_
 rintro e w1 ⟨v,rfl,hox,hb1⟩
 obtain ⟨ax,cx,hv,hrow⟩:=hox.row
 rw [← HX.out] at hv
 subst hv
 obtain ⟨b,off,rfl,hc⟩:∃ b off,ax = some ⟨b,off,none⟩ ∧ ∀ i x,xs[i]? = some x → w1.rangeAt b (off + i * 4) (bxL x):=by
  rcases hrow with h | h
  ·exact absurd (by rw [HX.out,h];rfl) h0
  ·exact h
 obtain ⟨b',off',rfl,hd⟩:∃ b' off',a' = some ⟨b',off',none⟩ ∧ ∀ i x,ys[i]? = some x → w1.rangeAt b' (off' + i * 4) (bxL x):=by
  rcases HR'.out.below hb1 with h | h
  ·exact absurd (by rw [HY.out,h];rfl) h0
  ·exact h
 have HC:Hid (∀ i x,xs[i]? = some x → w1.rangeAt b (off + i * 4) (bxL x)):=hc
 have HD:Hid (∀ i x,ys[i]? = some x → w1.rangeAt b' (off' + i * 4) (bxL x)):=hd
 have HB1:Hid (Below w.heap.size w w1):=hb1
 clear hc hd hox hrow IB hb1 HR'
 go_wp2
 go_loopw [24] (fun i wr=>∃ k:Nat,k ≤ n ∧ i = .int .i64 k ∧ Hid (allX xs ys k) ∧ Below w1.heap.size w1 wr) (fun i _=>n - (intOf i).toNat)
 case atStart=>exact ⟨0,Nat.zero_le _,rfl,(fun j hj=>by omega:allX xs ys 0),Below.refl _ _⟩
 case round =>
  obtain ⟨k,hk,rfl,hall,hbw⟩:=hrel
  by_cases hlt:k < n
  ·obtain ⟨x,hx⟩:∃ x,xs[k]? = some x:=⟨_,List.getElem?_eq_getElem (by rw [← HX.out];exact hlt)⟩
   obtain ⟨y,hy⟩:∃ y,ys[k]? = some y:=⟨_,List.getElem?_eq_getElem (by rw [← HY.out];exact hlt)⟩
   have rx:=bx_below (HC.out k x hx) hbw (bx_lt (HC.out k x hx))
   have ry:=bx_below (HD.out k y hy) hbw (bx_lt (HD.out k y hy))
   obtain ⟨p0,p1,p2,p3⟩:=bx_cells rx
   obtain ⟨q0,q1,q2,q3⟩:=bx_cells ry
   have HXY:Hid (xs.getD k bx0 = x ∧ ys.getD k bx0 = y):=⟨by rw [List.getD_eq_getElem?_getD,hx];rfl,by rw [List.getD_eq_getElem?_getD,hy];rfl⟩
   have NE:=neBx_run x y
   have GD:=fun (w:World) (xo yo:Operand)=>run_eqGuard_agg (P:=Tryz.prog) w .neq 41 xo yo #[.int .i64 x.kd,.int .i64 x.nd,.int .i64 x.up,.string x.tx] #[.int .i64 y.kd,.int .i64 y.nd,.int .i64 y.up,.string y.tx] eqBx_guard
   have hlt':(k:Int) < (n:Int):=by omega
   clear rx ry hx hy
   cases hq:bxEq x y
   ·rw [hq] at NE
    have HF:Hid (sameX xs ys = false):=same_no (by rw [← HX.out];exact hlt) (by rw [HXY.out.1,HXY.out.2];exact hq)
    go_wp2
    go_quiet (fail)
    all_goals
     go_wp2
     go_ret
     exact ⟨ret_bool (by rw [HF.out]),HB1.out.trans (Below.mono (below_drewN hbw _) HB1.out.size)⟩
   ·rw [hq] at NE
    have HT:Hid (allX xs ys (k + 1)):=all_next hall.out (by rw [HXY.out.1,HXY.out.2];exact hq)
    go_wp2
    go_quiet (fail)
    all_goals
     go_wp2
     go_roundw
     case rel=>exact ⟨k + 1,by omega,by go_num,HT.out,below_drewN hbw _⟩
     case measure=>simp [intOf];omega
  ·have HT:Hid (sameX xs ys = true):=same_yes (by rw [← HX.out,← HY.out]) (by rw [← HX.out];have h:=hall.out;rwa [show k = n by omega] at h)
   go_wp2
   go_ret
   exact ⟨ret_bool (by rw [HT.out]),HB1.out.trans (hbw.mono HB1.out.size)⟩
def upX (bs:List Bx) (i:Nat):Int:=(bs.getD i bx0).up
def kidsTo (bs:List Bx) (k:Int):Nat → List Int
 | 0=>[]
 | i + 1=>if upX bs i = k then kidsTo bs k i ++ [(i:Int)] else kidsTo bs k i
theorem kids_len (bs:List Bx) (k:Int):∀ i,(kidsTo bs k i).length ≤ i
 | 0=>Nat.le_refl _
 | i + 1=>by
  rw [kidsTo]
  have:=kids_len bs k i
  split
  ·simp;omega
  ·omega
theorem kids_yes {bs:List Bx} {k:Int} {i:Nat} (h:upX bs i = k):kidsTo bs k (i + 1) = kidsTo bs k i ++ [(i:Int)]:=by rw [kidsTo,if_pos h]
theorem kids_no {bs:List Bx} {k:Int} {i:Nat} (h:¬ upX bs i = k):kidsTo bs k (i + 1) = kidsTo bs k i:=by rw [kidsTo,if_neg h]
theorem upX_of {bs:List Bx} {i:Nat} {x:Bx} (h:bs[i]? = some x):upX bs i = x.up:=by unfold upX;rw [List.getD_eq_getElem?_getD,h];rfl
theorem bx_some {w:World} {a:Option Addr} {bs:List Bx} (hr:BxRow w a bs) {i:Nat} {x:Bx} (h:bs[i]? = some x):∃ b off,a = some ⟨b,off,none⟩ ∧ ∀ i n,bs[i]? = some n → w.rangeAt b (off + i * 4) (bxL n):=by
 rcases hr with h' | h'
 ·rw [h'] at h;simp at h
 ·exact h'
theorem cell_one_at (w:World) (x:Value) (t:TypeId) (g:Nat) (h:w.heap.size = g):∀ j u,[x][j]? = some u → (w.alloc (.cells #[x] t)).cell? ((⟨g,0,none⟩:Addr).add j) = some u:=by subst h;exact cell_one_new w x t
set_option maxRecDepth 100000 in
set_option maxHeartbeats 4000000 in
theorem l5Kids_any (a:Option Addr) (n cap:Nat) (bs:List Bx) (k:Int) (w:World) (hn:n = bs.length) (hr:BxRow w a bs) (hl:n ≤ 1048576) :
  Calls Tryz.prog 81 #[.slice a n cap,.int .i64 k] w fun e w'=>∃ v,e = .returned v ∧ OwnI w' w.heap.size v (kidsTo bs k n) ∧ Below w.heap.size w w':=by
 obtain ⟨i0,hi,hz0,hz1,hz2⟩:=info_parts Tryz.infoInt
 have HN:Hid (n = bs.length):=hn
 have HR:Hid (BxRow w a bs):=hr
 clear hn hr
 go_enter Tryz.func81,Tryz.ntmps81
 go_wp2_with fail
 go_loopw [5,10] (fun v i wr=>∃ j:Nat,j ≤ n ∧ i = .int .i64 j ∧ OwnI wr w.heap.size v (kidsTo bs k j) ∧ Below w.heap.size w wr) (fun _ i _=>n - (intOf i).toNat)
 case atStart=>exact ⟨0,Nat.zero_le _,rfl,ownI_nil _ _,Below.refl _ _⟩
 case round =>
  obtain ⟨j,hj,rfl,hown,hbw⟩:=hrel
  by_cases hlt:j < n
  rotate_left
  ·have e:j = n:=by omega
   subst e
   go_wp2
   go_ret
   exact ⟨_,rfl,hown,hbw⟩
  obtain ⟨x,hx⟩:∃ x,bs[j]? = some x:=⟨_,List.getElem?_eq_getElem (by have:=HN.out;omega)⟩
  obtain ⟨b,off,rfl,hc⟩:=bx_some HR.out hx
  have hr:=bx_below (hc j x hx) hbw (bx_lt (hc j x hx))
  obtain ⟨q0,q1,q2,q3⟩:=bx_cells hr
  have HX:Hid (upX bs j = x.up):=upX_of hx
  clear hc hx hr
  by_cases hu:x.up = k
  ·have HS:Hid (kidsTo bs k (j + 1) = kidsTo bs k j ++ [(j:Int)]):=kids_yes (HX.out.trans hu)
   have hle:=kids_len bs k j
   generalize kidsTo bs k j = zs at hown HS hle
   obtain ⟨L,hL⟩:∃ L,L = zs.length:=⟨_,rfl⟩
   have o2':=hown
   unfold OwnI at o2'
   rw [← hL] at o2' hle
   have HL:Hid (L = zs.length):=hL
   clear hL
   go_wp2_with (at_builtin;refine wpList_append_own _ rfl (.tmp 19) (.tmp 21) 69 rfl w.heap.size 3 i0 (.int .i64 0) 1 8 Tryz.underlying69 hi hz0 hz1 hz2 rfl (by decide) _ _ _ rfl ((o2'.alloc _).alloc _) ⟨wr.heap.size + 1,0,none⟩ 1 1 [.int .i64 (j:Int)] rfl rfl (cell_one_at _ _ _ _ (by simp)) (one_i64 _) (by unfold maxLen;omega) (by omega) (by have:=hbw.size;simp;omega) ?_)
   intro v' w3 hown3 hgrow3 _
   have b3:Below w.heap.size w w3:=((hbw.alloc hbw.size _).alloc (by have:=hbw.size;simp;omega) _).grown hgrow3 (by have:=hbw.size;simp;omega) (fun j hj=>hown.base j hj)
   have o3:OwnI w3 w.heap.size v' (kidsTo bs k (j + 1)):=by rw [HS.out];exact OwnI.snoc HL.out hown3
   clear hown hbw hown3 hgrow3 o2' q0 q1 q2 q3
   go_wp2
   go_roundw
   case rel=>exact ⟨j + 1,by omega,by go_num,o3,b3⟩
   case measure=>simp [intOf];omega
  ·have HS:Hid (kidsTo bs k (j + 1) = kidsTo bs k j):=kids_no (by rw [HX.out];exact hu)
   have o3:=hown.keep ((Below.refl wr.heap.size wr).alloc (Nat.le_refl _) (.cells #[.int .i64 x.kd,.int .i64 x.nd,.int .i64 x.up,.string x.tx] 41 (0,0)))
   have b3:=hbw.alloc hbw.size (.cells #[.int .i64 x.kd,.int .i64 x.nd,.int .i64 x.up,.string x.tx] 41 (0,0))
   rw [← HS.out] at o3
   clear hown hbw
   go_wp2
   go_roundw
   case rel=>exact ⟨j + 1,by omega,by go_num,o3,b3⟩
   case measure=>simp [intOf];omega
structure Asd where
 sd:Int
 x:Int
 y:Int
 w:Int
 h:Int
def asL (x:Asd):List Value:=[.int .i64 x.sd,.int .i64 x.x,.int .i64 x.y,.int .i64 x.w,.int .i64 x.h]
theorem asL_len (x:Asd):(asL x).length = 5:=rfl
/-- A slice value at address a reads as the floats ns. -/
def AsRow (w:World) (a:Option Addr) (ns:List Asd):Prop :=
 ns = [] ∨ ∃ b off,a = some ⟨b,off,none⟩ ∧ ∀ i n,ns[i]? = some n → w.rangeAt b (off + i * 5) (asL n)
theorem as_lt {w:World} {b o:Nat} {n:Asd} (h:w.rangeAt b o (asL n)):b < w.heap.size:=World.block_lt_of_cell? _ _ (h 0 (.int .i64 n.sd) rfl)
theorem as_below {B:Nat} {w w':World} {b o:Nat} {n:Asd} (h:w.rangeAt b o (asL n)) (hb:Below B w w') (hB:b < B):w'.rangeAt b o (asL n) :=
 fun j v hv=>(hb.cell (p:=⟨b,o + j,none⟩) hB).trans (h j v hv)
theorem AsRow.below {w w':World} {a:Option Addr} {ns:List Asd} (h:AsRow w a ns) (hb:Below w.heap.size w w'):AsRow w' a ns:=by
 rcases h with h | ⟨b,off,rfl,hc⟩
 ·exact .inl h
 ·exact .inr ⟨b,off,rfl,fun i n hn=>as_below (hc i n hn) hb (as_lt (hc i n hn))⟩
theorem infoAside:(Tryz.prog.info? 61).map (fun i=>(i.zero,i.size,i.bytes)) = some (some (.agg #[.int .i64 0,.int .i64 0,.int .i64 0,.int .i64 0,.int .i64 0]),5,40):=by kernel_rfl
theorem as_cells {w:World} {b o:Nat} {x:Asd} (h:w.rangeAt b o (asL x)):w.cell? ⟨b,o,none⟩ = some (.int .i64 x.sd) ∧ w.cell? ⟨b,o + 1,none⟩ = some (.int .i64 x.x) ∧ w.cell? ⟨b,o + 2,none⟩ = some (.int .i64 x.y) ∧ w.cell? ⟨b,o + 3,none⟩ = some (.int .i64 x.w) ∧ w.cell? ⟨b,o + 4,none⟩ = some (.int .i64 x.h) :=
 ⟨h 0 _ rfl,h 1 _ rfl,h 2 _ rfl,h 3 _ rfl,h 4 _ rfl⟩
abbrev nearB (n:Int):Bool:=inB (-100000000) 100000000 n
abbrev extB (n:Int):Bool:=inB 0 1000000 n
theorem as_some {w:World} {a:Option Addr} {l:List Asd} (hr:AsRow w a l) {i:Nat} {x:Asd} (h:l[i]? = some x):∃ b off,a = some ⟨b,off,none⟩ ∧ ∀ i n,l[i]? = some n → w.rangeAt b (off + i * 5) (asL n):=by
 rcases hr with h' | h'
 ·rw [h'] at h;simp at h
 ·exact h'
theorem isNear_any (n:Int) (w:World):Calls Tryz.prog 23 #[.int .i64 n] w fun e w'=>e = .returned (.bool (nearB n)) ∧ w' = w:=by
 by_cases h1:-100000000 ≤ n <;> by_cases h2:n ≤ 100000000 <;>
 ·go_enter Tryz.func23,Tryz.ntmps23
  go_wp2
  go_ret
  exact ⟨ret_bool (by simp [inB,h1,h2]),rfl⟩
theorem l7Span_any (n:Int) (w:World):Calls Tryz.prog 47 #[.int .i64 n] w fun e w'=>e = .returned (.bool (extB n)) ∧ w' = w:=by
 go_enter Tryz.func47,Tryz.ntmps47
 go_wp2_with (go_at_call 21;refine (l1In_any _ _ _ _).mono ?_;rintro e w' ⟨rfl,rfl⟩)
 go_ret
 exact ⟨rfl,rfl⟩
theorem l7Place_any (n:Int) (w:World):Calls Tryz.prog 27 #[.int .i64 n] w fun e w'=>e = .returned (.bool (nearB n)) ∧ w' = w:=by
 go_enter Tryz.func27,Tryz.ntmps27
 go_wp2_with (go_at_call 21;refine (l1In_any _ _ _ _).mono ?_;rintro e w' ⟨rfl,rfl⟩)
 go_ret
 exact ⟨rfl,rfl⟩
def flatA:List Asd → List Value
 | []=>[]
 | x :: xs=>asL x ++ flatA xs
theorem flatA_len:∀ bs:List Asd,(flatA bs).length = bs.length * 5
 | []=>rfl
 | x :: xs=>by rw [flatA,List.length_append,flatA_len xs,asL_len,List.length_cons,Nat.succ_mul,Nat.add_comm]
theorem flatA_app:∀ (bs cs:List Asd),flatA (bs ++ cs) = flatA bs ++ flatA cs
 | [],cs=>by simp [flatA]
 | y :: ys,cs=>by rw [List.cons_append,flatA,flatA,flatA_app ys cs,List.append_assoc]
theorem flatA_one (x:Asd):flatA [x] = asL x:=by simp [flatA]
theorem flatA_snoc (bs:List Asd) (x:Asd):flatA (bs ++ [x]) = flatA bs ++ asL x:=by rw [flatA_app,flatA_one]
theorem flatA_at:∀ (bs:List Asd) (i:Nat) (x:Asd) (c:Nat) (v:Value),bs[i]? = some x → (asL x)[c]? = some v → (flatA bs)[i * 5 + c]? = some v
 | [],i,x,c,v,h,_=>by simp at h
 | y :: ys,0,x,c,v,h,hv=>by
  simp at h
  subst h
  rw [flatA,List.getElem?_append_left (by have:=(List.getElem?_eq_some_iff.1 hv).1;rw [asL_len] at this ⊢;omega)]
  simpa using hv
 | y :: ys,i + 1,x,c,v,h,hv=>by
  have h':ys[i]? = some x:=by simpa using h
  rw [flatA,List.getElem?_append_right (by rw [asL_len];omega),asL_len,show (i + 1) * 5 + c - 5 = i * 5 + c by omega]
  exact flatA_at ys i x c v h' hv
theorem flatA_one_cell:∀ (bs:List Asd) (u:Value),u ∈ flatA bs → u.oneCell' = true
 | [],u,h=>by simp [flatA] at h
 | x :: xs,u,h=>by
  rw [flatA,List.mem_append] at h
  rcases h with h | h
  ·simp [asL] at h
   rcases h with rfl | rfl | rfl | rfl | rfl <;> rfl
  ·exact flatA_one_cell xs u h
/-- The slice v owns the floats bs, in a block from B on. -/
def OwnA (w:World) (B:Nat) (v:Value) (bs:List Asd):Prop:=w.ownsRow B 61 5 v bs.length (flatA bs)
theorem OwnA.form {w:World} {B:Nat} {v:Value} {bs:List Asd} (h:OwnA w B v bs):∃ (a:Option Addr) (cap:Nat),v = .slice a bs.length cap ∧ bs.length ≤ cap ∧ AsRow w a bs ∧ (a = none → bs = [] ∧ cap = 0) ∧
  (∀ b,a = some b → ∃ g,b = ⟨g,0,none⟩ ∧ B ≤ g ∧ g < w.heap.size ∧ w.there g 0 (cap * 5)):=by
 rcases h.2 with ⟨rfl,hn⟩ | ⟨g,cap,cur,rfl,hb,hg,hc,hm,hs,ht⟩
 ·have:bs = []:=List.eq_nil_of_length_eq_zero hn
  subst this
  exact ⟨none,0,rfl,Nat.le_refl _,.inl rfl,fun _=>⟨rfl,rfl⟩,fun b hb=>by cases hb⟩
 ·refine ⟨some ⟨g,0,none⟩,cap,rfl,hc,.inr ⟨g,0,rfl,fun i x hx j v hv=>?_⟩,⟨(fun h=>by cases h),(fun b' hb'=>⟨g,by simpa using hb'.symm,hb,lies_lt hg,fun j hj=>?_⟩)⟩⟩
  ·rw [cell_of_row w g _ cur _ _ hg]
   have h1:=flatA_at bs i x j v hx hv
   rw [← ht] at h1
   have hlt:=(List.getElem?_eq_some_iff.1 h1).1
   rw [List.getElem?_take] at h1
   split at h1
   ·rw [Nat.zero_add]
    simpa using h1
   ·cases h1
  ·refine ⟨?_,?_⟩
   ·rw [cell_of_row w g _ cur _ _ hg,Nat.zero_add,Array.getElem?_eq_getElem (by rw [hs];exact hj)];rfl
   ·exact World.ownsRow.frozenAt (by exact h) (0 + j)
theorem asL_one (x:Asd):∀ u ∈ asL x,u.oneCell' = true:=fun u hu=>flatA_one_cell [x] u (by rw [flatA_one];exact hu)
structure Ln where
 bx:Int
 x:Int
 y:Int
 w:Int
 h:Int
 tx:ByteArray
def lnL (x:Ln):List Value:=[.int .i64 x.bx,.int .i64 x.x,.int .i64 x.y,.int .i64 x.w,.int .i64 x.h,.string x.tx]
theorem lnL_len (x:Ln):(lnL x).length = 6:=rfl
def ln0:Ln:=⟨0,0,0,0,0,ByteArray.empty⟩
/-- A slice value at address a reads as the lines ns. -/
def LnRow (w:World) (a:Option Addr) (ns:List Ln):Prop :=
 ns = [] ∨ ∃ b off,a = some ⟨b,off,none⟩ ∧ ∀ i n,ns[i]? = some n → w.rangeAt b (off + i * 6) (lnL n)
theorem ln_lt {w:World} {b o:Nat} {n:Ln} (h:w.rangeAt b o (lnL n)):b < w.heap.size:=World.block_lt_of_cell? _ _ (h 0 (.int .i64 n.bx) rfl)
theorem ln_below {B:Nat} {w w':World} {b o:Nat} {n:Ln} (h:w.rangeAt b o (lnL n)) (hb:Below B w w') (hB:b < B):w'.rangeAt b o (lnL n) :=
 fun j v hv=>(hb.cell (p:=⟨b,o + j,none⟩) hB).trans (h j v hv)
theorem LnRow.below {w w':World} {a:Option Addr} {ns:List Ln} (h:LnRow w a ns) (hb:Below w.heap.size w w'):LnRow w' a ns:=by
 rcases h with h | ⟨b,off,rfl,hc⟩
 ·exact .inl h
 ·exact .inr ⟨b,off,rfl,fun i n hn=>ln_below (hc i n hn) hb (ln_lt (hc i n hn))⟩
theorem infoLine:(Tryz.prog.info? 37).map (fun i=>(i.zero,i.size,i.bytes)) = some (some (.agg #[.int .i64 0,.int .i64 0,.int .i64 0,.int .i64 0,.int .i64 0,.string ByteArray.empty]),6,56):=by kernel_rfl
def flatLn:List Ln → List Value
 | []=>[]
 | x :: xs=>lnL x ++ flatLn xs
theorem flatLn_app:∀ (bs cs:List Ln),flatLn (bs ++ cs) = flatLn bs ++ flatLn cs
 | [],cs=>by simp [flatLn]
 | y :: ys,cs=>by rw [List.cons_append,flatLn,flatLn,flatLn_app ys cs,List.append_assoc]
theorem flatLn_one (x:Ln):flatLn [x] = lnL x:=by simp [flatLn]
theorem flatLn_snoc (bs:List Ln) (x:Ln):flatLn (bs ++ [x]) = flatLn bs ++ lnL x:=by rw [flatLn_app,flatLn_one]
theorem flatLn_at:∀ (bs:List Ln) (i:Nat) (x:Ln) (c:Nat) (v:Value),bs[i]? = some x → (lnL x)[c]? = some v → (flatLn bs)[i * 6 + c]? = some v
 | [],i,x,c,v,h,_=>by simp at h
 | y :: ys,0,x,c,v,h,hv=>by
  simp at h
  subst h
  rw [flatLn,List.getElem?_append_left (by have:=(List.getElem?_eq_some_iff.1 hv).1;rw [lnL_len] at this ⊢;omega)]
  simpa using hv
 | y :: ys,i + 1,x,c,v,h,hv=>by
  have h':ys[i]? = some x:=by simpa using h
  rw [flatLn,List.getElem?_append_right (by rw [lnL_len];omega),lnL_len,show (i + 1) * 6 + c - 6 = i * 6 + c by omega]
  exact flatLn_at ys i x c v h' hv
theorem flatLn_one_cell:∀ (bs:List Ln) (u:Value),u ∈ flatLn bs → u.oneCell' = true
 | [],u,h=>by simp [flatLn] at h
 | x :: xs,u,h=>by
  rw [flatLn,List.mem_append] at h
  rcases h with h | h
  ·simp [lnL] at h
   rcases h with rfl | rfl | rfl | rfl | rfl | rfl <;> rfl
  ·exact flatLn_one_cell xs u h
/-- The slice v owns the lines bs, in a block from B on. -/
def OwnL (w:World) (B:Nat) (v:Value) (bs:List Ln):Prop:=w.ownsRow B 37 6 v bs.length (flatLn bs)
theorem ownL_nil (w:World) (B:Nat):OwnL w B (.slice none 0 0) []:=World.ownsRow_nil w B 37 6
theorem OwnL.base {w:World} {B:Nat} {v:Value} {bs:List Ln} (h:OwnL w B v bs) (k:Nat) (hk:v.ownBlock = some k):B ≤ k:=(World.ownsRow.lt h k hk).1
theorem OwnL.lt {w:World} {B:Nat} {v:Value} {bs:List Ln} (h:OwnL w B v bs) (k:Nat) (hk:v.ownBlock = some k):k < w.heap.size:=(World.ownsRow.lt h k hk).2
theorem OwnL.form {w:World} {B:Nat} {v:Value} {bs:List Ln} (h:OwnL w B v bs):∃ (a:Option Addr) (cap:Nat),v = .slice a bs.length cap ∧ bs.length ≤ cap ∧ LnRow w a bs ∧ (a = none → bs = [] ∧ cap = 0) ∧
  (∀ b,a = some b → ∃ g,b = ⟨g,0,none⟩ ∧ B ≤ g ∧ g < w.heap.size ∧ w.there g 0 (cap * 6)):=by
 rcases h.2 with ⟨rfl,hn⟩ | ⟨g,cap,cur,rfl,hb,hg,hc,hm,hs,ht⟩
 ·have:bs = []:=List.eq_nil_of_length_eq_zero hn
  subst this
  exact ⟨none,0,rfl,Nat.le_refl _,.inl rfl,fun _=>⟨rfl,rfl⟩,fun b hb=>by cases hb⟩
 ·refine ⟨some ⟨g,0,none⟩,cap,rfl,hc,.inr ⟨g,0,rfl,fun i x hx j v hv=>?_⟩,⟨(fun h=>by cases h),(fun b' hb'=>⟨g,by simpa using hb'.symm,hb,lies_lt hg,fun j hj=>?_⟩)⟩⟩
  ·rw [cell_of_row w g _ cur _ _ hg]
   have h1:=flatLn_at bs i x j v hx hv
   rw [← ht] at h1
   have hlt:=(List.getElem?_eq_some_iff.1 h1).1
   rw [List.getElem?_take] at h1
   split at h1
   ·rw [Nat.zero_add]
    simpa using h1
   ·cases h1
  ·refine ⟨?_,?_⟩
   ·rw [cell_of_row w g _ cur _ _ hg,Nat.zero_add,Array.getElem?_eq_getElem (by rw [hs];exact hj)];rfl
   ·exact World.ownsRow.frozenAt (by exact h) (0 + j)
theorem OwnL.below {w w':World} {B C:Nat} {v:Value} {bs:List Ln} (h:OwnL w B v bs) (hb:Below C w w') (hlt:∀ k,v.ownBlock = some k → k < C):OwnL w' B v bs:=by
 refine ⟨h.1,?_⟩
 rcases h.2 with hn | ⟨g,cap,cur,rfl,hbg,hg,rest⟩
 ·exact .inl hn
 ·exact .inr ⟨g,cap,cur,rfl,hbg,(hb.block g (hlt g rfl)).trans hg,rest⟩
theorem OwnL.keep {w w':World} {B:Nat} {v:Value} {bs:List Ln} (h:OwnL w B v bs) (hb:Below w.heap.size w w'):OwnL w' B v bs:=h.below hb fun k hk=>h.lt k hk
theorem OwnL.snoc {w:World} {B n:Nat} {v:Value} {bs:List Ln} {x:Ln} (hn:n = bs.length) (h:w.ownsRow B 37 6 v (n + 1) (flatLn bs ++ lnL x)):OwnL w B v (bs ++ [x]):=by
 subst hn
 unfold OwnL
 rw [List.length_append,flatLn_snoc]
 exact h
theorem six_cells (w:World) (x:Ln) (t:TypeId) (g:Nat) (h:w.heap.size = g):∀ j u,(lnL x)[j]? = some u → (w.alloc (.cells #[.int .i64 x.bx,.int .i64 x.x,.int .i64 x.y,.int .i64 x.w,.int .i64 x.h,.string x.tx] t)).cell? ((⟨g,0,none⟩:Addr).add j) = some u:=by
 subst h
 intro j u hj
 rw [Addr.add_lit]
 have:=cell_of_row (w.alloc (.cells #[.int .i64 x.bx,.int .i64 x.x,.int .i64 x.y,.int .i64 x.w,.int .i64 x.h,.string x.tx] t)) w.heap.size (0 + j) _ t _ (heap_alloc_new w _)
 rw [this,Nat.zero_add]
 simpa [lnL] using hj
theorem lnL_one (x:Ln):∀ u ∈ lnL x,u.oneCell' = true:=fun u hu=>flatLn_one_cell [x] u (by rw [flatLn_one];exact hu)
structure Plc where
 x:Int
 y:Int
 w:Int
 h:Int
def plL (x:Plc):List Value:=[.int .i64 x.x,.int .i64 x.y,.int .i64 x.w,.int .i64 x.h]
theorem plL_len (x:Plc):(plL x).length = 4:=rfl
def pl0:Plc:=⟨0,0,0,0⟩
/-- A slice value at address a reads as the places ns. -/
def PlRow (w:World) (a:Option Addr) (ns:List Plc):Prop :=
 ns = [] ∨ ∃ b off,a = some ⟨b,off,none⟩ ∧ ∀ i n,ns[i]? = some n → w.rangeAt b (off + i * 4) (plL n)
theorem pl_lt {w:World} {b o:Nat} {n:Plc} (h:w.rangeAt b o (plL n)):b < w.heap.size:=World.block_lt_of_cell? _ _ (h 0 (.int .i64 n.x) rfl)
theorem pl_below {B:Nat} {w w':World} {b o:Nat} {n:Plc} (h:w.rangeAt b o (plL n)) (hb:Below B w w') (hB:b < B):w'.rangeAt b o (plL n) :=
 fun j v hv=>(hb.cell (p:=⟨b,o + j,none⟩) hB).trans (h j v hv)
theorem PlRow.below {w w':World} {a:Option Addr} {ns:List Plc} (h:PlRow w a ns) (hb:Below w.heap.size w w'):PlRow w' a ns:=by
 rcases h with h | ⟨b,off,rfl,hc⟩
 ·exact .inl h
 ·exact .inr ⟨b,off,rfl,fun i n hn=>pl_below (hc i n hn) hb (pl_lt (hc i n hn))⟩
end Go.Proofs.YtjnmloaopnbpgaaGreatDoor
