/-
 Contract of stepsOf: by how much each box is moved.
 Rows of places that a call has made.
 What MovePage answers, said once for both sides; its world.
 Clones: of a text, of a line, of floats.
 Floats cloned.
 Whether floats are good, and whether a box is in another one, in the model's layout.
 Whether a page is near, in the model: where it says so, every place is near.
-/
import Derived.Test.YtjnmloaopnbpgaaGreatDoorMg24
import Derived.Test.YtjnmloaopnbpgaaGreatDoorShelfK
import Derived.Test.YtjnmloaopnbpgaaGreatDoorMg17
import Derived.Deep.DeepCutAuto
import Derived.Deep.CutBlock
import Derived.Deep.RegionLawGrows
import Derived.Laws.Cover3
namespace Go.Proofs.YtjnmloaopnbpgaaGreatDoor
open Go.ChangeShapes Go.WideShapes Go.ChangeAt Go.RowKit
set_option linter.unusedVariables false
/-- The moves lie in block g. -/
structure StIn (w:World) (g m:Nat) (ns:List Nd) (bs:List Bx) (k:Nat) (L:List Int):Prop where
 lies:w.heap[g]? = some (.cells (numsV L).toArray 64 (0,0))
 len:L.length = m * 2
 ri:StAt (fun s=>s.ri) ns bs 2 0 k L
 dn:StAt (fun s=>s.dn) ns bs 2 1 k L
def StRet (w:World) (m:Nat) (ns:List Nd) (bs:List Bx) (e:Ending) (w':World):Prop:=∃ (g:Nat) (L:List Int),e = .returned (.slice (some ⟨g,0,none⟩) m m) ∧ w.heap.size ≤ g ∧ StIn w' g m ns bs m L ∧ Below w.heap.size w w'
set_option maxRecDepth 100000 in
set_option maxHeartbeats 4000000 in
theorem stepsOf_any (nb noff n ncap xb xoff m xcap:Nat) (ns:List Nd) (bs:List Bx) (w:World) (hn:n = ns.length) (hm:m = bs.length) (hok:BsOk n bs) (hl:n ≤ 1048576)
  (hc:∀ i x,bs[i]? = some x → w.rangeAt xb (xoff + i * 4) (bxL x)) (hd:∀ i y,ns[i]? = some y → w.rangeAt nb (noff + i * 28) (ndL y)) :
  Calls Tryz.prog 14 #[.slice (some ⟨nb,noff,none⟩) n ncap,.slice (some ⟨xb,xoff,none⟩) m xcap] w fun e w'=>StRet w m ns bs e w':=by
 have hm80:m ≤ 80:=by rw [hm];exact hok.m80
 have MK:=makeS_run m hm80
 have HOK:Hid (BsOk n bs):=hok
 have HN:Hid (n = ns.length):=hn
 have HM:Hid (m = bs.length):=hm
 have HC:Hid (∀ i x,bs[i]? = some x → w.rangeAt xb (xoff + i * 4) (bxL x)):=hc
 have HD:Hid (∀ i y,ns[i]? = some y → w.rangeAt nb (noff + i * 28) (ndL y)):=hd
 clear hok hn hm hc hd
 go_enter Tryz.func14,Tryz.ntmps14
 go_wp2_with fail
 go_loopw [14] (fun i wr=>∃ (k:Nat) (L:List Int),k ≤ m ∧ i = .int .i64 k ∧ StIn wr w.heap.size m ns bs k L ∧ Below w.heap.size w wr) (fun i _=>m - (intOf i).toNat)
 case atStart=>exact ⟨0,List.replicate (m * 2) 0,Nat.zero_le _,rfl,⟨heap_at _ _ _ rfl,by simp,stAt_zero _ _ _ _ _ _,stAt_zero _ _ _ _ _ _⟩,(Below.refl _ _).alloc (Nat.le_refl _) _⟩
 case round =>
  obtain ⟨k,L,hk,rfl,hS,hbw⟩:=hrel
  by_cases hlt:k < m
  ·obtain ⟨x,hx⟩:∃ x,bs[k]? = some x:=⟨_,List.getElem?_eq_getElem (by rw [← HM.out];exact hlt)⟩
   have rx:=bx_below (HC.out k x hx) hbw (bx_lt (HC.out k x hx))
   obtain ⟨p0,p1,p2,p3⟩:=bx_cells rx
   obtain ⟨q,hq,hqn⟩:=HOK.out.nd k x hx
   obtain ⟨u0,u1⟩:=HOK.out.up k x hx
   obtain ⟨y,hy⟩:∃ y,ns[q]? = some y:=⟨_,List.getElem?_eq_getElem (by rw [← HN.out];exact hqn)⟩
   have hlt':(k:Int) < (m:Int):=by omega
   have HX:Hid (bs[k]? = some x):=hx
   have HY:Hid (ns[q]? = some y):=hy
   have HKB:Hid (k < bs.length):=by show k < bs.length;rw [← HM.out];exact hlt
   have HQ:Hid (x.nd = (q:Int)):=hq
   have HS:Hid (StIn wr w.heap.size m ns bs k L):=hS
   have hg:w.heap.size < wr.heap.size:=lies_lt hS.lies
   obtain ⟨W1,hW1⟩:∃ W,W = wr.alloc (.cells #[.int .i64 x.kd,.int .i64 x.nd,.int .i64 x.up,.string x.tx] 41):=⟨_,rfl⟩
   have b1:Below w.heap.size w W1:=by rw [hW1];exact hbw.alloc hbw.size _
   have lx:W1.heap[wr.heap.size]? = some (.cells #[.int .i64 x.kd,.int .i64 x.nd,.int .i64 x.up,.string x.tx] 41 (0,0)):=by rw [hW1];exact heap_at _ _ _ rfl
   have lg:W1.heap[w.heap.size]? = some (.cells (numsV L).toArray 64 (0,0)):=by rw [hW1];exact heap_in hS.lies
   have HLX:Hid (W1.heap[wr.heap.size]? = some (.cells #[.int .i64 x.kd,.int .i64 x.nd,.int .i64 x.up,.string x.tx] 41 (0,0))):=lx
   have HLG:Hid (W1.heap[w.heap.size]? = some (.cells (numsV L).toArray 64 (0,0))):=lg
   have HB1:Hid (Below w.heap.size w W1):=b1
   have c2:W1.cell? ⟨wr.heap.size,2,none⟩ = some (.int .i64 x.up):=(lies_cell lx 2).trans rfl
   clear hx hy hq rx hS hbw b1 lx lg
   go_upto_if 21 with fail
   rw [← hW1]
   clear hW1 p0 p1 p2 p3
   go_cut [] from 22 to 29 (fun wx=>∃ L1:List Int,wx.heap[w.heap.size]? = some (.cells (numsV L1).toArray 64 (0,0)) ∧ wx.heap[wr.heap.size]? = some (.cells #[.int .i64 x.kd,.int .i64 x.nd,.int .i64 x.up,.string x.tx] 41 (0,0)) ∧ L1.length = m * 2 ∧ L1.getD (k * 2) 0 = fromM (stepsM (fun s=>s.ri) ns bs k) bs k ∧ L1.getD (k * 2 + 1) 0 = fromM (stepsM (fun s=>s.dn) ns bs k) bs k ∧ (∀ j,j ≠ k * 2 → j ≠ k * 2 + 1 → L1.getD j 0 = L.getD j 0) ∧ Below w.heap.size w wx)
   case first =>
    by_cases hup:0 ≤ x.up
    ·have HU:Hid (x.up = (x.up.toNat:Int)):=by show _ = _;omega
     have hum:x.up < (m:Int):=by omega
     have d0:W1.cell? ⟨w.heap.size,x.up.toNat * 2,none⟩ = some (.int .i64 (L.getD (x.up.toNat * 2) 0)):=ints_cell HLG.out (by have:=HS.out.len;omega)
     have d1:W1.cell? ⟨w.heap.size,x.up.toNat * 2 + 1,none⟩ = some (.int .i64 (L.getD (x.up.toNat * 2 + 1) 0)):=ints_cell HLG.out (by have:=HS.out.len;omega)
     have e0:W1.cell? ⟨w.heap.size,k * 2,none⟩ = some (.int .i64 (L.getD (k * 2) 0)):=ints_cell HLG.out (by have:=HS.out.len;omega)
     have e1:W1.cell? ⟨w.heap.size,k * 2 + 1,none⟩ = some (.int .i64 (L.getD (k * 2 + 1) 0)):=ints_cell HLG.out (by have:=HS.out.len;omega)
     have f0:=Lib.frozen_of_heap HLG.out (k * 2)
     have f1:=Lib.frozen_of_heap HLG.out (k * 2 + 1)
     go_wp2_with fail
     go_meet
     case rel =>
      have l1:=ints_set HLG.out (k * 2) (L.getD (x.up.toNat * 2) 0)
      have l2:=ints_set l1 (k * 2 + 1) (L.getD (x.up.toNat * 2 + 1) 0)
      have hL:L.length = m * 2:=HS.out.len
      refine ⟨_,l2,?_,?_,?_,?_,?_,?_⟩
      ·exact (Below.heap_setCell _ _ _ _ (by show wr.heap.size ≠ w.heap.size;omega)).trans ((Below.heap_setCell _ _ _ _ (by show wr.heap.size ≠ w.heap.size;omega)).trans HLX.out)
      ·simp only [List.length_set];exact hL
      ·rw [getD_set9 _ _ _ _ (by rw [List.length_set];omega),if_neg (by omega),getD_set9 _ _ _ _ (by omega),if_pos rfl,fromM_up HS.out.ri HX.out HU.out (by have:=HKB.out;omega)]
       rfl
      ·rw [getD_set9 _ _ _ _ (by rw [List.length_set];omega),if_pos rfl,fromM_up HS.out.dn HX.out HU.out (by have:=HKB.out;omega)]
      ·intro j h1 h2
       rw [getD_set9 _ _ _ _ (by rw [List.length_set];omega),if_neg h2,getD_set9 _ _ _ _ (by omega),if_neg h1]
      ·exact (HB1.out.setCell (p:=⟨w.heap.size,k * 2,none⟩) (Nat.le_refl _) _).setCell (p:=⟨w.heap.size,k * 2 + 1,none⟩) (Nat.le_refl _) _
    ·have HUP:Hid (bs[k]? = some x ∧ ¬ 0 ≤ x.up):=⟨HX.out,hup⟩
     go_wp2_with fail
     go_meet
     case rel =>
      refine ⟨L,HLG.out,HLX.out,HS.out.len,?_,?_,fun _ _ _=>rfl,HB1.out⟩
      ·rw [fromM_no HX.out (Int.not_le.2 HUP.out.2)];(have h9:=stAt_free HS.out.ri HKB.out;exact h9)
      ·rw [fromM_no HX.out (Int.not_le.2 HUP.out.2)];(have h9:=stAt_free HS.out.dn HKB.out;exact h9)
   case rest =>
    obtain ⟨L1,l1,lx,n1,g0,g1,go,b2⟩:=hcut
    obtain ⟨V,hV⟩:∃ W,W = wc:=⟨_,rfl⟩
    subst hV
    have c0:V.cell? ⟨wr.heap.size,0,none⟩ = some (.int .i64 x.kd):=(lies_cell lx 0).trans rfl
    have c1:V.cell? ⟨wr.heap.size,1,none⟩ = some (.int .i64 (q:Int)):=(lies_cell lx 1).trans (by rw [← HQ.out];rfl)
    have HL1:Hid (V.heap[w.heap.size]? = some (.cells (numsV L1).toArray 64 (0,0))):=l1
    have HB2:Hid (Below w.heap.size w V):=b2
    have HG:Hid (L1.length = m * 2 ∧ L1.getD (k * 2) 0 = fromM (stepsM (fun s=>s.ri) ns bs k) bs k ∧ L1.getD (k * 2 + 1) 0 = fromM (stepsM (fun s=>s.dn) ns bs k) bs k ∧ (∀ j,j ≠ k * 2 → j ≠ k * 2 + 1 → L1.getD j 0 = L.getD j 0)):=⟨n1,g0,g1,go⟩
    clear l1 b2 n1 g0 g1 go lx HB1 HLG HLX c2
    by_cases hkd:x.kd = 2
    ·clear c1
     go_wp2_with fail
     go_roundw
     case rel=>exact ⟨k + 1,L1,by omega,by go_num,⟨HL1.out,HG.out.1,stAt_next HS.out.ri (by omega) _ rfl (by rw [addM_no HX.out hkd];exact HG.out.2.1) (fun j hj=>HG.out.2.2.2 _ (by omega) (by omega)),stAt_next HS.out.dn (by omega) _ rfl (by rw [addM_no HX.out hkd];exact HG.out.2.2.1) (fun j hj=>HG.out.2.2.2 _ (by omega) (by omega))⟩,HB2.out⟩
     case measure=>simp [intOf];omega
    ·have hnb:nb < w.heap.size:=range_lt (HD.out q y HY.out)
     have hst:V.rangeAt nb (noff + q * 28 + 2) (stCells y.st).toList:=fun j v hj=>by
      have h1:=HD.out q y HY.out (2 + j) v (by
       have e:(stCells y.st).toList = (ndL y).drop 2:=rfl
       rw [e,List.getElem?_drop] at hj
       exact hj)
      rw [← Nat.add_assoc] at h1
      exact (HB2.out.cell (p:=⟨nb,noff + q * 28 + 2 + j,none⟩) hnb).trans h1
     have hlz:L1.length = m * 2:=HG.out.1
     have e0:V.cell? ⟨w.heap.size,k * 2,none⟩ = some (.int .i64 (L1.getD (k * 2) 0)):=ints_cell HL1.out (by omega)
     have e1:V.cell? ⟨w.heap.size,k * 2 + 1,none⟩ = some (.int .i64 (L1.getD (k * 2 + 1) 0)):=ints_cell HL1.out (by omega)
     have HLZ:Hid (L1.length = m * 2):=hlz
     clear hlz
     have hgV:w.heap.size < V.heap.size:=lies_lt HL1.out
     go_wp2_with (first
      | (with_reducible show wpList _ _ _ (⟨some 38,Op.load 73 _,_,_,_,_⟩ :: _) _ _;refine wpList_load_mid rfl 73 _ rfl nb (noff + q * 28 + 2) rfl (stCells y.st).toList _ hst Tryz.underlying73 rfl (by kernel_rfl) ?_)
      | ((with_reducible show wpList _ _ _ (⟨none,Op.store 73 (Operand.tmp 8) (Operand.tmp 38),_,_,_,_⟩ :: _) _ _);refine wpList_store_new rfl 73 _ _ rfl rfl (stCells y.st) 73 _ _ rfl rfl rfl (by kernel_rfl) rfl (by kernel_rfl) ?_)
      | fail)
     obtain ⟨W2,hW2⟩:∃ W,W = V.alloc (.cells (stCells y.st) 73):=⟨_,rfl⟩
     have ls:W2.heap[V.heap.size]? = some (.cells (stCells y.st) 73 (0,0)):=by rw [hW2];exact heap_at _ _ _ rfl
     have l2:W2.heap[w.heap.size]? = some (.cells (numsV L1).toArray 64 (0,0)):=by rw [hW2];exact heap_in HL1.out
     have HL2:Hid (W2.heap[w.heap.size]? = some (.cells (numsV L1).toArray 64 (0,0))):=l2
     have HB3:Hid (Below w.heap.size w W2):=by show Below _ _ _;rw [hW2];exact HB2.out.alloc HB2.out.size _
     have t24:W2.cell? ⟨V.heap.size,24,none⟩ = some (.int .i64 y.st.ri):=(lies_cell ls 24).trans rfl
     have t25:W2.cell? ⟨V.heap.size,25,none⟩ = some (.int .i64 y.st.dn):=(lies_cell ls 25).trans rfl
     have d0:W2.cell? ⟨w.heap.size,k * 2,none⟩ = some (.int .i64 (L1.getD (k * 2) 0)):=ints_cell l2 (by have:=HLZ.out;omega)
     have d1:W2.cell? ⟨w.heap.size,k * 2 + 1,none⟩ = some (.int .i64 (L1.getD (k * 2 + 1) 0)):=ints_cell l2 (by have:=HLZ.out;omega)
     have f0:=Lib.frozen_of_heap l2 (k * 2)
     have f1:=Lib.frozen_of_heap l2 (k * 2 + 1)
     have n1:¬ V.heap.size = w.heap.size:=by omega
     have n2:¬ w.heap.size = V.heap.size:=by omega
     generalize L1.getD (k * 2) 0 = z0 at d0 HG
     generalize L1.getD (k * 2 + 1) 0 = z1 at d1 HG
     rw [← hW2]
     clear hW2 ls l2 e0 e1 hst c0 c1
     generalize V.heap.size = gs at t24 t25 n1 n2 ⊢
     go_region
     all_goals
      go_wp2_with fail
      go_region
      all_goals
       go_wp2_with fail
       go_roundw
       case rel =>
        have l1:=ints_set HL2.out (k * 2) (wrap64 (z0 + y.st.ri))
        have l2:=ints_set l1 (k * 2 + 1) (wrap64 (z1 + y.st.dn))
        have hL:L1.length = m * 2:=HLZ.out
        have A0:z0 = fromM (stepsM (fun s=>s.ri) ns bs k) bs k:=HG.out.2.1
        have A1:z1 = fromM (stepsM (fun s=>s.dn) ns bs k) bs k:=HG.out.2.2.1
        refine ⟨k + 1,_,by omega,by go_num,⟨l2,by simp only [List.length_set];exact hL,?_,?_⟩,?_⟩
        ·refine stAt_next HS.out.ri (by omega) _ rfl ?_ (fun j hj=>?_)
         ·rw [getD_set9 _ _ _ _ (by rw [List.length_set];omega),if_neg (by omega),getD_set9 _ _ _ _ (by omega),if_pos (by omega),addM_yes HX.out hkd HQ.out HY.out,A0]
         ·rw [getD_set9 _ _ _ _ (by rw [List.length_set];omega),if_neg (by omega),getD_set9 _ _ _ _ (by omega),if_neg (by omega)]
          exact HG.out.2.2.2 _ (by omega) (by omega)
        ·refine stAt_next HS.out.dn (by omega) _ rfl ?_ (fun j hj=>?_)
         ·rw [getD_set9 _ _ _ _ (by rw [List.length_set];omega),if_pos rfl,addM_yes HX.out hkd HQ.out HY.out,A1]
         ·rw [getD_set9 _ _ _ _ (by rw [List.length_set];omega),if_neg (by omega),getD_set9 _ _ _ _ (by omega),if_neg (by omega)]
          exact HG.out.2.2.2 _ (by omega) (by omega)
        ·repeat (first | exact HB3.out | refine Below.setCell ?_ (by exact Nat.le_refl _) _ | refine Below.drew ?_)
       case measure=>simp [intOf];omega
  ·have hlt':¬ ((k:Int) < (m:Int)):=by omega
   have hkm:k = m:=by omega
   subst hkm
   have HS:Hid (StIn wr w.heap.size k ns bs k L):=hS
   clear hS
   go_wp2
   go_ret
   exact ⟨w.heap.size,L,rfl,Nat.le_refl _,HS.out,hbw⟩
def flatPl:List Plc → List Value
 | []=>[]
 | x :: xs=>plL x ++ flatPl xs
theorem flatPl_app:∀ (bs cs:List Plc),flatPl (bs ++ cs) = flatPl bs ++ flatPl cs
 | [],cs=>by simp [flatPl]
 | y :: ys,cs=>by rw [List.cons_append,flatPl,flatPl,flatPl_app ys cs,List.append_assoc]
theorem flatPl_one (x:Plc):flatPl [x] = plL x:=by simp [flatPl]
theorem flatPl_snoc (bs:List Plc) (x:Plc):flatPl (bs ++ [x]) = flatPl bs ++ plL x:=by rw [flatPl_app,flatPl_one]
theorem flatPl_at:∀ (bs:List Plc) (i:Nat) (x:Plc) (c:Nat) (v:Value),bs[i]? = some x → (plL x)[c]? = some v → (flatPl bs)[i * 4 + c]? = some v
 | [],i,x,c,v,h,_=>by simp at h
 | y :: ys,0,x,c,v,h,hv=>by
  simp at h
  subst h
  rw [flatPl,List.getElem?_append_left (by have:=(List.getElem?_eq_some_iff.1 hv).1;rw [plL_len] at this ⊢;omega)]
  simpa using hv
 | y :: ys,i + 1,x,c,v,h,hv=>by
  have h':ys[i]? = some x:=by simpa using h
  rw [flatPl,List.getElem?_append_right (by rw [plL_len];omega),plL_len,show (i + 1) * 4 + c - 4 = i * 4 + c by omega]
  exact flatPl_at ys i x c v h' hv
theorem flatPl_one_cell:∀ (bs:List Plc) (u:Value),u ∈ flatPl bs → u.oneCell' = true
 | [],u,h=>by simp [flatPl] at h
 | x :: xs,u,h=>by
  rw [flatPl,List.mem_append] at h
  rcases h with h | h
  ·simp [plL] at h
   rcases h with rfl | rfl | rfl | rfl <;> rfl
  ·exact flatPl_one_cell xs u h
/-- The slice v owns the lines bs, in a block from B on. -/
def OwnQ (w:World) (B:Nat) (v:Value) (bs:List Plc):Prop:=w.ownsRow B 35 4 v bs.length (flatPl bs)
theorem ownQ_nil (w:World) (B:Nat):OwnQ w B (.slice none 0 0) []:=World.ownsRow_nil w B 35 4
theorem OwnQ.lt {w:World} {B:Nat} {v:Value} {bs:List Plc} (h:OwnQ w B v bs) (k:Nat) (hk:v.ownBlock = some k):k < w.heap.size:=(World.ownsRow.lt h k hk).2
theorem OwnQ.form {w:World} {B:Nat} {v:Value} {bs:List Plc} (h:OwnQ w B v bs):∃ (a:Option Addr) (cap:Nat),v = .slice a bs.length cap ∧ bs.length ≤ cap ∧ PlRow w a bs ∧ (a = none → bs = [] ∧ cap = 0) ∧
  (∀ b,a = some b → ∃ g,b = ⟨g,0,none⟩ ∧ B ≤ g ∧ g < w.heap.size ∧ w.there g 0 (cap * 4)):=by
 rcases h.2 with ⟨rfl,hn⟩ | ⟨g,cap,cur,rfl,hb,hg,hc,hm,hs,ht⟩
 ·have:bs = []:=List.eq_nil_of_length_eq_zero hn
  subst this
  exact ⟨none,0,rfl,Nat.le_refl _,.inl rfl,fun _=>⟨rfl,rfl⟩,fun b hb=>by cases hb⟩
 ·refine ⟨some ⟨g,0,none⟩,cap,rfl,hc,.inr ⟨g,0,rfl,fun i x hx j v hv=>?_⟩,⟨(fun h=>by cases h),(fun b' hb'=>⟨g,by simpa using hb'.symm,hb,lies_lt hg,fun j hj=>?_⟩)⟩⟩
  ·rw [cell_of_row w g _ cur _ _ hg]
   have h1:=flatPl_at bs i x j v hx hv
   rw [← ht] at h1
   have hlt:=(List.getElem?_eq_some_iff.1 h1).1
   rw [List.getElem?_take] at h1
   split at h1
   ·rw [Nat.zero_add]
    simpa using h1
   ·cases h1
  ·refine ⟨?_,?_⟩
   ·rw [cell_of_row w g _ cur _ _ hg,Nat.zero_add,Array.getElem?_eq_getElem (by rw [hs];exact hj)];rfl
   ·exact World.ownsRow.frozenAt (by exact h) (0 + j)
theorem OwnQ.below {w w':World} {B C:Nat} {v:Value} {bs:List Plc} (h:OwnQ w B v bs) (hb:Below C w w') (hlt:∀ k,v.ownBlock = some k → k < C):OwnQ w' B v bs:=by
 refine ⟨h.1,?_⟩
 rcases h.2 with hn | ⟨g,cap,cur,rfl,hbg,hg,rest⟩
 ·exact .inl hn
 ·exact .inr ⟨g,cap,cur,rfl,hbg,(hb.block g (hlt g rfl)).trans hg,rest⟩
theorem OwnQ.keep {w w':World} {B:Nat} {v:Value} {bs:List Plc} (h:OwnQ w B v bs) (hb:Below w.heap.size w w'):OwnQ w' B v bs:=h.below hb fun k hk=>h.lt k hk
theorem OwnQ.snoc {w:World} {B n:Nat} {v:Value} {bs:List Plc} {x:Plc} (hn:n = bs.length) (h:w.ownsRow B 35 4 v (n + 1) (flatPl bs ++ plL x)):OwnQ w B v (bs ++ [x]):=by
 subst hn
 unfold OwnQ
 rw [List.length_append,flatPl_snoc]
 exact h
theorem fourP_cells (w:World) (x:Plc) (t:TypeId) (g:Nat) (h:w.heap.size = g):∀ j u,(plL x)[j]? = some u → (w.alloc (.cells #[.int .i64 x.x,.int .i64 x.y,.int .i64 x.w,.int .i64 x.h] t)).cell? ((⟨g,0,none⟩:Addr).add j) = some u:=by
 subst h
 intro j u hj
 rw [Addr.add_lit]
 have:=cell_of_row (w.alloc (.cells #[.int .i64 x.x,.int .i64 x.y,.int .i64 x.w,.int .i64 x.h] t)) w.heap.size (0 + j) _ t _ (heap_alloc_new w _)
 rw [this,Nat.zero_add]
 simpa [plL] using hj
theorem plL_one (x:Plc):∀ u ∈ plL x,u.oneCell' = true:=fun u hu=>flatPl_one_cell [x] u (by rw [flatPl_one];exact hu)
theorem bxEq_eq {x y:Bx} (h:bxEq x y = true):x = y:=by
 obtain ⟨a,b,c,d⟩:=x
 obtain ⟨a',b',c',d'⟩:=y
 unfold bxEq at h
 simp only [Bool.and_eq_true,decide_eq_true_eq,beq_iff_eq] at h
 obtain ⟨⟨⟨rfl,rfl⟩,rfl⟩,h4⟩:=h
 rw [ByteArray.toList_eq,ByteArray.toList_eq] at h4
 have:d = d':=ByteArray.ext (Array.toList_inj.1 h4)
 rw [this]
theorem sameX_eq {xs ys:List Bx} (h:sameX xs ys = true):xs = ys:=by
 unfold sameX at h
 rw [Bool.and_eq_true,decide_eq_true_eq,List.all_eq_true] at h
 obtain ⟨h1,h2⟩:=h
 refine List.ext_getElem? fun i=>?_
 by_cases hi:i < xs.length
 ·have h3:=bxEq_eq (h2 i (List.mem_range.2 hi))
  rw [List.getD_eq_getElem?_getD,List.getD_eq_getElem?_getD,List.getElem?_eq_getElem hi,List.getElem?_eq_getElem (show i < ys.length by omega)] at h3
  rw [List.getElem?_eq_getElem hi,List.getElem?_eq_getElem (show i < ys.length by omega)]
  exact congrArg some h3
 ·rw [List.getElem?_eq_none (by omega),List.getElem?_eq_none (by omega)]
def mvB (ns:List Nd) (P:Pg):Bool:=gbB ns P.bs && decide (P.ps.length = P.bs.length) && linesB P.bs.length P.ls
/-- What is answered. -/
def MovRet (w : World) (ns : List Nd) (P : Pg) (e : Ending) (w' : World) : Prop :=
  ((mvB ns P = false ∧ e = .returned (.tuple #[.agg #[.slice none 0 0, .slice none 0 0, .slice none 0 0, .slice none 0 0, .int .i64 0], .bool false])) ∨
   (mvB ns P = true ∧ ∃ (a1 a2 a3 a4 : Option Addr) (n1 c1 c2 c3 n4 c4 : Nat), e = .returned (.tuple #[.agg #[.slice a1 n1 c1, .slice a2 P.ps.length c2, .slice a3 P.ls.length c3, .slice a4 n4 c4, .int .i64 P.hi], .bool true]) ∧ OwnQ w' w.heap.size (.slice a2 P.ps.length c2) (placesM ns P.bs P.ps P.ps.length) ∧ OwnL w' w.heap.size (.slice a3 P.ls.length c3) (linesM ns P.bs P.ls P.ls.length))) ∧ Below w.heap.size w w'
theorem movRet_no {w w':World} {ns:List Nd} {P:Pg} (h:mvB ns P = false) (hb:Below w.heap.size w w'):MovRet w ns P (.returned (.tuple #[.agg #[.slice none 0 0,.slice none 0 0,.slice none 0 0,.slice none 0 0,.int .i64 0],.bool false])) w':=⟨.inl ⟨h,rfl⟩,hb⟩
theorem mvB_no1 {ns:List Nd} {P:Pg} (h:gbB ns P.bs = false):mvB ns P = false:=by unfold mvB;rw [h];rfl
theorem mvB_no2 {ns:List Nd} {P:Pg} (h:¬ P.ps.length = P.bs.length):mvB ns P = false:=by unfold mvB;rw [decide_eq_false h,Bool.and_false];rfl
theorem mvB_no3 {ns:List Nd} {P:Pg} {i:Nat} {x:Ln} (hx:P.ls[i]? = some x) (h:(decide (0 ≤ x.bx) && decide (x.bx < (P.bs.length:Int))) = false):mvB ns P = false:=by
 unfold mvB
 have:linesB P.bs.length P.ls = false:=by
  cases hl:linesB P.bs.length P.ls with
  | false=>rfl
  | true =>
   unfold linesB at hl
   rw [List.all_eq_true] at hl
   have h2:=hl x (List.mem_of_getElem? hx)
   rw [h] at h2
   cases h2
 rw [this,Bool.and_false]
theorem mvB_yes {ns:List Nd} {P:Pg} (h1:gbB ns P.bs = true) (h2:P.ps.length = P.bs.length) (h3:∀ (i:Nat) (x:Ln),P.ls[i]? = some x → (decide (0 ≤ x.bx) && decide (x.bx < (P.bs.length:Int))) = true):mvB ns P = true:=by
 unfold mvB
 rw [h1,decide_eq_true h2]
 show linesB P.bs.length P.ls = true
 unfold linesB
 rw [List.all_eq_true]
 intro x hx
 obtain ⟨i,hi⟩:=List.getElem?_of_mem hx
 exact h3 i x hi
def pgA' (P:Pg):Array Value:=#[.slice P.ba P.bs.length P.bc,.slice P.pa P.ps.length P.pc,.slice P.la P.ls.length P.lc,.slice P.fa P.fs.length P.fc,.int .i64 P.hi]
/-- Blocks that stand while a page is moved. -/
structure MvAt (w wr:World) (gs gb:Nat) (os ob:Obj) (P:Pg):Prop where
 pg:wr.heap[w.heap.size]? = some (.cells (pgA' P) 29 (0,0))
 rs:wr.heap[w.heap.size + 1]? = some (.cells #[.slice none 0 0,.slice none 0 0,.slice none 0 0,.slice none 0 0,.int .i64 0] 29 (0,0))
 st:wr.heap[gs]? = some os
 bx:wr.heap[gb]? = some ob
 bel:Below w.heap.size w wr
theorem MvAt.below {w wr wr':World} {gs gb:Nat} {os ob:Obj} {P:Pg} (h:MvAt w wr gs gb os ob P) (hb:Below wr.heap.size wr wr'):MvAt w wr' gs gb os ob P :=
 ⟨below_lies hb h.pg (lies_lt h.pg),below_lies hb h.rs (lies_lt h.rs),below_lies hb h.st (lies_lt h.st),below_lies hb h.bx (lies_lt h.bx),h.bel.trans (hb.mono h.bel.size)⟩
/-- A row of another type grew. -/
theorem MvAt.grown {w wr wr':World} {gs gb:Nat} {os ob:Obj} {P:Pg} {row:Option Nat} (h:MvAt w wr gs gb os ob P) (hg:wr.grownBy wr' row) (h1:row ≠ some w.heap.size) (h2:row ≠ some (w.heap.size + 1)) (h3:row ≠ some gs) (h4:row ≠ some gb) (h5:∀ k,row = some k → w.heap.size ≤ k):MvAt w wr' gs gb os ob P :=
 ⟨(hg.block _ (lies_lt h.pg) (fun e=>h1 e.symm)).trans h.pg,(hg.block _ (lies_lt h.rs) (fun e=>h2 e.symm)).trans h.rs,(hg.block _ (lies_lt h.st) (fun e=>h3 e.symm)).trans h.st,(hg.block _ (lies_lt h.bx) (fun e=>h4 e.symm)).trans h.bx,h.bel.trans ⟨hg.os,hg.tape,hg.output,hg.size,fun k hk=>hg.block k (by have:=h.bel.size;omega) (fun e=>by have:=h5 k e.symm;omega)⟩⟩
theorem MvAt.set {w wr:World} {gs gb g i:Nat} {os ob:Obj} {P:Pg} (h:MvAt w wr gs gb os ob P) (v:Value) (h1:g ≠ w.heap.size) (h2:g ≠ w.heap.size + 1) (h3:g ≠ gs) (h4:g ≠ gb) (h5:w.heap.size ≤ g):MvAt w (wr.setCell ⟨g,i,none⟩ v) gs gb os ob P :=
 ⟨(Below.heap_setCell wr ⟨g,i,none⟩ v _ (Ne.symm h1)).trans h.pg,(Below.heap_setCell wr ⟨g,i,none⟩ v _ (Ne.symm h2)).trans h.rs,(Below.heap_setCell wr ⟨g,i,none⟩ v _ (Ne.symm h3)).trans h.st,(Below.heap_setCell wr ⟨g,i,none⟩ v _ (Ne.symm h4)).trans h.bx,h.bel.setCell (p:=⟨g,i,none⟩) h5 _⟩
theorem owns_at9 {w w':World} {B:Nat} {e:TypeId} {size:Nat} {v:Value} {n:Nat} {xs:List Value} (h:w.ownsRow B e size v n xs) (hb:∀ k,v.ownBlock = some k → w'.heap[k]? = w.heap[k]?):w'.ownsRow B e size v n xs:=by
 refine ⟨h.1,?_⟩
 rcases h.2 with hn | ⟨g,cap,cur,rfl,hbg,hg,rest⟩
 ·exact .inl hn
 ·exact .inr ⟨g,cap,cur,rfl,hbg,(hb g rfl).trans hg,rest⟩
theorem rightM_at {ns:List Nd} {bs:List Bx} {L:List Int} {d c:Nat} (h:StAt (fun s=>s.ri) ns bs d c bs.length L) {k:Nat} (hk:k < bs.length):(rightM ns bs).getD k 0 = L.getD (k * d + c) 0:=(h k hk).symm
theorem downM_at {ns:List Nd} {bs:List Bx} {L:List Int} {d c:Nat} (h:StAt (fun s=>s.dn) ns bs d c bs.length L) {k:Nat} (hk:k < bs.length):(downM ns bs).getD k 0 = L.getD (k * d + c) 0:=(h k hk).symm
/-- The next place that is moved, the next line. -/
theorem placesM_no {ns:List Nd} {bs:List Bx} {ps:List Plc} {k:Nat} {x:Bx} {q:Plc} (hx:bs[k]? = some x) (hq:ps[k]? = some q) (h:x.kd = 2):placesM ns bs ps (k + 1) = placesM ns bs ps k ++ [q]:=by
 rw [placesM,List.getD_eq_getElem?_getD,hx,Option.getD_some,if_pos h,List.getD_eq_getElem?_getD,hq,Option.getD_some]
theorem placesM_yes {ns:List Nd} {bs:List Bx} {ps:List Plc} {k:Nat} {x:Bx} {q:Plc} (hx:bs[k]? = some x) (hq:ps[k]? = some q) (h:¬ x.kd = 2):placesM ns bs ps (k + 1) = placesM ns bs ps k ++ [mvP q ((rightM ns bs).getD k 0) ((downM ns bs).getD k 0)]:=by
 rw [placesM,List.getD_eq_getElem?_getD,hx,Option.getD_some,if_neg h,List.getD_eq_getElem?_getD (l:=ps),hq,Option.getD_some]
theorem linesM_next {ns:List Nd} {bs:List Bx} {ls:List Ln} {k q:Nat} {x:Ln} (hx:ls[k]? = some x) (hq:x.bx = (q:Int)):linesM ns bs ls (k + 1) = linesM ns bs ls k ++ [mvL x ((rightM ns bs).getD q 0) ((downM ns bs).getD q 0)]:=by
 rw [linesM,List.getD_eq_getElem?_getD,hx,Option.getD_some,hq,Int.toNat_natCast]
def StayM (p:Prop):Prop:=p
theorem stayM {p:Prop} (h:StayM p):p:=h
theorem clone_any (s:ByteArray) (w:World) (h:s.size ≤ 281474976710656):Calls Tryz.prog 44 #[.string s] w fun e w'=>e = .returned (.string s) ∧ Below w.heap.size w w':=by
 have C:=Tryz.stringslite_Clone s w h
 clear h
 go_enter Tryz.func44,Tryz.ntmps44
 go_wp2_with fail
 refine C.mono ?_
 rintro e w1 ⟨rfl,hb⟩
 clear C
 go_wp2
 go_ret
 exact ⟨rfl,hb⟩
set_option maxRecDepth 100000 in
set_option maxHeartbeats 2000000 in
theorem cloned_any (x:Ln) (w:World) (h:x.tx.size ≤ 281474976710656):Calls Tryz.prog 18 #[.agg #[.int .i64 x.bx,.int .i64 x.x,.int .i64 x.y,.int .i64 x.w,.int .i64 x.h,.string x.tx]] w fun e w'=>e = .returned (.agg #[.int .i64 x.bx,.int .i64 x.x,.int .i64 x.y,.int .i64 x.w,.int .i64 x.h,.string x.tx]) ∧ Below w.heap.size w w':=by
 obtain ⟨W0,hW0⟩:∃ W,W = (w.alloc (.cells #[.int .i64 x.bx,.int .i64 x.x,.int .i64 x.y,.int .i64 x.w,.int .i64 x.h,.string x.tx] 37)).alloc (.cells #[.int .i64 0,.int .i64 0,.int .i64 0,.int .i64 0,.int .i64 0,.string ⟨#[]⟩] 37):=⟨_,rfl⟩
 have b0:Below w.heap.size w W0:=by rw [hW0];exact ((Below.refl _ _).alloc (Nat.le_refl _) _).alloc (by simp) _
 have lA:W0.heap[w.heap.size]? = some (.cells #[.int .i64 x.bx,.int .i64 x.x,.int .i64 x.y,.int .i64 x.w,.int .i64 x.h,.string x.tx] 37 (0,0)):=by rw [hW0];exact heap_in (heap_at _ _ _ rfl)
 have lR:W0.heap[w.heap.size + 1]? = some (.cells #[.int .i64 0,.int .i64 0,.int .i64 0,.int .i64 0,.int .i64 0,.string ⟨#[]⟩] 37 (0,0)):=by rw [hW0];exact heap_at _ _ _ (by simp)
 have C:=clone_any x.tx W0 h
 clear h
 go_enter Tryz.func18,Tryz.ntmps18
 go_wp2_with fail
 rw [← hW0]
 clear hW0
 refine C.mono ?_
 rintro e w1 ⟨rfl,hb⟩
 have b1:=b0.trans (hb.mono b0.size)
 have l1:=below_lies hb lA (lies_lt lA)
 have l2:=below_lies hb lR (lies_lt lR)
 clear C hb lA lR b0
 have c5:w1.cell? ⟨w.heap.size,5,none⟩ = some (.string x.tx):=(lies_cell l1 5).trans rfl
 go_wp2_with (first | ((with_reducible show wpList _ _ _ (⟨none,Op.store 9 (Operand.tmp 6) _,_,_,_,_⟩ :: _) _ _);refine wpList_putA rfl _ _ _ rfl rfl w.heap.size 5 6 [.string x.tx] _ _ rfl rfl l1 rfl (by kernel_rfl) (by kernel_rfl) (by kernel_rfl) ?_;intro W2 p9 l9 n9;refine stayM ?_) | fail)
 have l3:W2.heap[w.heap.size]? = some (.cells #[.int .i64 x.bx,.int .i64 x.x,.int .i64 x.y,.int .i64 x.w,.int .i64 x.h,.string x.tx] 37 (0,0)):=l9.trans (congrArg (fun c=>some (Obj.cells c 37 (0,0))) (show _ = (#[.int .i64 x.bx,.int .i64 x.x,.int .i64 x.y,.int .i64 x.w,.int .i64 x.h,.string x.tx]:Array Value) by kernel_rfl))
 have l4:W2.heap[w.heap.size + 1]? = some (.cells #[.int .i64 0,.int .i64 0,.int .i64 0,.int .i64 0,.int .i64 0,.string ⟨#[]⟩] 37 (0,0)):=(p9.other _ (by omega)).trans l2
 have b2:=p9.below b1 (Nat.le_refl _)
 unfold StayM
 clear l9 p9 n9 l1 l2 c5 b1
 have c0:W2.cell? ⟨w.heap.size,0,none⟩ = some (.int .i64 x.bx):=(lies_cell l3 0).trans rfl
 have c1:W2.cell? ⟨w.heap.size,1,none⟩ = some (.int .i64 x.x):=(lies_cell l3 1).trans rfl
 have c2:W2.cell? ⟨w.heap.size,2,none⟩ = some (.int .i64 x.y):=(lies_cell l3 2).trans rfl
 have c3:W2.cell? ⟨w.heap.size,3,none⟩ = some (.int .i64 x.w):=(lies_cell l3 3).trans rfl
 have c4:W2.cell? ⟨w.heap.size,4,none⟩ = some (.int .i64 x.h):=(lies_cell l3 4).trans rfl
 have c5:W2.cell? ⟨w.heap.size,5,none⟩ = some (.string x.tx):=(lies_cell l3 5).trans rfl
 clear l3
 go_wp2_with (first | ((with_reducible show wpList _ _ _ (⟨none,Op.store 37 (Operand.tmp 2) _,_,_,_,_⟩ :: _) _ _);refine wpList_putA rfl _ _ _ rfl rfl (w.heap.size + 1) 0 6 (#[.int .i64 x.bx,.int .i64 x.x,.int .i64 x.y,.int .i64 x.w,.int .i64 x.h,.string x.tx]:Array Value).toList _ _ rfl rfl l4 rfl (by kernel_rfl) (by kernel_rfl) (by kernel_rfl) ?_;intro W3 p9 l9 n9;refine stayM ?_) | fail)
 have l5:W3.heap[w.heap.size + 1]? = some (.cells #[.int .i64 x.bx,.int .i64 x.x,.int .i64 x.y,.int .i64 x.w,.int .i64 x.h,.string x.tx] 37 (0,0)):=l9.trans (congrArg (fun c=>some (Obj.cells c 37 (0,0))) (show _ = (#[.int .i64 x.bx,.int .i64 x.x,.int .i64 x.y,.int .i64 x.w,.int .i64 x.h,.string x.tx]:Array Value) by kernel_rfl))
 have b3:=p9.below b2 (Nat.le_succ _)
 unfold StayM
 clear l9 p9 n9 l4 c0 c1 c2 c3 c4 c5 b2
 go_wp2
 exact bodyPost_ret (v:=.agg #[.int .i64 x.bx,.int .i64 x.x,.int .i64 x.y,.int .i64 x.w,.int .i64 x.h,.string x.tx]) (results_cell_row Tryz.results18 _ _ (w.heap.size + 1) _ _ _ _ rfl l5 Tryz.underlying37 rfl (by kernel_rfl)) rfl ⟨rfl,b3⟩
theorem eqNil_run (a:Option Addr) (l c:Nat) (w:World):(binOp .eql 27 (.slice a l c) (.slice none 0 0)).run Tryz.prog w = .ok (.bool a.isNone) w:=by
 simp only [binOp]
 simp [run_equal_slice_nil w 27 61 a l c Tryz.underlying27]
/-- Some slice is answered. -/
def RetV (e:Ending):Prop:=∃ (a:Option Addr) (n c:Nat),e = .returned (.slice a n c)
theorem retV (a:Option Addr) (n c:Nat):RetV (.returned (.slice a n c)):=⟨a,n,c,rfl⟩
theorem own_slice {w:World} {B:Nat} {e:TypeId} {size:Nat} {v:Value} {n:Nat} {xs:List Value} (h:w.ownsRow B e size v n xs):∃ (a:Option Addr) (n c:Nat),v = .slice a n c:=by
 rcases h.2 with ⟨rfl,hn⟩ | ⟨g,cap,cur,rfl,_⟩
 ·exact ⟨_,_,_,rfl⟩
 ·exact ⟨_,_,_,rfl⟩
set_option maxRecDepth 100000 in
set_option maxHeartbeats 2000000 in
theorem cloneA_any (a:Option Addr) (n cap:Nat) (l:List Asd) (w:World) (hn:n = l.length) (hr:AsRow w a l) (hl:n ≤ 1000):Calls Tryz.prog 15 #[.slice a n cap] w fun e w'=>RetV e ∧ Below w.heap.size w w':=by
 obtain ⟨i0,hi,hz0,hz1,hz2⟩:=info_parts infoAside
 rcases hr with h0 | ⟨b,off,rfl,hc⟩
 ·subst h0
  simp at hn
  subst hn
  cases a with
  | none =>
   have EN:=fun w=>eqNil_run none 0 cap w
   go_enter Tryz.func15,Tryz.ntmps15
   go_wp2
   go_ret
   exact ⟨retV _ _ _,Below.refl _ _⟩
  | some p =>
   have EN:=fun w=>eqNil_run (some p) 0 cap w
   have hown0:(w.alloc (.cells #[] 61)).ownsRow w.heap.size 61 5 (.slice (some ⟨w.heap.size,0,none⟩) 0 0) 0 []:=World.ownsRow_made w #[] 0 (Nat.le_refl _) (by unfold maxLen;omega) (by simp)
   go_enter Tryz.func15,Tryz.ntmps15
   go_wp2_with (at_builtin;refine wpList_append_own _ rfl (.tmp 5) (.tmp 6) 27 rfl w.heap.size 61 i0 _ 5 40 Tryz.underlying27 hi hz0 hz1 hz2 rfl (by decide) _ _ _ rfl hown0 p 0 cap [] rfl rfl (fun j u hj=>by simp at hj) (fun u hu=>by simp at hu) (by unfold maxLen;omega) (by omega) (by simp) ?_)
   intro v1 w1' hown1 hgrow1 _
   have bw1:Below w.heap.size w w1':=((Below.refl w.heap.size w).alloc (Nat.le_refl _) _).grown hgrow1 (by simp) (fun j hj=>(hown0.lt j hj).1)
   obtain ⟨a9,n9,c9,rfl⟩:=own_slice hown1
   clear hown1 hgrow1
   go_wp2
   go_ret
   exact ⟨retV _ _ _,bw1⟩
 ·have hown0:(w.alloc (.cells #[] 61)).ownsRow w.heap.size 61 5 (.slice (some ⟨w.heap.size,0,none⟩) 0 0) 0 []:=World.ownsRow_made w #[] 0 (Nat.le_refl _) (by unfold maxLen;omega) (by simp)
  have hlen:(flatA l).length = n * 5:=by rw [flatA_len,hn]
  have hcell:∀ j u,(flatA l)[j]? = some u → (w.alloc (.cells #[] 61)).cell? ((⟨b,off,none⟩:Addr).add j) = some u:=fun j u hj=>by
   rw [Addr.add_lit]
   have hj':j < n * 5:=by have:=(List.getElem?_eq_some_iff.1 hj).1;omega
   obtain ⟨x,hx⟩:∃ x,l[j / 5]? = some x:=⟨_,List.getElem?_eq_getElem (by omega)⟩
   obtain ⟨v,hv⟩:∃ v,(asL x)[j % 5]? = some v:=⟨_,List.getElem?_eq_getElem (by have:(asL x).length = 5:=rfl;have:=Nat.mod_lt j (show 0 < 5 by omega);omega)⟩
   have h1:=flatA_at l (j / 5) x (j % 5) v hx hv
   rw [show j / 5 * 5 + j % 5 = j by omega] at h1
   rw [h1] at hj
   injection hj with hj
   subst hj
   have h2:=hc (j / 5) x hx (j % 5) v hv
   rw [show off + j / 5 * 5 + j % 5 = off + j by omega] at h2
   have hb:b < w.heap.size:=World.block_lt_of_cell? _ ⟨b,off + j,none⟩ h2
   exact (((Below.refl _ _).alloc (Nat.le_refl w.heap.size) _).cell (p:=⟨b,off + j,none⟩) hb).trans h2
  have hone:∀ u ∈ flatA l,u.oneCell' = true:=flatA_one_cell l
  have EN:=fun w=>eqNil_run (some ⟨b,off,none⟩) n cap w
  clear hn hc
  go_enter Tryz.func15,Tryz.ntmps15
  go_wp2_with (at_builtin;refine wpList_append_own _ rfl (.tmp 5) (.tmp 6) 27 rfl w.heap.size 61 i0 _ 5 40 Tryz.underlying27 hi hz0 hz1 hz2 rfl (by decide) _ _ _ rfl hown0 ⟨b,off,none⟩ n cap (flatA l) rfl hlen hcell hone (by unfold maxLen;omega) (by omega) (by simp) ?_)
  intro v1 w1' hown1 hgrow1 _
  have bw1:Below w.heap.size w w1':=((Below.refl w.heap.size w).alloc (Nat.le_refl _) _).grown hgrow1 (by simp) (fun j hj=>(hown0.lt j hj).1)
  obtain ⟨a9,n9,c9,rfl⟩:=own_slice hown1
  clear hown1 hgrow1 hown0 hcell hone hlen
  go_wp2
  go_ret
  exact ⟨retV _ _ _,bw1⟩
theorem l7Place_ret (n:Int) (w:World):Calls Tryz.prog 27 #[.int .i64 n] w fun e w'=>RetB e ∧ w' = w:=(l7Place_any n w).mono fun e w' ⟨h,hw⟩=>⟨⟨_,h⟩,hw⟩
theorem l7Span_ret (n:Int) (w:World):Calls Tryz.prog 47 #[.int .i64 n] w fun e w'=>RetB e ∧ w' = w:=(l7Span_any n w).mono fun e w' ⟨h,hw⟩=>⟨⟨_,h⟩,hw⟩
set_option maxHeartbeats 4000000 in
theorem l7Good_ret (a:Option Addr) (n cap:Nat) (l:List Asd) (w:World) (hn:n = l.length) (hr:AsRow w a l) (hl:n ≤ 1000) :
  Calls Tryz.prog 63 #[.slice a n cap] w fun e w'=>RetB e ∧ Below w.heap.size w w':=by
 have HN:Hid (n = l.length):=hn
 have HR:Hid (AsRow w a l):=hr
 clear hn hr
 go_enter Tryz.func63,Tryz.ntmps63
 go_wp2_with fail
 go_loopw [7] (fun i wr=>∃ k:Nat,k ≤ n ∧ i = .int .i64 k ∧ Below w.heap.size w wr) (fun i _=>n - (intOf i).toNat)
 case atStart=>exact ⟨0,Nat.zero_le _,rfl,Below.refl _ _⟩
 case round =>
  obtain ⟨k,hk,rfl,hbw⟩:=hrel
  by_cases hlt:k < n
  rotate_left
  ·by_cases hbig:(n:Int) ≤ 40
   all_goals
    go_wp2
    go_ret
    exact ⟨retB _,hbw⟩
  obtain ⟨x,hx⟩:∃ x,l[k]? = some x:=⟨_,List.getElem?_eq_getElem (by have:=HN.out;omega)⟩
  obtain ⟨b,off,rfl,hc⟩:=as_some HR.out hx
  have hr:=as_below (hc k x hx) hbw (as_lt (hc k x hx))
  obtain ⟨q0,q1,q2,q3,q4⟩:=as_cells hr
  have b2:∀ o,Below w.heap.size w (wr.alloc o):=fun o=>hbw.alloc hbw.size _
  clear hc hx hr hbw
  go_wp2_with fail
  refine (l7Place_ret _ _).mono ?_
  rintro e w' ⟨⟨bb,rfl⟩,hw'⟩
  subst hw'
  cases bb
  ·go_wp2
   go_ret
   exact ⟨retB _,b2 _⟩
  go_wp2_with fail
  refine (l7Place_ret _ _).mono ?_
  rintro e w' ⟨⟨bb,rfl⟩,hw'⟩
  subst hw'
  cases bb
  ·go_wp2
   go_ret
   exact ⟨retB _,b2 _⟩
  go_wp2_with fail
  refine (l7Place_ret _ _).mono ?_
  rintro e w' ⟨⟨bb,rfl⟩,hw'⟩
  subst hw'
  cases bb
  ·go_wp2
   go_ret
   exact ⟨retB _,b2 _⟩
  go_wp2_with fail
  refine (l7Place_ret _ _).mono ?_
  rintro e w' ⟨⟨bb,rfl⟩,hw'⟩
  subst hw'
  cases bb
  ·go_wp2
   go_ret
   exact ⟨retB _,b2 _⟩
  go_wp2_with fail
  refine (l7Span_ret _ _).mono ?_
  rintro e w' ⟨⟨bb,rfl⟩,hw'⟩
  subst hw'
  cases bb
  ·go_wp2
   go_ret
   exact ⟨retB _,b2 _⟩
  go_wp2_with fail
  refine (l7Span_ret _ _).mono ?_
  rintro e w' ⟨⟨bb,rfl⟩,hw'⟩
  subst hw'
  cases bb
  ·go_wp2
   go_ret
   exact ⟨retB _,b2 _⟩
  go_wp2
  go_roundw
  case rel=>exact ⟨k + 1,by omega,by go_num,b2 _⟩
  case measure=>simp [intOf];omega
theorem within_ret (E:Le) (hE:LeOk E) (i:Nat) (k:Int) (B:Nat) (w:World) (hi:i < E.m) (hle:LeAt w B E) :
  Calls Tryz.prog 95 #[.slice (some ⟨E.xb,E.xoff,none⟩) E.m E.xcap,.int .i64 (i:Int),.int .i64 k] w fun e w'=>RetB e ∧ w' = w:=by
 have HLE:Hid (LeAt w B E):=hle
 clear hle
 go_enter Tryz.func95,Tryz.ntmps95
 go_wp2_with fail
 go_loop [1] (fun i=>∃ j:Int,-1 ≤ j ∧ j < (E.m:Int) ∧ i = .int .i64 j) (fun i=>(intOf i + 1).toNat)
 case atStart=>exact ⟨_,by omega,by omega,rfl⟩
 case round =>
  obtain ⟨j,hj,hjm,rfl⟩:=hrel
  by_cases h0:0 ≤ j
  rotate_left
  ·go_wp2
   go_ret
   exact ⟨retB _,rfl⟩
  by_cases hz:j = k
  ·subst hz
   go_wp2
   go_ret
   exact ⟨retB _,rfl⟩
  have bz:(j == k) = false:=by simpa using hz
  obtain ⟨m,rfl⟩:∃ m:Nat,j = (m:Int):=⟨j.toNat,by omega⟩
  obtain ⟨x,hx⟩:∃ x,E.bs[m]? = some x:=⟨_,List.getElem?_eq_getElem (by rw [← hE.m];omega)⟩
  have hup:=hE.up m x hx
  have hc:w.cell? ⟨E.xb,E.xoff + m * 4 + 2,none⟩ = some (.int .i64 x.up):=HLE.out.bxs m x hx 2 (.int .i64 x.up) rfl
  clear hz
  go_wp2
  go_round
  case rel=>exact ⟨x.up,by omega,by omega,rfl⟩
  case measure=>simp [intOf];omega
/-- A row of a context stands where its block does. -/
theorem own_stand {w w':World} {B:Nat} {e:TypeId} {size:Nat} {v:Value} {n:Nat} {xs:List Value} (h:w.ownsRow B e size v n xs) (hb:∀ b,v.ownBlock = some b → w'.heap[b]? = w.heap[b]?):w'.ownsRow B e size v n xs:=by
 refine ⟨h.1,?_⟩
 rcases h.2 with hn | ⟨g,cap,cur,rfl,hbg,hgg,rest⟩
 ·exact .inl hn
 ·exact .inr ⟨g,cap,cur,rfl,hbg,(hb g rfl).trans hgg,rest⟩
theorem Ctx.stand {w w':World} {B g P:Nat} {E:Le} {c:Cs} (h:Ctx w B g P E c) (hb:∀ b,c.own g P b → w'.heap[b]? = w.heap[b]?):Ctx w' B g P E c :=
 ⟨h.hg,(hb g (.inl rfl)).trans h.lies,h.hP,(hb P (.inr (.inl rfl))).trans h.pl,h.psl,own_stand h.ol (fun b e=>hb b (.inr (.inr (.inl e)))),own_stand h.of (fun b e=>hb b (.inr (.inr (.inr (.inl e))))),own_stand h.oo (fun b e=>hb b (.inr (.inr (.inr (.inr e))))),h.lok,h.ook⟩
/-- What lies beside a context while a float is laid: the style, the widths, and the float's own context. -/
structure Sd (E:Le) (B g P q ga:Nat) (s:St) (aL aW aR:Int) (B2 g2 P2:Nat) (ci c:Cs) (W:World):Prop where
 ctx:Ctx W B g P E c
 le:LeAt W B E
 sty:W.heap[q]? = some (.cells (stCells s) 73 (0,0))
 nq:¬ c.own g P q
 acr:W.heap[ga]? = some (.cells #[.int .i64 aL,.int .i64 aW,.int .i64 aR] 110 (0,0))
 na:¬ c.own g P ga
 inn:Ctx W B2 g2 P2 E ci
 ni:∀ b,ci.own g2 P2 b → ¬ c.own g P b
theorem Sd.goes {E:Le} {B g P q ga:Nat} {s:St} {aL aW aR:Int} {B2 g2 P2:Nat} {ci c c':Cs} {W W':World} (h:Sd E B g P q ga s aL aW aR B2 g2 P2 ci c W) (G:Goes B g P E c W c' W'):Sd E B g P q ga s aL aW aR B2 g2 P2 ci c' W' :=
 ⟨G.ctx,h.le.below (G.below h.ctx),G.other h.sty h.nq,G.not_own (lies_lt h.sty) h.nq,G.other h.acr h.na,G.not_own (lies_lt h.acr) h.na,h.inn.stand (fun b hb=>G.mv.block b (h.inn.own_lt hb) (h.ni b hb)),fun b hb=>G.not_own (h.inn.own_lt hb) (h.ni b hb)⟩
theorem Sd.keep {E:Le} {B g P q ga:Nat} {s:St} {aL aW aR:Int} {B2 g2 P2:Nat} {ci c:Cs} {W W':World} (h:Sd E B g P q ga s aL aW aR B2 g2 P2 ci c W) (hb:Below W.heap.size W W'):Sd E B g P q ga s aL aW aR B2 g2 P2 ci c W':=h.goes (Goes.keep h.ctx hb)
/-- A float in a block of its own, a place in one. -/
def AsAt (W:World) (b:Nat) (x:Asd):Prop:=W.heap[b]? = some (.cells #[.int .i64 x.sd,.int .i64 x.x,.int .i64 x.y,.int .i64 x.w,.int .i64 x.h] 61 (0,0))
def PlAt (W:World) (b:Nat) (x y u v:Int):Prop:=W.heap[b]? = some (.cells #[.int .i64 x,.int .i64 y,.int .i64 u,.int .i64 v] 35 (0,0))
theorem len_trans {a b c:Cs} (h:Len a b) (h':Len b c):Len a c:=⟨h'.1.trans h.1,h'.2.1.trans h.2.1,h'.2.2.trans h.2.2⟩
/-- All of a place is set. -/
theorem Ctx.setPl {w:World} {B g P:Nat} {E:Le} {c:Cs} (h:Ctx w B g P E c) (j:Nat) (x y u v:Int):∃ c',Goes B g P E c w c' ((((w.setCell ⟨P,j,none⟩ (.int .i64 x)).setCell ⟨P,j + 1,none⟩ (.int .i64 y)).setCell ⟨P,j + 2,none⟩ (.int .i64 u)).setCell ⟨P,j + 3,none⟩ (.int .i64 v)) ∧ Len c c':=by
 have G1:=h.setP j x
 have G2:=G1.trans (G1.ctx.setP (j + 1) y)
 have G3:=G2.trans (G2.ctx.setP (j + 2) u)
 have G4:=G3.trans (G3.ctx.setP (j + 3) v)
 exact ⟨_,G4,rfl,rfl,rfl⟩
def FitRet (ps:List Plc) (e:Ending):Prop:=∃ b:Bool,e = .returned (.bool b) ∧ (b = true → ∀ q ∈ ps,nearQ q = true)
theorem fit_no (ps:List Plc):FitRet ps (.returned (.bool false)):=⟨false,rfl,fun h=>by cases h⟩
theorem fit_any {ps:List Plc} (h:∀ q ∈ ps,nearQ q = true) (b:Bool):FitRet ps (.returned (.bool b)):=⟨b,rfl,fun _=>h⟩
theorem ln_some9 {w:World} {a:Option Addr} {bs:List Ln} (hr:LnRow w a bs) {i:Nat} {x:Ln} (h:bs[i]? = some x):∃ b off,a = some ⟨b,off,none⟩ ∧ ∀ i n,bs[i]? = some n → w.rangeAt b (off + i * 6) (lnL n):=by
 rcases hr with h0 | h0
 ·rw [h0] at h;simp at h
 ·exact h0
theorem l9Near_ret (x y w h:Int) (W:World):Calls Tryz.prog 28 #[.int .i64 x,.int .i64 y,.int .i64 w,.int .i64 h] W fun e w'=>RetB e ∧ w' = W:=(l9Near_any x y w h W).mono fun e w' ⟨h,hw⟩=>⟨⟨_,h⟩,hw⟩
set_option maxRecDepth 100000 in
set_option maxHeartbeats 4000000 in
theorem fits_any (ba pa la fa:Option Addr) (bc pc lc fc nb np nl nf:Nat) (ps:List Plc) (ls:List Ln) (fs:List Asd) (hi:Int) (w:World) (hp:np = ps.length) (hl:nl = ls.length) (hf:nf = fs.length) (rp:PlRow w pa ps) (rl:LnRow w la ls) (rf:AsRow w fa fs) (np1:np ≤ 1000) (nl1:nl ≤ 200000) (nf1:nf ≤ 1000) :
  Calls Tryz.prog 38 #[.agg #[.slice ba nb bc,.slice pa np pc,.slice la nl lc,.slice fa nf fc,.int .i64 hi]] w fun e w'=>FitRet ps e ∧ Below w.heap.size w w':=by
 have HS:Hid (PlRow w pa ps):=rp
 have HLR:Hid (LnRow w la ls):=rl
 have HFR:Hid (AsRow w fa fs):=rf
 have H1:Hid (np = ps.length):=hp
 have H2:Hid (nl = ls.length):=hl
 have H3:Hid (nf = fs.length):=hf
 clear rp rl rf hp hl hf
 have l0:(w.alloc (.cells #[.slice ba nb bc,.slice pa np pc,.slice la nl lc,.slice fa nf fc,.int .i64 hi] 29)).heap[w.heap.size]? = some (.cells #[.slice ba nb bc,.slice pa np pc,.slice la nl lc,.slice fa nf fc,.int .i64 hi] 29 (0,0)):=heap_at _ _ _ rfl
 have b0:Below w.heap.size w (w.alloc (.cells #[.slice ba nb bc,.slice pa np pc,.slice la nl lc,.slice fa nf fc,.int .i64 hi] 29)):=(Below.refl _ _).alloc (Nat.le_refl _) _
 go_enter Tryz.func38,Tryz.ntmps38
 go_wp2_with fail
 go_loopw [10] (fun i wr=>∃ k:Nat,k ≤ np ∧ i = .int .i64 k ∧ Hid (∀ (i:Nat) (q:Plc),i < k → ps[i]? = some q → nearQ q = true) ∧ wr.heap[w.heap.size]? = some (.cells #[.slice ba nb bc,.slice pa np pc,.slice la nl lc,.slice fa nf fc,.int .i64 hi] 29 (0,0)) ∧ Below w.heap.size w wr) (fun i _=>np - (intOf i).toNat)
 case atStart=>exact ⟨0,Nat.zero_le _,rfl,(fun i x hi=>absurd hi (by omega):∀ (i:Nat) (q:Plc),i < 0 → ps[i]? = some q → nearQ q = true),l0,b0⟩
 case round =>
  clear l0 b0
  obtain ⟨k,hk,rfl,HP,l0,hbw⟩:=hrel
  by_cases hlt:k < np
  ·obtain ⟨z,hz⟩:∃ z,ps[k]? = some z:=⟨_,List.getElem?_eq_getElem (by have:=H1.out;omega)⟩
   obtain ⟨b',off',rfl,hc'⟩:=pl_some HS.out hz
   have hr':=pl_below (hc' k z hz) hbw (pl_lt (hc' k z hz))
   obtain ⟨r0,r1,r2,r3⟩:=pl_cells hr'
   have HZ2:Hid (ps[k]? = some z):=hz
   have m0:=heap_in (o:=.cells #[.int .i64 z.x,.int .i64 z.y,.int .i64 z.w,.int .i64 z.h] 35) l0
   have b2:Below w.heap.size w (wr.alloc (.cells #[.int .i64 z.x,.int .i64 z.y,.int .i64 z.w,.int .i64 z.h] 35)):=hbw.alloc hbw.size _
   have HQ:Hid (nearQ z = nearP z.x z.y z.w z.h):=rfl
   clear hc' hz hr' hbw l0
   go_wp2_with fail
   refine (l9Near_any z.x z.y z.w z.h _).mono ?_
   rintro e w' ⟨rfl,hw'⟩
   have hw':=hw'.symm
   subst hw'
   rcases Bool.eq_false_or_eq_true (nearP z.x z.y z.w z.h) with hn | hn
   ·have HP2:Hid (∀ (i:Nat) (q:Plc),i < k + 1 → ps[i]? = some q → nearQ q = true):=fun i q hi hq=>by
     by_cases e:i < k
     ·exact HP.out i q e hq
     ·have:i = k:=by omega
      subst this
      have e2:q = z:=Option.some.inj (hq.symm.trans HZ2.out)
      rw [e2,HQ.out]
      exact hn
    rw [hn]
    clear hn
    go_wp2
    go_roundw
    case rel=>exact ⟨k + 1,by omega,by go_num,HP2,m0,b2⟩
    case measure=>simp [intOf];omega
   ·rw [hn]
    clear hn
    go_wp2
    go_ret
    exact ⟨fit_no _,b2⟩
  ·have ALL:Hid (∀ q ∈ ps,nearQ q = true):=fun q hq=>by
    obtain ⟨i,hi,rfl⟩:=List.mem_iff_getElem.1 hq
    exact HP.out i _ (by have:=H1.out;omega) (List.getElem?_eq_getElem hi)
   obtain ⟨U,hU⟩:∃ W,W = wr:=⟨_,rfl⟩
   subst hU
   have c2:U.cell? ⟨w.heap.size,2,none⟩ = some (.slice la nl lc):=(lies_cell l0 2).trans rfl
   have hsU:=hbw.size
   have HBU:Hid (Below w.heap.size w U):=hbw
   have HL0:Hid (U.heap[w.heap.size]? = some (.cells #[.slice ba nb bc,.slice pa np pc,.slice la nl lc,.slice fa nf fc,.int .i64 hi] 29 (0,0))):=l0
   clear HP hbw l0
   go_wp2_with fail
   go_loopw [28] (fun i wr=>∃ k:Nat,k ≤ nl ∧ i = .int .i64 k ∧ Below U.heap.size U wr) (fun i _=>nl - (intOf i).toNat)
   case atStart=>exact ⟨0,Nat.zero_le _,rfl,Below.refl _ _⟩
   case round =>
    obtain ⟨k2,hk2,rfl,hb2⟩:=hrel
    have B2:Below w.heap.size w wr:=HBU.out.trans (hb2.mono hsU)
    by_cases hlt2:k2 < nl
    ·obtain ⟨z,hz⟩:∃ z,ls[k2]? = some z:=⟨_,List.getElem?_eq_getElem (by have:=H2.out;omega)⟩
     obtain ⟨b',off',rfl,hc'⟩:=ln_some9 HLR.out hz
     have lb':b' < w.heap.size:=World.block_lt_of_cell? _ ⟨b',off' + k2 * 6 + 0,none⟩ (hc' k2 z hz 0 (.int .i64 z.bx) rfl)
     have hr':wr.rangeAt b' (off' + k2 * 6) (lnL z):=fun j v hv=>(B2.cell (p:=⟨b',off' + k2 * 6 + j,none⟩) lb').trans (hc' k2 z hz j v hv)
     have r0:wr.cell? ⟨b',off' + k2 * 6,none⟩ = some (.int .i64 z.bx):=hr' 0 _ rfl
     have r1:wr.cell? ⟨b',off' + k2 * 6 + 1,none⟩ = some (.int .i64 z.x):=hr' 1 _ rfl
     have r2:wr.cell? ⟨b',off' + k2 * 6 + 2,none⟩ = some (.int .i64 z.y):=hr' 2 _ rfl
     have r3:wr.cell? ⟨b',off' + k2 * 6 + 3,none⟩ = some (.int .i64 z.w):=hr' 3 _ rfl
     have r4:wr.cell? ⟨b',off' + k2 * 6 + 4,none⟩ = some (.int .i64 z.h):=hr' 4 _ rfl
     have r5:wr.cell? ⟨b',off' + k2 * 6 + 5,none⟩ = some (.string z.tx):=hr' 5 _ rfl
     have b3:∀ o,Below U.heap.size U (wr.alloc o):=fun o=>hb2.alloc hb2.size o
     have b4:∀ o,Below w.heap.size w (wr.alloc o):=fun o=>B2.alloc B2.size o
     clear hc' hz hr' hb2 B2
     go_wp2_with fail
     refine (l9Near_ret _ _ _ _ _).mono ?_
     rintro e w' ⟨⟨bb,rfl⟩,hw'⟩
     have hw':=hw'.symm
     subst hw'
     cases bb
     ·go_wp2
      go_ret
      exact ⟨fit_no _,b4 _⟩
     ·go_wp2
      go_roundw
      case rel=>exact ⟨k2 + 1,by omega,by go_num,b3 _⟩
      case measure=>simp [intOf];omega
    ·have c3:wr.cell? ⟨w.heap.size,3,none⟩ = some (.slice fa nf fc):=(lies_cell (below_lies hb2 HL0.out (lies_lt HL0.out)) 3).trans rfl
     have GD:=l7Good_ret fa nf fc fs wr H3.out (HFR.out.below B2) nf1
     clear hb2
     go_wp2_with fail
     refine GD.mono ?_
     rintro e w5 ⟨⟨bb,rfl⟩,hb5⟩
     have B5:=B2.trans (hb5.mono B2.size)
     clear GD hb5 c3
     go_wp2
     go_ret
     exact ⟨fit_any ALL.out _,B5⟩
end Go.Proofs.YtjnmloaopnbpgaaGreatDoor
