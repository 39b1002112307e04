/-
 The model's lines of a text beside floats: they end, and they are no more than the text has breaks.
 A line or a float is put behind those of a context.
-/
import Derived.Test.YtjnmloaopnbpgaaGreatDoorMg18
import Derived.Deep.DeepCutAuto
import Derived.Deep.CutBlock
namespace Go.Proofs.YtjnmloaopnbpgaaGreatDoor
open Go.ChangeShapes Go.WideShapes Go.ChangeAt Go.RowKit
set_option linter.unusedVariables false
/-- What the loop over a text holds. -/
structure Lp (fa fd fn fu fb:Int) (s:St) (a:Option Addr) (l:List Asd) (w wr:World):Prop where
 bel:Below w.heap.size w wr
 fo:BoxAt wr w.heap.size fa fd fn fu fb
 st:wr.heap[w.heap.size + 1]? = some (.cells (stCells s) 73 (0,0))
 fh:wr.heap[w.heap.size]? = some (.cells #[.int .i64 fa,.int .i64 fd,.int .i64 fn,.int .i64 fu,.int .i64 fb] 48 (0,0))
theorem Lp.call {fa fd fn fu fb:Int} {s:St} {a:Option Addr} {l:List Asd} {w wr wx:World} (h:Lp fa fd fn fu fb s a l w wr) (hb:Below wr.heap.size wr wx):Lp fa fd fn fu fb s a l w wx:=⟨h.bel.trans (hb.mono h.bel.size),h.fo.below hb,below_lies hb h.st (lies_lt h.st),below_lies hb h.fh (lies_lt h.fh)⟩
theorem lp_start (fa fd fn fu fb:Int) (s:St) (a:Option Addr) (l:List Asd) (w:World):Lp fa fd fn fu fb s a l w ((w.alloc (.cells #[.int .i64 fa,.int .i64 fd,.int .i64 fn,.int .i64 fu,.int .i64 fb] 48)).alloc (.cells (stCells s) 73)) :=
 ⟨((Below.refl _ _).alloc (Nat.le_refl _) _).alloc (by simp) _,(box_new w fa fd fn fu fb).below ((Below.refl _ _).alloc (Nat.le_refl _) _),heap_at _ _ _ (by simp),heap_in (heap_at _ _ _ rfl)⟩
theorem Lp.set {fa fd fn fu fb:Int} {s:St} {a:Option Addr} {l:List Asd} {w wr:World} {p i:Nat} {v:Value} (h:Lp fa fd fn fu fb s a l w wr) (hp:w.heap.size + 1 < p):Lp fa fd fn fu fb s a l w (wr.setCell ⟨p,i,none⟩ v):=by
 have hc:∀ j,(wr.setCell ⟨p,i,none⟩ v).cell? ⟨w.heap.size,j,none⟩ = wr.cell? ⟨w.heap.size,j,none⟩:=fun j=>World.cell?_setCell_far _ _ _ _ (by show p ≠ w.heap.size;omega)
 obtain ⟨f0,f1,f2,f3,f4,f5⟩:=h.fo
 exact ⟨h.bel.setCell (p:=⟨p,i,none⟩) (by show w.heap.size ≤ p;omega) v,⟨by simpa using f0,(hc 0).trans f1,(hc 1).trans f2,(hc 2).trans f3,(hc 3).trans f4,(hc 4).trans f5⟩,(Below.heap_setCell wr ⟨p,i,none⟩ v _ (by show w.heap.size + 1 ≠ p;omega)).trans h.st,(Below.heap_setCell wr ⟨p,i,none⟩ v _ (by show w.heap.size ≠ p;omega)).trans h.fh⟩
theorem Lp.grown {fa fd fn fu fb:Int} {s:St} {a:Option Addr} {l:List Asd} {w wr w':World} {v:Value} {xs:List Ln} (h:Lp fa fd fn fu fb s a l w wr) (hg:wr.grownBy w' v.ownBlock) (ho:OwnL wr w.heap.size v xs):Lp fa fd fn fu fb s a l w w':=by
 have hT:v.ownBlock ≠ some (w.heap.size + 1):=own_ne ho h.st (by decide)
 have hF:v.ownBlock ≠ some w.heap.size:=own_ne ho h.fh (by decide)
 have fh':=(hg.block w.heap.size (lies_lt h.fh) (Ne.symm hF)).trans h.fh
 exact ⟨h.bel.grown hg h.bel.size (fun k hk=>ho.base k hk),⟨lies_lt fh',(lies_cell fh' 0).trans rfl,(lies_cell fh' 1).trans rfl,(lies_cell fh' 2).trans rfl,(lies_cell fh' 3).trans rfl,(lies_cell fh' 4).trans rfl⟩,(hg.block (w.heap.size + 1) (lies_lt h.st) (Ne.symm hT)).trans h.st,fh'⟩
def szV:Value → Nat
 | .string y=>y.size
 | _=>0
theorem drop_list (t:ByteArray) (n:Nat):(t.extract n t.size).data.toList = t.data.toList.drop n:=by
 rw [ByteArray.data_extract,Array.toList_extract]
 simp only [List.extract_eq_take_drop]
 rw [List.take_of_length_le]
 simp
/-- Lines are answered, so many at most. -/
def LinesRet (w':World) (B N:Nat) (e:Ending):Prop:=∃ (v:Value) (xs:List Ln) (z:Int),e = .returned (.tuple #[v,.int .i64 z]) ∧ OwnL w' B v xs ∧ xs.length ≤ N ∧ ∀ x ∈ xs,x.tx.size ≤ 200
set_option maxRecDepth 1000000 in
set_option maxHeartbeats 20000000 in
theorem lines_any (fa fd fn fu fb:Int) (s:St) (t:ByteArray) (a:Option Addr) (n cap:Nat) (l:List Asd) (y left right:Int) (w:World) (hn:n = l.length) (hr:AsRow w a l) (hl:n ≤ 1000) (ht:t.size ≤ 200) (hf:1 ≤ fn ∧ fn ≤ 6400 ∧ 1 ≤ fu ∧ fu ≤ 6400 ∧ 1 ≤ fb ∧ fb ≤ 6400) :
  Calls Tryz.prog 83 #[.agg #[.int .i64 fa,.int .i64 fd,.int .i64 fn,.int .i64 fu,.int .i64 fb],.agg (stCells s),.string t,.slice a n cap,.int .i64 y,.int .i64 left,.int .i64 right] w fun e w'=>LinesRet w' w.heap.size (nbN (softW s.wh) t.data.toList) e ∧ Below w.heap.size w w':=by
 have HN:Hid (n = l.length):=hn
 have HR:Hid (AsRow w a l):=hr
 have h0:=lp_start fa fd fn fu fb s a l w
 obtain ⟨W0,hW0⟩:∃ W,W = (w.alloc (.cells #[.int .i64 fa,.int .i64 fd,.int .i64 fn,.int .i64 fu,.int .i64 fb] 48)).alloc (.cells (stCells s) 73):=⟨_,rfl⟩
 rw [← hW0] at h0
 have HW0:Hid (W0 = (w.alloc (.cells #[.int .i64 fa,.int .i64 fd,.int .i64 fn,.int .i64 fu,.int .i64 fb] 48)).alloc (.cells (stCells s) 73)):=hW0
 clear hn hr hW0
 go_enter Tryz.func83,Tryz.ntmps83
 go_upto_region 1 with fail
 rw [← HW0.out]
 clear HW0
 obtain ⟨-,b0,b1,b2,b3,b4⟩:=id h0.fo
 have s23:W0.cell? ⟨w.heap.size + 1,23,none⟩ = some (.int .i64 s.lh):=(lies_cell h0.st 23).trans rfl
 have PS:=parts_some fa fd fn fu fb
 go_wp2_with fail
 refine (PS _ _).mono ?_
 rintro e w1 ⟨p,q,rfl,hb1⟩
 have h1:=h0.call hb1
 clear h0 hb1 b0 b1 b2 b3 b4 s23 PS
 go_wp2_with fail
 generalize wrap64 (p + q) = high
 go_loopw [2,4,19] (fun tv yv ov wr=>∃ (t':ByteArray) (Y:Int) (xs:List Ln),tv = .string t' ∧ yv = .int .i64 Y ∧ OwnL wr w.heap.size ov xs ∧ xs.length + nbN (softW s.wh) t'.data.toList ≤ nbN (softW s.wh) t.data.toList ∧ t'.size ≤ 200 ∧ xs.length ≤ 200 ∧ xs.length + t'.size ≤ 200 ∧ Hid (∀ x ∈ xs,x.tx.size ≤ 200) ∧ Lp fa fd fn fu fb s a l w wr) (fun tv yv _ _=>szV tv * 1001 + lowN l (intOf yv))
 case atStart=>exact ⟨t,_,[],rfl,rfl,ownL_nil _ _,by simp,ht,by simp,by simpa using ht,(fun x hx=>absurd hx List.not_mem_nil:∀ x ∈ ([]:List Ln),x.tx.size ≤ 200),h1⟩
 case round =>
  obtain ⟨t',Y,xs,rfl,rfl,hown,hnb,ht',hx2,hx3,HXT,hlp⟩:=hrel
  clear h1
  by_cases hlt:0 < t'.size
  rotate_left
  ·have RES:Hid (∀ z e',e' = Ending.returned (.tuple #[u19,.int .i64 z]) → LinesRet wr w.heap.size (nbN (softW s.wh) t.data.toList) e'):=fun z e' h=>⟨_,xs,z,h,hown,by omega,HXT.out⟩
   have hlt':¬ (0:Int) < (t'.size:Int):=by omega
   have HB:Hid (Below w.heap.size w wr):=hlp.bel
   clear hown hnb hlp
   go_wp2
   go_ret2
   exact ⟨RES.out _ _ rfl,HB.out⟩
  have hlt':(0:Int) < (t'.size:Int):=by omega
  have HNB:Hid (xs.length + nbN (softW s.wh) t'.data.toList ≤ nbN (softW s.wh) t.data.toList):=hnb
  have hR:=HR.out.below hlp.bel
  have RM:=room_some a n cap l Y high left right wr HN.out hR hl
  clear hnb hR
  go_wp2_with fail
  refine RM.mono ?_
  rintro e w2 ⟨A,C,rfl,c2⟩
  have p2:=hlp.call c2
  have own2:=hown.keep c2
  obtain ⟨-,b0,b1,b2,b3,b4⟩:=id p2.fo
  have s21:w2.cell? ⟨w.heap.size + 1,21,none⟩ = some (.int .i64 s.wh):=(lies_cell p2.st 21).trans rfl
  have CT:=fun room=>cut_any fa fd fn fu fb s.wh room t' w2 ht' hlt hf
  clear RM c2 hlp hown
  go_wp2_with fail
  refine (CT _).mono ?_
  rintro e w3 ⟨m,rfl,hm,c3⟩
  have p3:=p2.call c3
  have own3:=own2.keep c3
  have hm1:=hm.1
  have hm2:=hm.2.1
  have HM:Hid (Cuts (softW s.wh) t' m):=hm
  have q1:(0:Int) ≤ (m:Int):=by omega
  have q2:(m:Int) ≤ (t'.size:Int):=by omega
  clear CT c3 p2 own2 b0 b1 b2 b3 b4 s21 hm
  obtain ⟨-,b0,b1,b2,b3,b4⟩:=id p3.fo
  have WI:=fun W=>specWidth_any fa fd fn fu fb (t'.extract 0 m) W (by rw [ByteArray.size_extract];omega) hf
  generalize Wd fn fu fb (t'.extract 0 m) = z at WI
  go_wp2_with fail
  go_region_held3 (fun w'=>w'.cell? ⟨w.heap.size,0,none⟩ = some (.int .i64 fa) ∧ w'.cell? ⟨w.heap.size,1,none⟩ = some (.int .i64 fd) ∧ w'.cell? ⟨w.heap.size,2,none⟩ = some (.int .i64 fn) ∧ w'.cell? ⟨w.heap.size,3,none⟩ = some (.int .i64 fu) ∧ w'.cell? ⟨w.heap.size,4,none⟩ = some (.int .i64 fb)) (first | go_keep | exact hx4.2) ((first | (go_at_call 99;refine (WI _).mono ?_;rintro e w4 ⟨rfl,c4⟩;have hx4:BoxAt w4 w.heap.size fa fd fn fu fb:=(by first | exact p3.fo.below ⟨c4.os,c4.tape,c4.output,c4.size,c4.block⟩ | fail)) | fail))
  all_goals
   have c4':Below w3.heap.size w3 w4:=⟨c4.os,c4.tape,c4.output,c4.size,c4.block⟩
   have p4:=p3.call c4'
   have own4:=own3.keep c4'
   have AN:=any_some a n cap l Y high w4 HN.out (HR.out.below p4.bel) hl
   clear c4 c4' p3 own3 WI b0 b1 b2 b3 b4 hx4
   go_upto_region 8 with fail
   go_cut [70] (fun v wx=>∃ b:Bool,v = .bool b ∧ (b = true → ∃ x ∈ l,Y < botB x) ∧ Lp fa fd fn fu fb s a l w wx ∧ OwnL wx w.heap.size u19 xs)
   case first =>
    by_cases hz:wrap64 (C - A) < z
    ·go_wp2_with fail
     refine AN.mono ?_
     rintro e w5 ⟨⟨bo,rfl,hbo⟩,c5⟩
     have p5:=p4.call c5
     have own5:=own4.keep c5
     have HBO:Hid (bo = true → ∃ x ∈ l,Y < botB x):=hbo
     clear c5 p4 own4 AN hbo
     go_wp2_with fail
     go_meet
     case rel=>exact ⟨bo,rfl,HBO.out,p5,own5⟩
    ·clear AN
     go_wp2_with fail
     go_meet
     case rel=>exact ⟨false,rfl,(fun h=>by cases h),p4,own4⟩
   case rest =>
    obtain ⟨bo,rfl,hbo,p5,own5⟩:=hcut
    have hR5:=HR.out.below p5.bel
    clear p4 own4 AN
    cases bo
    rotate_left
    ·have NX:=next_some a n cap l Y wc HN.out hR5 hl
     obtain ⟨zz,hz1,hz2⟩:=hbo rfl
     have HZ:Hid (zz ∈ l ∧ Y < botB zz):=⟨hz1,hz2⟩
     clear hR5 hbo hz1 hz2
     go_wp2_with fail
     refine NX.mono ?_
     rintro e w6 ⟨⟨o,f,rfl,hf1,hf2⟩,c6⟩
     have p6:=p5.call c6
     have own6:=own5.keep c6
     have hft:f = true:=by
      cases f
      ·exact absurd HZ.out.2 (hf2 rfl zz HZ.out.1)
      ·rfl
     obtain ⟨z',hz',ho,hlt2⟩:=hf1 hft
     have HME:Hid (lowN l o < lowN l Y):=low_lt hz' ho hlt2
     clear hf1 hf2 hz' ho hlt2 hft c6 p5 own5 NX
     go_wp2
     go_roundw
     case rel=>exact ⟨t',o,xs,rfl,rfl,own6,HNB.out,ht',hx2,hx3,HXT,p6⟩
     case measure=>have:=HME.out;simp [szV,intOf];omega
    ·clear hbo hR5
     have p10:∀ o,Lp fa fd fn fu fb s a l w (wc.alloc o):=fun o=>p5.call ((Below.refl _ _).alloc (Nat.le_refl _) _)
     have own10:∀ o,OwnL (wc.alloc o) w.heap.size u19 xs:=fun o=>own5.keep ((Below.refl _ _).alloc (Nat.le_refl _) _)
     have nw:u19.ownBlock ≠ some wc.heap.size:=fun e=>by have:=own5.lt _ e;omega
     have gt:w.heap.size + 1 < wc.heap.size:=lies_lt p5.st
     have l10:=fun x=>heap_at wc (.cells #[.int .i64 0,.int .i64 x,.int .i64 Y,.int .i64 z,.int .i64 high,.string (t'.extract 0 m)] 37) wc.heap.size rfl
     clear p5 own5
     go_upto_if 89 with fail
     obtain ⟨V10,hV10⟩:∃ W,W = wc.alloc (.cells #[.int .i64 0,.int .i64 A,.int .i64 Y,.int .i64 z,.int .i64 high,.string (t'.extract 0 m)] 37):=⟨_,rfl⟩
     have P10:=p10 (.cells #[.int .i64 0,.int .i64 A,.int .i64 Y,.int .i64 z,.int .i64 high,.string (t'.extract 0 m)] 37)
     have O10:=own10 (.cells #[.int .i64 0,.int .i64 A,.int .i64 Y,.int .i64 z,.int .i64 high,.string (t'.extract 0 m)] 37)
     have L10:=l10 A
     rw [← hV10] at P10 O10 L10 ⊢
     clear hV10 p10 own10 l10
     generalize wc.heap.size = g24 at nw gt L10 ⊢
     go_cut [] (fun wx=>∃ x:Int,wx.heap[g24]? = some (.cells #[.int .i64 0,.int .i64 x,.int .i64 Y,.int .i64 z,.int .i64 high,.string (t'.extract 0 m)] 37 (0,0)) ∧ Lp fa fd fn fu fb s a l w wx ∧ OwnL wx w.heap.size u19 xs)
     case first =>
      have ST:∀ v,(V10.setCell ⟨g24,1,none⟩ (.int .i64 v)).heap[g24]? = some (.cells #[.int .i64 0,.int .i64 v,.int .i64 Y,.int .i64 z,.int .i64 high,.string (t'.extract 0 m)] 37 (0,0)):=fun v=>lies_set L10
      have SP:∀ v,Lp fa fd fn fu fb s a l w (V10.setCell ⟨g24,1,none⟩ v):=fun v=>P10.set gt
      have SO:∀ v,OwnL (V10.setCell ⟨g24,1,none⟩ v) w.heap.size u19 xs:=fun v=>own_set O10 _ nw
      have s22:V10.cell? ⟨w.heap.size + 1,22,none⟩ = some (.int .i64 s.al):=(lies_cell P10.st 22).trans rfl
      have d1:V10.cell? ⟨g24,1,none⟩ = some (.int .i64 A):=(lies_cell L10 1).trans rfl
      have f1:V10.frozen? ⟨g24,1,none⟩ = false:=Lib.frozen_of_heap L10 1
      by_cases hz:z ≤ wrap64 (C - A)
      ·by_cases h2:s.al = 2
       ·rw [h2] at s22
        go_wp2_with fail
        go_meet
        case rel=>exact ⟨_,ST _,SP _,SO _⟩
       ·have n2:(s.al == 2) = false:=by simpa using h2
        by_cases h3:s.al = 3
        ·rw [h3] at s22
         go_wp2_with fail
         refine (down2_some _ _).mono ?_
         rintro e V11 ⟨⟨z11,rfl⟩,hw⟩
         have hw:=hw.symm
         subst hw
         go_wp2_with fail
         go_meet
         case rel=>exact ⟨_,ST _,SP _,SO _⟩
        ·have n3:(s.al == 3) = false:=by simpa using h3
         go_wp2_with fail
         go_meet
         case rel=>exact ⟨_,L10,P10,O10⟩
      ·go_wp2_with fail
       go_meet
       case rel=>exact ⟨_,L10,P10,O10⟩
     case rest =>
      obtain ⟨x,l12,p12,own12⟩:=hcut
      clear L10 P10 O10
      obtain ⟨iL,hi0,hz0,hz1,hz2⟩:=info_parts infoLine
      obtain ⟨N,hN⟩:∃ N,N = xs.length:=⟨_,rfl⟩
      have own13:wc.ownsRow w.heap.size 37 6 u19 N (flatLn xs):=by rw [hN];exact own12
      have HNX:Hid (N = xs.length):=hN
      have hN2:N ≤ 200:=by omega
      have hbs:=p12.bel.size
      obtain ⟨e0,e1,e2,e3,e4,e5⟩:=And.intro ((lies_cell l12 0).trans rfl) (And.intro ((lies_cell l12 1).trans rfl) (And.intro ((lies_cell l12 2).trans rfl) (And.intro ((lies_cell l12 3).trans rfl) (And.intro ((lies_cell l12 4).trans rfl) ((lies_cell l12 5).trans rfl)))))
      have FIN:Hid (∀ (v':Value) (w2:World),w2.ownsRow w.heap.size 37 6 v' (N + 1) (flatLn xs ++ lnL ⟨0,x,Y,z,high,t'.extract 0 m⟩) → (wc.alloc (.cells #[.int .i64 0,.int .i64 x,.int .i64 Y,.int .i64 z,.int .i64 high,.string (t'.extract 0 m)] 37)).grownBy w2 u19.ownBlock → OwnL w2 w.heap.size v' (xs ++ [⟨0,x,Y,z,high,t'.extract 0 m⟩]) ∧ Lp fa fd fn fu fb s a l w w2):=fun v' w2 ho hg=>⟨OwnL.snoc HNX.out ho,(p12.call ((Below.refl _ _).alloc (Nat.le_refl _) _)).grown hg (own12.keep ((Below.refl _ _).alloc (Nat.le_refl _) _))⟩
      clear hN own12 l12
      go_wp2_with (at_builtin;refine wpList_append_own _ rfl (.tmp 109) (.tmp 111) 26 rfl w.heap.size 37 iL (.agg #[.int .i64 0,.int .i64 0,.int .i64 0,.int .i64 0,.int .i64 0,.string ByteArray.empty]) 6 56 Tryz.underlying26 hi0 hz0 hz1 hz2 rfl (by decide) _ _ _ rfl (own13.alloc _) ⟨wc.heap.size,0,none⟩ 1 1 (lnL ⟨0,x,Y,z,high,t'.extract 0 m⟩) rfl rfl (six_cells _ _ _ _ (by simp)) (lnL_one _) (by unfold maxLen;omega) (by omega) (by simp;omega) ?_)
      intro v' w13 hown13 hgrow13 _
      obtain ⟨R1,R2⟩:=FIN.out v' w13 hown13 hgrow13
      have nb2:(xs ++ [(⟨0,x,Y,z,high,t'.extract 0 m⟩:Ln)]).length + nbN (softW s.wh) (t'.extract m t'.size).data.toList ≤ nbN (softW s.wh) t.data.toList:=by
       have h1:=nb_drop (softW s.wh) t'.data.toList m HM.out.1 (by simpa using HM.out.2.1) HM.out.2.2
       have h2:=HNB.out
       rw [drop_list,List.length_append,List.length_singleton]
       omega
      have hsz:(t'.extract m t'.size).size = t'.size - m:=by rw [ByteArray.size_extract];omega
      have HSZ:Hid ((t'.extract m t'.size).size = t'.size - m):=hsz
      have HNB2:Hid (_):=nb2
      have HXT2:Hid (∀ y ∈ xs ++ [(⟨0,x,Y,z,high,t'.extract 0 m⟩:Ln)],y.tx.size ≤ 200):=fun y hy=>by
       rcases List.mem_append.1 hy with h | h
       ·exact HXT.out y h
       ·rw [List.mem_singleton.1 h]
        show (t'.extract 0 m).size ≤ 200
        rw [ByteArray.size_extract]
        omega
      clear hown13 hgrow13 FIN p12 own13 e0 e1 e2 e3 e4 e5 hsz nb2
      go_wp2
      go_roundw
      case rel=>exact ⟨_,_,_,rfl,rfl,R1,HNB2.out,by have:=HSZ.out;omega,by have:=HNX.out;simp;omega,by have:=HSZ.out;simp;omega,HXT2,R2⟩
      case measure=>have:=HSZ.out;have:=low_le l (wrap64 (Y + high));have:=HN.out;simp [szV,intOf];omega
theorem grown_behind {V W w3:World} {o:Obj} {r:Option Nat} (hW:W.heap = (V.alloc o).heap) (hos:W.os = V.os) (ht:W.tape = V.tape) (hou:W.output = V.output) (hg:W.grownBy w3 r):V.grownBy w3 r:=by
 have hs:V.heap.size + 1 = W.heap.size:=by rw [hW];simp
 refine ⟨hg.os.trans hos,hg.tape.trans ht,hg.output.trans hou,by have:=hg.size;omega,fun b hlt hne=>?_⟩
 rw [hg.block b (by omega) hne,hW]
 exact heap_alloc_old V o hlt
/-- A line is put behind, by an append at a world behind the one of a new block. -/
theorem Ctx.putL9 {V W w3:World} {B g P g9 cap9 n:Nat} {E:Le} {c:Cs} {o:Obj} (h:Ctx V B g P E c) (x:Ln) (hn:n = c.xs.length) (hx:(0 ≤ x.bx ∧ x.bx < (E.m:Int)) ∧ x.tx.size ≤ 200) (hg:W.grownBy w3 c.vl.ownBlock) (ho:w3.ownsRow B 37 6 (.slice (some ⟨g9,0,none⟩) (n + 1) cap9) (n + 1) (flatLn c.xs ++ lnL x)) (hat:c.vl.ownBlock = some g9 ∨ g9 = W.heap.size)
  (hW:W.heap = (V.alloc o).heap) (hos:W.os = V.os) (ht:W.tape = V.tape) (hou:W.output = V.output):Goes B g P E c V { c with xs:=c.xs ++ [x],vl:=.slice (some ⟨g9,0,none⟩) (n + 1) cap9 } (w3.setCell ⟨g,8,none⟩ (.slice (some ⟨g9,0,none⟩) (n + 1) cap9)):=by
 refine h.putL (grown_behind hW hos ht hou hg) _ _ ?_ (fun b hb=>?_) (fun z hz=>?_)
 ·rw [flatLn_snoc,List.length_append,← hn]
  exact ho
 ·have e:g9 = b:=by simpa [Value.ownBlock] using hb
  subst e
  rcases hat with h1 | h1
  ·exact .inl h1
  ·right
   rw [h1,hW]
   simp
 ·rcases List.mem_append.1 hz with h1 | h1
  ·exact h.lok z h1
  ·have:z = x:=by simpa using h1
   subst this
   exact hx
theorem Ctx.putF9 {V W w3:World} {B g P g9 cap9 n:Nat} {E:Le} {c:Cs} {o:Obj} (h:Ctx V B g P E c) (x:Asd) (hn:n = c.fs.length) (hg:W.grownBy w3 c.vf.ownBlock) (ho:w3.ownsRow B 61 5 (.slice (some ⟨g9,0,none⟩) (n + 1) cap9) (n + 1) (flatA c.fs ++ asL x)) (hat:c.vf.ownBlock = some g9 ∨ g9 = W.heap.size)
  (hW:W.heap = (V.alloc o).heap) (hos:W.os = V.os) (ht:W.tape = V.tape) (hou:W.output = V.output):Goes B g P E c V { c with fs:=c.fs ++ [x],vf:=.slice (some ⟨g9,0,none⟩) (n + 1) cap9 } (w3.setCell ⟨g,9,none⟩ (.slice (some ⟨g9,0,none⟩) (n + 1) cap9)):=by
 refine h.putF (grown_behind hW hos ht hou hg) _ _ ?_ (fun b hb=>?_)
 ·rw [flatA_snoc,List.length_append,← hn]
  exact ho
 ·have e:g9 = b:=by simpa [Value.ownBlock] using hb
  subst e
  rcases hat with h1 | h1
  ·exact .inl h1
  ·right
   rw [h1,hW]
   simp
theorem Ctx.lies9 {V W w3:World} {B g P:Nat} {E:Le} {c:Cs} {o:Obj} {r:Option Nat} (h:Ctx V B g P E c) (hr:r ≠ some g) (hg:W.grownBy w3 r) (hW:W.heap = (V.alloc o).heap):w3.heap[g]? = some (.cells #[.int .i64 E.fa,.int .i64 E.fd,.int .i64 E.fn,.int .i64 E.fu,.int .i64 E.fb,.slice (some ⟨E.nb,E.noff,none⟩) E.n E.ncap,.slice (some ⟨E.xb,E.xoff,none⟩) E.m E.xcap,.slice (some ⟨P,0,none⟩) E.m E.m,c.vl,c.vf,.int .i64 c.y,.int .i64 c.up,.int .i64 c.dn,c.vo,.bool c.many] 90 (0,0)):=by
 have hs:V.heap.size + 1 = W.heap.size:=by rw [hW];simp
 have lt:=lies_lt h.lies
 rw [hg.block g (by omega) (Ne.symm hr),hW]
 exact heap_in h.lies
end Go.Proofs.YtjnmloaopnbpgaaGreatDoor
