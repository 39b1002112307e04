/-
 The model's widths of a box's content, and of a kid with its edges: some numbers.
 The model's widths of a box's content: some number, by way of its kids.
 A new context of the model's layout.
-/
import Derived.Test.YtjnmloaopnbpgaaGreatDoorMg20
import Derived.Laws.MakeOwn
namespace Go.Proofs.YtjnmloaopnbpgaaGreatDoor
open Go.ChangeShapes Go.WideShapes Go.ChangeAt Go.RowKit
set_option linter.unusedVariables false
def ContOk (E:Le) (k:Nat):Prop:=∀ (most:Bool) (w:World),LeAt w w.heap.size E → Calls Tryz.prog 93 #[.agg #[.int .i64 E.fa,.int .i64 E.fd,.int .i64 E.fn,.int .i64 E.fu,.int .i64 E.fb],.slice (some ⟨E.nb,E.noff,none⟩) E.n E.ncap,.slice (some ⟨E.xb,E.xoff,none⟩) E.m E.xcap,.int .i64 (k:Int),.bool most] w fun e w'=>IntRet e ∧ Below w.heap.size w w'
def OutOk (E:Le) (k:Nat):Prop:=∀ (most:Bool) (w:World),LeAt w w.heap.size E → Calls Tryz.prog 108 #[.agg #[.int .i64 E.fa,.int .i64 E.fd,.int .i64 E.fn,.int .i64 E.fu,.int .i64 E.fb],.slice (some ⟨E.nb,E.noff,none⟩) E.n E.ncap,.slice (some ⟨E.xb,E.xoff,none⟩) E.m E.xcap,.int .i64 (k:Int),.bool most] w fun e w'=>IntRet e ∧ Below w.heap.size w w'
theorem LeAt.up {w w':World} {E:Le} (h:LeAt w w.heap.size E) (hb:Below w.heap.size w w'):LeAt w' w'.heap.size E:=(h.below hb).mono hb.size
set_option maxRecDepth 1000000 in
set_option maxHeartbeats 20000000 in
theorem outer_of (E:Le) (hE:LeOk E) (k:Nat) (hk:k < E.m) (HC:ContOk E k):OutOk E k:=by
 intro most w hle
 obtain ⟨x,hx⟩:∃ x,E.bs[k]? = some x:=⟨_,List.getElem?_eq_getElem (by rw [← hE.m];exact hk)⟩
 obtain ⟨i,hi,hin⟩:=hE.nd k x hx
 obtain ⟨y,hy⟩:∃ y,E.ns[i]? = some y:=⟨_,List.getElem?_eq_getElem (by rw [← hE.n];exact hin)⟩
 have k0:(0:Int) ≤ (k:Int):=by omega
 have k1:(k:Int) < (E.m:Int):=by omega
 have i0:(0:Int) ≤ (i:Int):=by omega
 have i1:(i:Int) < (E.n:Int):=by omega
 obtain ⟨W0,hW0⟩:∃ W,W = w.alloc (.cells #[.int .i64 E.fa,.int .i64 E.fd,.int .i64 E.fn,.int .i64 E.fu,.int .i64 E.fb] 48):=⟨_,rfl⟩
 have b0:Below w.heap.size w W0:=by rw [hW0];exact (Below.refl _ _).alloc (Nat.le_refl _) _
 have f0:BoxAt W0 w.heap.size E.fa E.fd E.fn E.fu E.fb:=by rw [hW0];exact box_new w _ _ _ _ _
 have HW0:Hid (W0 = w.alloc (.cells #[.int .i64 E.fa,.int .i64 E.fd,.int .i64 E.fn,.int .i64 E.fu,.int .i64 E.fb] 48)):=hW0
 have L0:LeAt W0 W0.heap.size E:=hle.up b0
 have kdc:W0.cell? ⟨E.xb,E.xoff + k * 4,none⟩ = some (.int .i64 x.kd):=L0.bxs k x hx 0 (.int .i64 x.kd) rfl
 have ndc:W0.cell? ⟨E.xb,E.xoff + k * 4 + 1,none⟩ = some (.int .i64 (i:Int)):=(L0.bxs k x hx 1 (.int .i64 x.nd) rfl).trans (by rw [hi])
 have hst:W0.rangeAt E.nb (E.noff + i * 28 + 2) (stCells y.st).toList:=L0.style hy
 obtain ⟨-,a0,a1,a2,a3,a4⟩:=id f0
 clear hW0 hle
 have HST:Hid (W0.rangeAt E.nb (E.noff + i * 28 + 2) (stCells y.st).toList):=hst
 clear hst
 by_cases h2:x.kd = 2
 ·rw [h2] at kdc
  have CC:=HC most W0 L0
  clear h2
  go_enter Tryz.func108,Tryz.ntmps108
  go_upto_region 1 with fail
  rw [← HW0.out]
  clear HW0
  go_wp2_with fail
  refine CC.mono ?_
  rintro e W1 ⟨⟨z,rfl⟩,hb⟩
  have b1:=b0.trans (hb.mono b0.size)
  clear CC hb b0 f0 L0 kdc ndc a0 a1 a2 a3 a4
  go_wp2
  go_ret
  exact ⟨intRet _,b1⟩
 have n2:(x.kd == 2) = false:=by simpa using h2
 clear h2
 go_enter Tryz.func108,Tryz.ntmps108
 go_upto_region 1 with fail
 rw [← HW0.out]
 clear HW0
 go_wp2_with (first
  | ((with_reducible show wpList _ _ _ (⟨some 35,Op.load 73 _,_,_,_,_⟩ :: _) _ _);refine wpList_load_mid rfl 73 _ rfl E.nb (E.noff + i * 28 + 2) rfl (stCells y.st).toList _ HST.out Tryz.underlying73 rfl (by kernel_rfl) ?_)
  | ((with_reducible show wpList _ _ _ (⟨none,Op.store 73 _ _,_,_,_,_⟩ :: _) _ _);refine wpList_store_box rfl 73 _ _ rfl rfl (stCells y.st) rfl rfl (by kernel_rfl) rfl (by kernel_rfl) ?_;intro W1 bel1 l1 hsz1;refine stay ?_)
  | fail)
 unfold Stay
 have b1:Below w.heap.size w W1:=b0.trans (bel1.mono b0.size)
 have L1:LeAt W1 W1.heap.size E:=L0.up bel1
 have g1:BoxAt W1 w.heap.size E.fa E.fd E.fn E.fu E.fb:=f0.below bel1
 generalize W0.heap.size = q at l1 ⊢
 clear bel1 hsz1 L0 f0 b0 kdc ndc a0 a1 a2 a3 a4 HST n2
 obtain ⟨-,a0,a1,a2,a3,a4⟩:=id g1
 have s3:W1.cell? ⟨q,3,none⟩ = some (.bool y.st.w.a):=(lies_cell l1 3).trans rfl
 have s4:W1.cell? ⟨q,4,none⟩ = some (.bool y.st.w.p):=(lies_cell l1 4).trans rfl
 have s5:W1.cell? ⟨q,5,none⟩ = some (.int .i64 y.st.w.n):=(lies_cell l1 5).trans rfl
 have CC:=HC most W1 L1
 go_upto_region 5 with fail
 go_cut [46] (fun v wx=>∃ b:Bool,v = .bool b ∧ wx = W1)
 case first =>
  cases ha:y.st.w.a
  ·rw [ha] at s3
   go_wp2_with fail
   go_meet
   case rel=>exact ⟨_,rfl,rfl⟩
  ·rw [ha] at s3
   go_wp2_with fail
   go_meet
   case rel=>exact ⟨_,rfl,rfl⟩
 case rest =>
  obtain ⟨bb,rfl,rfl⟩:=hcut
  clear s3 s4
  go_upto_if 46 with fail
  go_cut [12] (fun v wx=>∃ z:Int,v = .int .i64 z ∧ Below w.heap.size w wx ∧ wx.heap[q]? = some (.cells (stCells y.st) 73 (0,0)))
  case first =>
   cases bb
   ·go_wp2_with fail
    go_meet
    case rel=>exact ⟨_,rfl,b1,l1⟩
   ·go_wp2_with fail
    refine CC.mono ?_
    rintro e W2 ⟨⟨z,rfl⟩,hb⟩
    have b2:=b1.trans (hb.mono b1.size)
    have l2:=below_lies hb l1 (lies_lt l1)
    clear CC hb
    go_wp2_with fail
    go_meet
    case rel=>exact ⟨_,rfl,b2,l2⟩
  case rest =>
   obtain ⟨z,rfl,b2,l2⟩:=hcut
   clear CC s5 a0 a1 a2 a3 a4 g1 L1 l1 b1
   have s9:wc.cell? ⟨q,9,none⟩ = some (.int .i64 y.st.mn):=(lies_cell l2 9).trans rfl
   have s10:wc.cell? ⟨q,10,none⟩ = some (.int .i64 y.st.mx):=(lies_cell l2 10).trans rfl
   have s19:wc.cell? ⟨q,19,none⟩ = some (.int .i64 y.st.bo):=(lies_cell l2 19).trans rfl
   have s20:wc.cell? ⟨q,20,none⟩ = some (.int .i64 y.st.pa):=(lies_cell l2 20).trans rfl
   go_wp2_with fail
   go_region_held3 (fun w'=>w'.cell? ⟨q,9,none⟩ = some (.int .i64 y.st.mn) ∧ w'.cell? ⟨q,10,none⟩ = some (.int .i64 y.st.mx) ∧ w'.cell? ⟨q,19,none⟩ = some (.int .i64 y.st.bo) ∧ w'.cell? ⟨q,20,none⟩ = some (.int .i64 y.st.pa)) (go_keep)
    ((first | (go_at_call 61;refine (clamp_ret _ _ _ _).mono ?_;rintro e Vx ⟨⟨zc,rfl⟩,hwx⟩;have hwx:=hwx.symm;subst hwx) | fail))
   all_goals
    have b3:Below w.heap.size w wc.drew:=b2.drew
    have l3:wc.drew.heap[q]? = some (.cells (stCells y.st) 73 (0,0)):=l2
    generalize wc.drew = V3 at b3 l3 ⊢
    have e16:V3.cell? ⟨q,16,none⟩ = some (.bool y.st.ml.a):=(lies_cell l3 16).trans rfl
    have e17:V3.cell? ⟨q,17,none⟩ = some (.bool y.st.ml.p):=(lies_cell l3 17).trans rfl
    have e18:V3.cell? ⟨q,18,none⟩ = some (.int .i64 y.st.ml.n):=(lies_cell l3 18).trans rfl
    have e12:V3.cell? ⟨q,12,none⟩ = some (.bool y.st.mr.a):=(lies_cell l3 12).trans rfl
    have e13:V3.cell? ⟨q,13,none⟩ = some (.bool y.st.mr.p):=(lies_cell l3 13).trans rfl
    have e14:V3.cell? ⟨q,14,none⟩ = some (.int .i64 y.st.mr.n):=(lies_cell l3 14).trans rfl
    clear s9 s10 s19 s20 b2 l2
    go_wp2_with fail
    have b4:Below w.heap.size w (V3.alloc (.cells #[.bool y.st.ml.a,.bool y.st.ml.p,.int .i64 y.st.ml.n,.bool y.st.mr.a,.bool y.st.mr.p,.int .i64 y.st.mr.n] 71)):=b3.alloc b3.size _
    have l4:=heap_at V3 (.cells #[.bool y.st.ml.a,.bool y.st.ml.p,.int .i64 y.st.ml.n,.bool y.st.mr.a,.bool y.st.mr.p,.int .i64 y.st.mr.n] 71) V3.heap.size rfl
    have HB4:Hid (_ ∧ _):=And.intro b4 l4
    generalize V3.alloc (.cells #[.bool y.st.ml.a,.bool y.st.ml.p,.int .i64 y.st.ml.n,.bool y.st.mr.a,.bool y.st.mr.p,.int .i64 y.st.mr.n] 71) = V4 at HB4 ⊢
    generalize V3.heap.size = g70 at HB4 ⊢
    clear b4 l4 e16 e17 e18 e12 e13 e14 b3 l3
    go_loopw [12,72] (fun nv iv wr=>∃ (j:Nat) (n:Int),j ≤ 2 ∧ iv = .int .i64 j ∧ nv = .int .i64 n ∧ Below w.heap.size w wr ∧ wr.heap[g70]? = some (.cells #[.bool y.st.ml.a,.bool y.st.ml.p,.int .i64 y.st.ml.n,.bool y.st.mr.a,.bool y.st.mr.p,.int .i64 y.st.mr.n] 71 (0,0))) (fun _ iv _=>2 - (intOf iv).toNat)
    case atStart=>exact ⟨0,_,by omega,rfl,rfl,HB4.out.1,HB4.out.2⟩
    case round =>
     obtain ⟨j,n,hj,rfl,rfl,hbw,hl⟩:=hrel
     clear HB4
     have bel:∀ o,Below w.heap.size w (wr.alloc o):=fun o=>hbw.alloc hbw.size o
     have lie:∀ o,(wr.alloc o).heap[g70]? = some (.cells #[.bool y.st.ml.a,.bool y.st.ml.p,.int .i64 y.st.ml.n,.bool y.st.mr.a,.bool y.st.mr.p,.int .i64 y.st.mr.n] 71 (0,0)):=fun o=>heap_in hl
     by_cases hlt:j < 2
     rotate_left
     ·have e:j = 2:=by omega
      subst e
      go_wp2_with fail
      refine (clamp_ret _ _ _ _).mono ?_
      rintro e Vx ⟨⟨zc2,rfl⟩,hwx⟩
      have hwx:=hwx.symm
      subst hwx
      go_wp2
      go_ret
      exact ⟨intRet _,hbw⟩
     obtain rfl | rfl:j = 0 ∨ j = 1:=by omega
     ·have d0:wr.cell? ⟨g70,0,none⟩ = some (.bool y.st.ml.a):=(lies_cell hl 0).trans rfl
      have d1:wr.cell? ⟨g70,1,none⟩ = some (.bool y.st.ml.p):=(lies_cell hl 1).trans rfl
      have d2:wr.cell? ⟨g70,2,none⟩ = some (.int .i64 y.st.ml.n):=(lies_cell hl 2).trans rfl
      rcases Bool.eq_false_or_eq_true y.st.ml.a with ha | ha
      all_goals rcases Bool.eq_false_or_eq_true y.st.ml.p with hp | hp
      all_goals
       rw [ha] at d0
       rw [hp] at d1
       clear ha hp
       go_wp2
       go_roundw
       case rel=>exact ⟨1,_,by omega,by go_num,rfl,bel _,lie _⟩
       case measure=>simp [intOf]
     ·have d0:wr.cell? ⟨g70,3,none⟩ = some (.bool y.st.mr.a):=(lies_cell hl 3).trans rfl
      have d1:wr.cell? ⟨g70,4,none⟩ = some (.bool y.st.mr.p):=(lies_cell hl 4).trans rfl
      have d2:wr.cell? ⟨g70,5,none⟩ = some (.int .i64 y.st.mr.n):=(lies_cell hl 5).trans rfl
      rcases Bool.eq_false_or_eq_true y.st.mr.a with ha | ha
      all_goals rcases Bool.eq_false_or_eq_true y.st.mr.p with hp | hp
      all_goals
       rw [ha] at d0
       rw [hp] at d1
       clear ha hp
       go_wp2
       go_roundw
       case rel=>exact ⟨2,_,by omega,by go_num,rfl,bel _,lie _⟩
       case measure=>simp [intOf]
set_option maxRecDepth 1000000 in
set_option maxHeartbeats 20000000 in
theorem content_of (E:Le) (hE:LeOk E) (k:Nat) (hk:k < E.m) (HO:∀ i,k < i → i < E.m → OutOk E i):ContOk E k:=by
 intro most w hle
 obtain ⟨x,hx⟩:∃ x,E.bs[k]? = some x:=⟨_,List.getElem?_eq_getElem (by rw [← hE.m];exact hk)⟩
 obtain ⟨i,hi,hin⟩:=hE.nd k x hx
 obtain ⟨y,hy⟩:∃ y,E.ns[i]? = some y:=⟨_,List.getElem?_eq_getElem (by rw [← hE.n];exact hin)⟩
 have k0:(0:Int) ≤ (k:Int):=by omega
 have k1:(k:Int) < (E.m:Int):=by omega
 have i0:(0:Int) ≤ (i:Int):=by omega
 have i1:(i:Int) < (E.n:Int):=by omega
 have m80:=hE.m80
 obtain ⟨W0,hW0⟩:∃ W,W = w.alloc (.cells #[.int .i64 E.fa,.int .i64 E.fd,.int .i64 E.fn,.int .i64 E.fu,.int .i64 E.fb] 48):=⟨_,rfl⟩
 have b0:Below w.heap.size w W0:=by rw [hW0];exact (Below.refl _ _).alloc (Nat.le_refl _) _
 have f0:BoxAt W0 w.heap.size E.fa E.fd E.fn E.fu E.fb:=by rw [hW0];exact box_new w _ _ _ _ _
 have HW0:Hid (W0 = w.alloc (.cells #[.int .i64 E.fa,.int .i64 E.fd,.int .i64 E.fn,.int .i64 E.fu,.int .i64 E.fb] 48)):=hW0
 have L0:LeAt W0 W0.heap.size E:=hle.up b0
 have kdc:W0.cell? ⟨E.xb,E.xoff + k * 4,none⟩ = some (.int .i64 x.kd):=L0.bxs k x hx 0 (.int .i64 x.kd) rfl
 have ndc:W0.cell? ⟨E.xb,E.xoff + k * 4 + 1,none⟩ = some (.int .i64 (i:Int)):=(L0.bxs k x hx 1 (.int .i64 x.nd) rfl).trans (by rw [hi])
 have txc:W0.cell? ⟨E.xb,E.xoff + k * 4 + 3,none⟩ = some (.string x.tx):=L0.bxs k x hx 3 (.string x.tx) rfl
 have whc:W0.cell? ⟨E.nb,E.noff + i * 28 + 23,none⟩ = some (.int .i64 y.st.wh):=L0.nds i y hy 23 (.int .i64 y.st.wh) rfl
 have htx:=hE.tx k x hx
 obtain ⟨-,a0,a1,a2,a3,a4⟩:=id f0
 clear hW0 hle
 by_cases h2:x.kd = 2
 ·rw [h2] at kdc
  have KEEP:Hid (∀ W,Below W0.heap.size W0 W → W.cell? ⟨w.heap.size,0,none⟩ = some (.int .i64 E.fa) ∧ W.cell? ⟨w.heap.size,1,none⟩ = some (.int .i64 E.fd) ∧ W.cell? ⟨w.heap.size,2,none⟩ = some (.int .i64 E.fn) ∧ W.cell? ⟨w.heap.size,3,none⟩ = some (.int .i64 E.fu) ∧ W.cell? ⟨w.heap.size,4,none⟩ = some (.int .i64 E.fb) ∧ W.cell? ⟨E.xb,E.xoff + k * 4 + 3,none⟩ = some (.string x.tx) ∧ W.cell? ⟨E.xb,E.xoff + k * 4 + 1,none⟩ = some (.int .i64 (i:Int)) ∧ W.cell? ⟨E.nb,E.noff + i * 28 + 23,none⟩ = some (.int .i64 y.st.wh)):=fun W hW=>⟨(hW.cell f0.1).trans a0,(hW.cell f0.1).trans a1,(hW.cell f0.1).trans a2,(hW.cell f0.1).trans a3,(hW.cell f0.1).trans a4,(hW.cell L0.xlt).trans txc,(hW.cell L0.xlt).trans ndc,(hW.cell L0.nlt).trans whc⟩
  cases most
  rotate_left
  ·have LI:=fun W=>specLine_any E.fa E.fd E.fn E.fu E.fb x.tx W htx hE.font
   generalize widestK (Wd E.fn E.fu E.fb) x.tx (endsF x.tx) (endsF x.tx).length = zr at LI
   clear h2
   go_enter Tryz.func93,Tryz.ntmps93
   go_upto_region 1 with fail
   rw [← HW0.out]
   clear HW0
   go_wp2_with fail
   go_region_held3 (fun w'=>w'.cell? ⟨w.heap.size,0,none⟩ = some (.int .i64 E.fa) ∧ w'.cell? ⟨w.heap.size,1,none⟩ = some (.int .i64 E.fd) ∧ w'.cell? ⟨w.heap.size,2,none⟩ = some (.int .i64 E.fn) ∧ w'.cell? ⟨w.heap.size,3,none⟩ = some (.int .i64 E.fu) ∧ w'.cell? ⟨w.heap.size,4,none⟩ = some (.int .i64 E.fb) ∧ w'.cell? ⟨E.xb,E.xoff + k * 4 + 3,none⟩ = some (.string x.tx)) (first | go_keep | exact hS1)
    ((first | (go_at_call 105;refine (LI _).mono ?_;rintro e W1 ⟨rfl,hb⟩;have c1:Below W0.heap.size W0 W1:=⟨hb.os,hb.tape,hb.output,hb.size,hb.block⟩;have hS1:=(by have h:=KEEP.out W1 c1;exact ⟨h.1,h.2.1,h.2.2.1,h.2.2.2.1,h.2.2.2.2.1,h.2.2.2.2.2.1⟩:W1.cell? ⟨w.heap.size,0,none⟩ = some (.int .i64 E.fa) ∧ W1.cell? ⟨w.heap.size,1,none⟩ = some (.int .i64 E.fd) ∧ W1.cell? ⟨w.heap.size,2,none⟩ = some (.int .i64 E.fn) ∧ W1.cell? ⟨w.heap.size,3,none⟩ = some (.int .i64 E.fu) ∧ W1.cell? ⟨w.heap.size,4,none⟩ = some (.int .i64 E.fb) ∧ W1.cell? ⟨E.xb,E.xoff + k * 4 + 3,none⟩ = some (.string x.tx))) | fail))
   all_goals
    have b1:=b0.trans (c1.mono b0.size)
    clear hS1 hb c1 LI KEEP a0 a1 a2 a3 a4 kdc ndc txc whc L0 f0 b0
    go_wp2
    go_ret
    exact ⟨intRet _,b1⟩
  ·have BR:=fun W=>breaks_any y.st.wh x.tx W htx
   have PL:=placesL_len (mayB (softW y.st.wh) x.tx.data.toList) x.tx.size
   have WD:=fun a cap W (h:Row W a (placesL (mayB (softW y.st.wh) x.tx.data.toList) x.tx.size))=>specWidest_any E.fa E.fd E.fn E.fu E.fb x.tx (placesN (mayB (softW y.st.wh) x.tx.data.toList) x.tx.size) a (placesL (mayB (softW y.st.wh) x.tx.data.toList) x.tx.size).length cap W (by rw [placesN_int];simp) (by omega) htx hE.font (fun j hj=>by have h2:=(placesN_between (mayB (softW y.st.wh) x.tx.data.toList) x.tx.size).1 j hj;omega) (by unfold intsN;rw [← placesN_int];exact h)
   generalize widestK (Wd E.fn E.fu E.fb) x.tx (placesN (mayB (softW y.st.wh) x.tx.data.toList) x.tx.size) = zf at WD
   generalize placesL (mayB (softW y.st.wh) x.tx.data.toList) x.tx.size = zs at BR WD PL
   clear h2
   go_enter Tryz.func93,Tryz.ntmps93
   go_upto_region 1 with fail
   rw [← HW0.out]
   clear HW0
   go_wp2_with fail
   go_region_held3 (fun w'=>w'.cell? ⟨w.heap.size,0,none⟩ = some (.int .i64 E.fa) ∧ w'.cell? ⟨w.heap.size,1,none⟩ = some (.int .i64 E.fd) ∧ w'.cell? ⟨w.heap.size,2,none⟩ = some (.int .i64 E.fn) ∧ w'.cell? ⟨w.heap.size,3,none⟩ = some (.int .i64 E.fu) ∧ w'.cell? ⟨w.heap.size,4,none⟩ = some (.int .i64 E.fb) ∧ w'.cell? ⟨E.xb,E.xoff + k * 4 + 3,none⟩ = some (.string x.tx) ∧ w'.cell? ⟨E.xb,E.xoff + k * 4 + 1,none⟩ = some (.int .i64 (i:Int)) ∧ w'.cell? ⟨E.nb,E.noff + i * 28 + 23,none⟩ = some (.int .i64 y.st.wh)) (first | go_keep | exact hS2 | exact hS1)
    ((first
     | (go_at_call 107;refine (BR _).mono ?_;rintro e W1 ⟨v,rfl,ho,hb⟩;have c1:Below W0.heap.size W0 W1:=⟨hb.os,hb.tape,hb.output,hb.size,hb.block⟩;have hS1:=KEEP.out W1 c1;obtain ⟨ar,capr,hvr,hrow⟩:=ho.row;subst hvr)
     | (go_at_call 106;refine (WD _ _ _ hrow).mono ?_;rintro e W2 ⟨rfl,hb2⟩;have c2:Below W0.heap.size W0 W2:=c1.trans (hb2.mono c1.size);have hS2:=KEEP.out W2 c2)
     | fail))
   all_goals
    have b1:=b0.trans (c2.mono b0.size)
    clear hS1 hS2 hb c1 c2 hb2 BR WD KEEP a0 a1 a2 a3 a4 kdc ndc txc whc L0 f0 b0
    go_wp2
    go_ret
    exact ⟨intRet _,b1⟩
 have n2:(x.kd == 2) = false:=by simpa using h2
 have KM:=kids_mem E.bs (k:Int) E.m
 have KL:=kids_len E.bs (k:Int) E.m
 have KI:=l5Kids_any (some ⟨E.xb,E.xoff,none⟩) E.m E.xcap E.bs (k:Int) W0 hE.m (.inr ⟨E.xb,E.xoff,rfl,L0.bxs⟩) (by omega)
 generalize kidsTo E.bs (k:Int) E.m = zs at KM KL KI
 have HKM:Hid (∀ j,j < zs.length → ∃ i:Nat,zs.getD j 0 = (i:Int) ∧ i < E.m ∧ upX E.bs i = (k:Int)):=KM
 clear h2 KM
 go_enter Tryz.func93,Tryz.ntmps93
 go_upto_region 1 with fail
 rw [← HW0.out]
 clear HW0
 go_wp2_with fail
 refine KI.mono ?_
 rintro e w1 ⟨v,rfl,ho,hb⟩
 obtain ⟨a,cap,rfl,hrow⟩:=own_at9 ho
 have HROW:Hid (∀ j,j < zs.length → ∃ b,a = some ⟨b,0,none⟩ ∧ b < w1.heap.size ∧ w1.cell? ⟨b,j,none⟩ = some (.int .i64 (zs.getD j 0))):=fun j hj=>by obtain ⟨b,h1,h2,h3,h4⟩:=hrow j hj;exact ⟨b,h1,h3,h4⟩
 obtain ⟨NK,hNK⟩:∃ n,n = zs.length:=⟨_,rfl⟩
 have HNK:Hid (NK = zs.length):=hNK
 rw [← hNK] at KL ⊢
 have b1:Below w.heap.size w w1:=b0.trans (hb.mono b0.size)
 have f1:=f0.below hb
 have L1:=L0.up hb
 clear ho hb KI hrow hNK kdc ndc txc whc a0 a1 a2 a3 a4 f0 L0 b0 n2
 go_wp2_with fail
 go_loopw [11,12,57] (fun ov sv iv wr=>∃ (j:Nat) (o sd:Int),j ≤ NK ∧ iv = .int .i64 j ∧ ov = .int .i64 o ∧ sv = .int .i64 sd ∧ Below w1.heap.size w1 wr) (fun _ _ iv _=>NK - (intOf iv).toNat)
 case atStart=>exact ⟨0,_,_,Nat.zero_le _,rfl,rfl,rfl,Below.refl _ _⟩
 case round =>
  obtain ⟨j,o,sd,hj,rfl,rfl,rfl,hbw⟩:=hrel
  by_cases hlt:j < NK
  rotate_left
  ·have RB:=b1.trans (hbw.mono b1.size)
   clear hbw b1
   go_wp2
   go_ret
   exact ⟨intRet _,RB⟩
  obtain ⟨b,hab,hb1,hcz⟩:=HROW.out j (by rw [← HNK.out];exact hlt)
  obtain ⟨ii,hzi,him,hup⟩:=HKM.out j (by rw [← HNK.out];exact hlt)
  subst hab
  have hci:wr.cell? ⟨b,j,none⟩ = some (.int .i64 (ii:Int)):=(hbw.cell (p:=⟨b,j,none⟩) hb1).trans (hcz.trans (by rw [hzi]))
  obtain ⟨xi,hxi⟩:∃ x,E.bs[ii]? = some x:=⟨_,List.getElem?_eq_getElem (by rw [← hE.m];exact him)⟩
  have hki:k < ii:=by
   have h1:=(hE.up ii xi hxi).2
   have h2:upX E.bs ii = xi.up:=upX_of hxi
   omega
  have LR:LeAt wr wr.heap.size E:=L1.up hbw
  have fr:=f1.below hbw
  obtain ⟨-,a0,a1,a2,a3,a4⟩:=id fr
  have OC:=HO ii hki him most wr LR
  have ii0:(0:Int) ≤ (ii:Int):=by omega
  have ii1:(ii:Int) < (E.m:Int):=by omega
  clear hcz hzi hup
  go_wp2_with fail
  refine OC.mono ?_
  rintro e w2 ⟨⟨z,rfl⟩,hb2⟩
  have b2:Below w1.heap.size w1 w2:=hbw.trans (hb2.mono hbw.size)
  have kdc:w2.cell? ⟨E.xb,E.xoff + ii * 4,none⟩ = some (.int .i64 xi.kd):=(LR.up hb2).bxs ii xi hxi 0 (.int .i64 xi.kd) rfl
  clear OC hb2 hbw LR fr a0 a1 a2 a3 a4 hci hxi
  cases most
  ·by_cases hz:o < z
   all_goals
    go_wp2
    go_roundw
    case rel=>exact ⟨j + 1,_,_,by omega,by go_num,rfl,rfl,b2⟩
    case measure=>simp [intOf];omega
  ·by_cases h3:xi.kd = 3
   ·rw [h3] at kdc
    by_cases hz:o < wrap64 (sd + z)
    all_goals
     go_wp2
     go_roundw
     case rel=>exact ⟨j + 1,_,_,by omega,by go_num,rfl,rfl,b2⟩
     case measure=>simp [intOf];omega
   ·have n3:(xi.kd == 3) = false:=by simpa using h3
    by_cases hz:o < z
    all_goals
     go_wp2
     go_roundw
     case rel=>exact ⟨j + 1,_,_,by omega,by go_num,rfl,rfl,b2⟩
     case measure=>simp [intOf];omega
/-- A context that holds nothing yet. -/
def cs0 (m:Nat):Cs:=⟨[],[],[],List.replicate (m * 4) 0,0,0,0,false,.slice none 0 0,.slice none 0 0,.slice none 0 0⟩
theorem ctx_new {w:World} {B g P:Nat} {E:Le} (hg:B ≤ g) (hP:B ≤ P)
  (lg:w.heap[g]? = some (.cells #[.int .i64 E.fa,.int .i64 E.fd,.int .i64 E.fn,.int .i64 E.fu,.int .i64 E.fb,.slice (some ⟨E.nb,E.noff,none⟩) E.n E.ncap,.slice (some ⟨E.xb,E.xoff,none⟩) E.m E.xcap,.slice (some ⟨P,0,none⟩) E.m E.m,.slice none 0 0,.slice none 0 0,.int .i64 0,.int .i64 0,.int .i64 0,.slice none 0 0,.bool false] 90 (0,0)))
  (lP:w.heap[P]? = some (.cells (intsV (List.replicate (E.m * 4) 0)).toArray 35 (0,0))):Ctx w B g P E (cs0 E.m) where
 hg:=hg
 lies:=lg
 hP:=hP
 pl:=lP
 psl:=List.length_replicate
 ol:=⟨rfl,.inl ⟨rfl,rfl⟩⟩
 of:=⟨rfl,.inl ⟨rfl,rfl⟩⟩
 oo:=⟨rfl,.inl ⟨rfl,rfl⟩⟩
 lok:=fun x hx=>absurd hx (List.not_mem_nil)
 ook:=fun x hx=>absurd hx (List.not_mem_nil)
theorem small_new (m l n:Nat) (hl:l ≤ 100000) (hn:n ≤ 1000):Small (cs0 m) l n:=⟨by show 0 + l ≤ _;omega,by show 0 + n ≤ _;omega,by show 0 + n ≤ _;omega⟩
theorem made_places (n:Nat):madeCells #[.int .i64 0,.int .i64 0,.int .i64 0,.int .i64 0] (n * 4) = (intsV (List.replicate (n * 4) 0)).toArray:=by
 refine Array.ext (by simp [size_madeCells,intsV]) (fun i h1 h2=>?_)
 have h4:i % 4 < 4:=Nat.mod_lt _ (by omega)
 simp only [madeCells,intsV,Array.getElem_map,Array.getElem_range,List.getElem_toArray,List.getElem_map,List.getElem_replicate]
 show (#[Value.int .i64 0,.int .i64 0,.int .i64 0,.int .i64 0])[i % 4]! = _
 generalize i % 4 = j at h4
 match j,h4 with
 | 0,_=>rfl
 | 1,_=>rfl
 | 2,_=>rfl
 | 3,_=>rfl
theorem wp_make9 {o:Oper} {a:Act} {w:World} {K:Act → World → Prop} {Q:Exit → Act → World → Prop} (l c:Operand) (ho:o.op = .makeSlice 25 l c)
  (n:Nat) (hl:a.eval l = .int .i64 (n:Int)) (hc:a.eval c = .int .i64 (n:Int)) (hn:n ≤ 80)
  (h:K (a.put o.dst (.slice (some ⟨w.heap.size,0,none⟩) n n)) (w.alloc (.cells (intsV (List.replicate (n * 4) 0)).toArray 35))):o.wp Tryz.prog a w K Q:=by
 have hinf:(Tryz.prog.info? 35).map (fun i=>(i.zero,i.size,i.bytes)) = some (some (.agg #[.int .i64 0,.int .i64 0,.int .i64 0,.int .i64 0]),4,32):=by kernel_rfl
 cases hq:Tryz.prog.info? 35 with
 | none=>simp [hq] at hinf
 | some inf =>
  rw [hq] at hinf
  simp only [Option.map_some,Option.some.injEq,Prod.mk.injEq] at hinf
  obtain ⟨hz,hs,hb⟩:=hinf
  have hr:=run_make (P:=Tryz.prog) w 25 35 inf _ Tryz.underlying25 hq hz .i64 .i64 (n:Int) (n:Int) (by omega) (Int.le_refl _) (by rw [hb];omega) (by omega)
  have hm:madeCells (Value.agg #[.int .i64 0,.int .i64 0,.int .i64 0,.int .i64 0]).cells ((n:Int).toNat * inf.size) = (intsV (List.replicate (n * 4) 0)).toArray:=by
   rw [hs,Int.toNat_natCast];exact made_places n
  rw [hm,Int.toNat_natCast] at hr
  unfold Oper.wp
  simp [execOp,ho,hl,hc,hr,Result.andThen]
  exact h
end Go.Proofs.YtjnmloaopnbpgaaGreatDoor
