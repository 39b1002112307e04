/-
 The model's layout of a block.
-/
import Derived.Test.YtjnmloaopnbpgaaGreatDoorMg17
import Derived.Deep.DeepCutAuto
import Derived.Deep.CutBlock
namespace Go.Proofs.YtjnmloaopnbpgaaGreatDoor
open Go.ChangeShapes Go.WideShapes Go.ChangeAt Go.RowKit
set_option linter.unusedVariables false
set_option maxRecDepth 1000000 in
set_option maxHeartbeats 20000000 in
theorem block_of (E:Le) (hE:LeOk E) (l n k:Nat) (hk:k < E.m) (HA:AcrossOk) (HC:ClearOk) (HL:ClampOk) (HKids:LayOk E 60 l n k):LayOk E 36 l (n + 1) k:=by
 intro B g P c left around w hctx hle hsm
 obtain ⟨x,hx⟩:∃ x,E.bs[k]? = some x:=⟨_,List.getElem?_eq_getElem (by rw [← hE.m];exact hk)⟩
 obtain ⟨i,hi,hin⟩:=hE.nd k x hx
 obtain ⟨y,hy⟩:∃ y,E.ns[i]? = some y:=⟨_,List.getElem?_eq_getElem (by rw [← hE.n];exact hin)⟩
 have hst:w.rangeAt E.nb (E.noff + i * 28 + 2) (stCells y.st).toList:=hle.style hy
 have hbi:w.cell? ⟨E.xb,E.xoff + k * 4 + 1,none⟩ = some (.int .i64 (i:Int)):=(hle.bxs k x hx 1 (.int .i64 x.nd) rfl).trans (by rw [hi])
 obtain ⟨-,-,-,-,-,c5,c6⟩:=hctx.reads
 have lg:g < w.heap.size:=lies_lt hctx.lies
 have hBg:B ≤ w.heap.size:=Nat.le_trans hctx.hg (Nat.le_of_lt lg)
 have lxb:E.xb < w.heap.size:=Nat.lt_of_lt_of_le hle.xlt hBg
 have lnb:E.nb < w.heap.size:=Nat.lt_of_lt_of_le hle.nlt hBg
 have k0:(0:Int) ≤ (k:Int):=by omega
 have k1:(k:Int) < (E.m:Int):=by omega
 have i0:(0:Int) ≤ (i:Int):=by omega
 have i1:(i:Int) < (E.n:Int):=by omega
 have nq:¬ c.own g P w.heap.size:=fun h=>by have:=hctx.own_lt h;omega
 have HCT:Hid (Ctx w B g P E c):=hctx
 have HLE:Hid (LeAt w B E):=hle
 have HSM:Hid (Small c l (n + 1)):=hsm
 clear hctx hle hsm
 go_enter Tryz.func36,Tryz.ntmps36
 go_wp2_with fail
 refine wp_region_held_drew (S:=fun W=>Below w.heap.size w W) (by kernel_rfl) ((Below.refl _ _).drew) (fun hHeld=>?_)
 refine wpAnyH_take (i:=0) (oi:=⟨some 15,Op.move (.tmp 0),88,"l9_page.go:70",#[],none⟩) (v:=.pointer (some ⟨g,0,none⟩)) rfl (by kernel_rfl) (by kernel_rfl) (by kernel_rfl) (fun _ _ _ h=>h) (Or.inl ⟨by rfl,by intro wz hSw;go_simp⟩) hHeld ?_
 simp only [Act.put,List.setIfInBounds_toArray,List.set_cons_zero,List.set_cons_succ]
 refine wpAnyH_take (i:=1) (oi:=⟨some 16,Op.nilCheck (.tmp 15),0,"l9_page.go:70",#[⟨0,.data⟩],none⟩) (v:=.pointer (some ⟨g,0,none⟩)) rfl (by kernel_rfl) (by kernel_rfl) (by kernel_rfl) (fun _ _ _ h=>h) (Or.inl ⟨by rfl,by intro wz hSw;go_simp⟩) hHeld ?_
 simp only [Act.put,List.setIfInBounds_toArray,List.set_cons_zero,List.set_cons_succ]
 refine wpAnyH_take (i:=2) (oi:=⟨some 17,Op.fieldAddr 90 (.tmp 16) 1,0,"l9_page.go:70",#[⟨1,.data⟩],none⟩) (v:=.pointer (some ⟨g,5,none⟩)) rfl (by kernel_rfl) (by kernel_rfl) (by kernel_rfl) (fun _ _ _ h=>h) (Or.inl ⟨by rfl,by intro wz hSw;go_simp⟩) hHeld ?_
 simp only [Act.put,List.setIfInBounds_toArray,List.set_cons_zero,List.set_cons_succ]
 refine wpAnyH_take (i:=3) (oi:=⟨some 18,Op.load 23 (.tmp 17),23,"l9_page.go:70",#[⟨2,.data⟩],none⟩) (v:=.slice (some ⟨E.nb,E.noff,none⟩) E.n E.ncap) rfl (by kernel_rfl) (by kernel_rfl) (by kernel_rfl) (fun _ _ _ h=>h) (Or.inl ⟨by rfl,by intro wz hSw;have hq:wz.cell? ⟨g,5,none⟩ = some (.slice (some ⟨E.nb,E.noff,none⟩) E.n E.ncap):=(hSw.cell (p:=⟨g,5,none⟩) (lg)).trans c5;clear hSw;go_simp⟩) hHeld ?_
 simp only [Act.put,List.setIfInBounds_toArray,List.set_cons_zero,List.set_cons_succ]
 refine wpAnyH_take (i:=4) (oi:=⟨some 19,Op.move (.tmp 0),88,"l9_page.go:70",#[],none⟩) (v:=.pointer (some ⟨g,0,none⟩)) rfl (by kernel_rfl) (by kernel_rfl) (by kernel_rfl) (fun _ _ _ h=>h) (Or.inl ⟨by rfl,by intro wz hSw;go_simp⟩) hHeld ?_
 simp only [Act.put,List.setIfInBounds_toArray,List.set_cons_zero,List.set_cons_succ]
 refine wpAnyH_take (i:=5) (oi:=⟨some 20,Op.nilCheck (.tmp 19),0,"l9_page.go:70",#[⟨4,.data⟩],none⟩) (v:=.pointer (some ⟨g,0,none⟩)) rfl (by kernel_rfl) (by kernel_rfl) (by kernel_rfl) (fun _ _ _ h=>h) (Or.inl ⟨by rfl,by intro wz hSw;go_simp⟩) hHeld ?_
 simp only [Act.put,List.setIfInBounds_toArray,List.set_cons_zero,List.set_cons_succ]
 refine wpAnyH_take (i:=6) (oi:=⟨some 21,Op.fieldAddr 90 (.tmp 20) 2,0,"l9_page.go:70",#[⟨5,.data⟩],none⟩) (v:=.pointer (some ⟨g,6,none⟩)) rfl (by kernel_rfl) (by kernel_rfl) (by kernel_rfl) (fun _ _ _ h=>h) (Or.inl ⟨by rfl,by intro wz hSw;go_simp⟩) hHeld ?_
 simp only [Act.put,List.setIfInBounds_toArray,List.set_cons_zero,List.set_cons_succ]
 refine wpAnyH_take (i:=7) (oi:=⟨some 22,Op.load 24 (.tmp 21),24,"l9_page.go:70",#[⟨6,.data⟩],none⟩) (v:=.slice (some ⟨E.xb,E.xoff,none⟩) E.m E.xcap) rfl (by kernel_rfl) (by kernel_rfl) (by kernel_rfl) (fun _ _ _ h=>h) (Or.inl ⟨by rfl,by intro wz hSw;have hq:wz.cell? ⟨g,6,none⟩ = some (.slice (some ⟨E.xb,E.xoff,none⟩) E.m E.xcap):=(hSw.cell (p:=⟨g,6,none⟩) (lg)).trans c6;clear hSw;go_simp⟩) hHeld ?_
 simp only [Act.put,List.setIfInBounds_toArray,List.set_cons_zero,List.set_cons_succ]
 refine wpAnyH_take (i:=8) (oi:=⟨some 23,Op.move (.tmp 1),3,"l9_page.go:70",#[],none⟩) (v:=.int .i64 (k:Int)) rfl (by kernel_rfl) (by kernel_rfl) (by kernel_rfl) (fun _ _ _ h=>h) (Or.inl ⟨by rfl,by intro wz hSw;go_simp⟩) hHeld ?_
 simp only [Act.put,List.setIfInBounds_toArray,List.set_cons_zero,List.set_cons_succ]
 refine wpAnyH_take (i:=9) (oi:=⟨some 24,Op.indexAddr 24 (.tmp 22) (.tmp 23),0,"l9_page.go:70",#[⟨7,.data⟩,⟨8,.data⟩],none⟩) (v:=.pointer (some ⟨E.xb,E.xoff + k * 4,none⟩)) rfl (by kernel_rfl) (by kernel_rfl) (by kernel_rfl) (fun _ _ _ h=>h) (Or.inl ⟨by rfl,by intro wz hSw;go_simp⟩) hHeld ?_
 simp only [Act.put,List.setIfInBounds_toArray,List.set_cons_zero,List.set_cons_succ]
 refine wpAnyH_take (i:=10) (oi:=⟨some 25,Op.fieldAddr 41 (.tmp 24) 1,0,"l9_page.go:70",#[⟨9,.data⟩],none⟩) (v:=.pointer (some ⟨E.xb,E.xoff + k * 4 + 1,none⟩)) rfl (by kernel_rfl) (by kernel_rfl) (by kernel_rfl) (fun _ _ _ h=>h) (Or.inl ⟨by rfl,by intro wz hSw;go_simp⟩) hHeld ?_
 simp only [Act.put,List.setIfInBounds_toArray,List.set_cons_zero,List.set_cons_succ]
 refine wpAnyH_take (i:=11) (oi:=⟨some 26,Op.load 3 (.tmp 25),3,"l9_page.go:70",#[⟨10,.data⟩],none⟩) (v:=.int .i64 (i:Int)) rfl (by kernel_rfl) (by kernel_rfl) (by kernel_rfl) (fun _ _ _ h=>h) (Or.inl ⟨by rfl,by intro wz hSw;have hq:wz.cell? ⟨E.xb,E.xoff + k * 4 + 1,none⟩ = some (.int .i64 (i:Int)):=(hSw.cell (p:=⟨E.xb,E.xoff + k * 4 + 1,none⟩) (lxb)).trans hbi;clear hSw;go_simp⟩) hHeld ?_
 simp only [Act.put,List.setIfInBounds_toArray,List.set_cons_zero,List.set_cons_succ]
 refine wpAnyH_take (i:=12) (oi:=⟨some 27,Op.indexAddr 23 (.tmp 18) (.tmp 26),0,"l9_page.go:70",#[⟨3,.data⟩,⟨11,.data⟩],none⟩) (v:=.pointer (some ⟨E.nb,E.noff + i * 28,none⟩)) rfl (by kernel_rfl) (by kernel_rfl) (by kernel_rfl) (fun _ _ _ h=>h) (Or.inl ⟨by rfl,by intro wz hSw;go_simp⟩) hHeld ?_
 simp only [Act.put,List.setIfInBounds_toArray,List.set_cons_zero,List.set_cons_succ]
 refine wpAnyH_take (i:=13) (oi:=⟨some 28,Op.fieldAddr 75 (.tmp 27) 2,0,"l9_page.go:70",#[⟨12,.data⟩],none⟩) (v:=.pointer (some ⟨E.nb,E.noff + i * 28 + 2,none⟩)) rfl (by kernel_rfl) (by kernel_rfl) (by kernel_rfl) (fun _ _ _ h=>h) (Or.inl ⟨by rfl,by intro wz hSw;go_simp⟩) hHeld ?_
 simp only [Act.put,List.setIfInBounds_toArray,List.set_cons_zero,List.set_cons_succ]
 refine wpAnyH_take (i:=14) (oi:=⟨some 29,Op.load 73 (.tmp 28),73,"l9_page.go:70",#[⟨13,.data⟩],none⟩) (v:=.agg (stCells y.st)) rfl (by kernel_rfl) (by kernel_rfl) (by kernel_rfl) (fun _ _ _ h=>h) (yieldsIf_load_mid (by rfl) 73 _ rfl (E.nb) (E.noff + i * 28 + 2) rfl ((stCells y.st).toList) _ (fun wz hw=>fun j u hu=>(hw.cell (p:=⟨E.nb,E.noff + i * 28 + 2 + j,none⟩) (lnb)).trans (hst j u hu)) Tryz.underlying73 rfl (by kernel_rfl)) hHeld ?_
 simp only [Act.put,List.setIfInBounds_toArray,List.set_cons_zero,List.set_cons_succ]
 refine wpAnyH_ready (rs:=[15]) (by kernel_rfl) (by simp) ?_
 refine AllReadyH.cons (o:=⟨some 8,Op.alloc 73,0,"l9_page.go:70",#[],none⟩) rfl (fun K hK=>?_) AllReadyH.nil
 go_simp
 refine hK.out _ _ (hHeld.alloc hHeld.size _) (fun hHeld'=>?_)
 have fz:=heap_at w.drew (.cells (#[.int .i64 0,.int .i64 0,.int .i64 0,.bool false,.bool false,.int .i64 0,.bool false,.bool false,.int .i64 0,.int .i64 0,.int .i64 0,.int .i64 0,.bool false,.bool false,.int .i64 0,.int .i64 0,.bool false,.bool false,.int .i64 0,.int .i64 0,.int .i64 0,.int .i64 0,.int .i64 0,.int .i64 0,.int .i64 0,.int .i64 0]) 73) w.heap.size rfl
 clear hK K
 try simp only [Act.put,List.setIfInBounds_toArray,List.set_cons_zero,List.set_cons_succ]
 refine wpAnyH_ready (rs:=[16]) (by kernel_rfl) (by simp) ?_
 refine AllReadyH.cons (o:=⟨none,Op.store 73 (.tmp 8) (.tmp 29),0,"l9_page.go:70",#[⟨15,.data⟩,⟨14,.data⟩,⟨0,.phase⟩,⟨1,.phase⟩,⟨2,.phase⟩,⟨3,.phase⟩,⟨4,.phase⟩,⟨5,.phase⟩,⟨6,.phase⟩,⟨7,.phase⟩,⟨8,.phase⟩,⟨9,.phase⟩,⟨10,.phase⟩,⟨11,.phase⟩,⟨12,.phase⟩,⟨13,.phase⟩,⟨14,.phase⟩,⟨15,.phase⟩],none⟩) rfl (fun K hK=>?_) AllReadyH.nil
 rw [if_pos (by rfl)]
 refine wp_put9 73 _ _ rfl rfl w.heap.size 0 26 (stCells y.st).toList _ _ rfl rfl fz rfl (by kernel_rfl) (by kernel_rfl) (by kernel_rfl) ?_
 intro w1 p9 l9
 have l1:w1.heap[w.heap.size]? = some (.cells (stCells y.st) 73 (0,0)):=l9.trans (congrArg (fun c=>some (Obj.cells c 73 (0,0))) (show _ = stCells y.st by kernel_rfl))
 refine hK.out _ _ (p9.below hHeld' (Nat.le_refl _)) (fun hHeld''=>?_)
 clear hK K
 try simp only [Act.put,List.setIfInBounds_toArray,List.set_cons_zero,List.set_cons_succ]
 refine wpAnyH_done (by kernel_rfl) ?_ _
 have b1:Below w.heap.size w w1:=hHeld''
 clear hHeld hHeld' hHeld'' fz p9 l9
 have K1:Hid (Ctx w1 B g P E c):=HCT.out.keep b1
 have HST:Hid (w1.heap[w.heap.size]? = some (.cells (stCells y.st) 73 (0,0))):=l1
 clear c5 c6 hst hbi
 go_wp2_with (first | ((with_reducible show wpList _ _ _ (⟨some 30,Op.load 73 _,_,_,_,_⟩ :: _) _ _);refine wpList_load_row rfl 73 _ rfl w.heap.size rfl _ (stCells y.st) _ _ HST.out Tryz.underlying73 rfl (by kernel_rfl) ?_) | fail)
 refine (HA _ _ _).mono ?_
 rintro e w2 ⟨aL,aW,aR,rfl,hb2⟩
 have l2:=below_lies hb2 HST.out (lies_lt HST.out)
 have s19:w2.cell? ⟨w.heap.size,19,none⟩ = some (.int .i64 y.st.bo):=(lies_cell l2 19).trans rfl
 have s20:w2.cell? ⟨w.heap.size,20,none⟩ = some (.int .i64 y.st.pa):=(lies_cell l2 20).trans rfl
 have hlq:w.heap.size < w2.heap.size:=lies_lt l2
 go_wp2_with fail
 obtain ⟨W3,hW3⟩:∃ W,W = w2.alloc (.cells #[.int .i64 aL,.int .i64 aW,.int .i64 aR] 110):=⟨_,rfl⟩
 have b3:Below w.heap.size w W3:=by rw [hW3];exact (b1.trans (hb2.mono b1.size)).alloc (by have:=b1.size;have:=hb2.size;omega) _
 have l3:W3.heap[w.heap.size]? = some (.cells (stCells y.st) 73 (0,0)):=by rw [hW3];exact heap_in l2
 have a3:W3.heap[w2.heap.size]? = some (.cells #[.int .i64 aL,.int .i64 aW,.int .i64 aR] 110 (0,0)):=by rw [hW3];exact heap_at _ _ _ rfl
 rw [← hW3]
 clear hW3 s19 s20 l2 K1 HST l1
 have X3:=HCT.out.keep b3
 have nqa:¬ c.own g P w2.heap.size:=fun h=>by have:=HCT.out.own_lt h;have:=b1.size;have:=hb2.size;omega
 have hB3:Below B w W3:=b3.mono hBg
 have L3:Hid (LeAt W3 B E):=HLE.out.below hB3
 have G03:Hid (Goes B g P E c w c W3):=Goes.keep HCT.out b3
 have HLA:Hid (W3.heap[w2.heap.size]? = some (.cells #[.int .i64 aL,.int .i64 aW,.int .i64 aR] 110 (0,0)) ∧ W3.heap[w.heap.size]? = some (.cells (stCells y.st) 73 (0,0))):=⟨a3,l3⟩
 have d0:W3.cell? ⟨w2.heap.size,0,none⟩ = some (.int .i64 aL):=(lies_cell a3 0).trans rfl
 obtain ⟨-,-,-,-,d7,-⟩:=X3.cells
 have fP:=X3.freeP (k * 4)
 have hpl:=X3.place (k * 4) (by omega)
 have nPa:P ≠ w2.heap.size:=fun e=>nqa (.inr (.inl e.symm))
 have naP:=Ne.symm nPa
 have nPg:=X3.ne
 have ngP:=Ne.symm nPg
 have GP:=X3.setPd
 generalize w2.heap.size = qa at *
 generalize w.heap.size = q at *
 generalize wrap64 (y.st.bo + y.st.pa) = ed
 clear b3 l3 a3 hB3 b1 hb2 hlq HLE lxb lnb lg hBg HCT
 go_region_held3 (fun w'=>w'.cell? ⟨g,7,none⟩ = some (.slice (some ⟨P,0,none⟩) E.m E.m) ∧ w'.cell? ⟨qa,0,none⟩ = some (.int .i64 aL)) (go_keep) (fail)
 all_goals
  generalize hW4:(W3.setCell ⟨P,k * 4,none⟩ _).drew = W4
  obtain ⟨c4,G4,n4⟩:∃ c4,Goes B g P E c W3 c4 W4 ∧ Len c c4:=by rw [← hW4];exact ⟨_,GP _ _,rfl,rfl,rfl⟩
  have H4:Hid (Goes B g P E c W3 c4 W4 ∧ Len c c4):=⟨G4,n4⟩
  have X4:=G4.ctx
  have d1:W4.cell? ⟨qa,1,none⟩ = some (.int .i64 aW):=(lies_cell (G4.other HLA.out.1 nqa) 1).trans rfl
  obtain ⟨-,-,-,-,e7,-⟩:=X4.cells
  have gP:=X4.freeP (k * 4 + 2)
  have hqm:=X4.place (k * 4 + 2) (by omega)
  have GP4:=X4.setPd
  clear hW4 GP G4 n4 X4 X3 d0 d7 fP hpl
  go_wp2_with fail
  go_region_held3 (fun w'=>w'.cell? ⟨g,7,none⟩ = some (.slice (some ⟨P,0,none⟩) E.m E.m) ∧ w'.cell? ⟨qa,1,none⟩ = some (.int .i64 aW)) (go_keep) (fail)
  all_goals
   generalize hW5:(W4.setCell ⟨P,k * 4 + 2,none⟩ _).drew = W5
   obtain ⟨c5,G5,n5⟩:∃ c5,Goes B g P E c W3 c5 W5 ∧ Len c c5:=by rw [← hW5];exact ⟨_,H4.out.1.trans (GP4 _ _),H4.out.2⟩
   have H5:Hid (Goes B g P E c W3 c5 W5 ∧ Len c c5):=⟨G5,n5⟩
   have X5:=G5.ctx
   obtain ⟨t10,t11,t12,t13,t7,-⟩:=X5.cells
   obtain ⟨ao,capo,hvo,-⟩:=X5.open_row
   rw [hvo] at t13
   have HVO:Hid (c5.vo = .slice ao c5.os.length capo):=hvo
   clear hvo
   have s7:W5.cell? ⟨q,11,none⟩ = some (.int .i64 y.st.mt):=(lies_cell (G5.other HLA.out.2 nq) 11).trans rfl
   have PD:=fun z=>pend_ctx z W5 X5
   clear hW5 GP4 G5 n5 X5 d1 e7 gP hqm
   go_wp2_with fail
   refine (PD _).mono ?_
   rintro e W6 ⟨rfl,up6,dn6,G6⟩
   have H6:Hid (Goes B g P E c W3 { c5 with up:=up6,dn:=dn6 } W6):=H5.out.1.trans G6
   have X6:=G6.ctx
   have s2:W6.cell? ⟨q,2,none⟩ = some (.int .i64 y.st.cl):=(lies_cell (H6.out.other HLA.out.2 nq) 2).trans rfl
   obtain ⟨-,-,-,-,-,-,t9,-⟩:=X6.cells
   clear PD t10 t11 t12 t13 t7 s7 G6
   go_upto_if 79 with fail
   go_cut [] (fun wc=>∃ c7,Goes B g P E c W3 c7 wc ∧ c7.xs.length = c.xs.length ∧ c7.fs.length = c.fs.length ∧ c7.os.length ≤ c.os.length)
   case first =>
    as_aux_lemma =>
     have n5:=H5.out.2
     by_cases hcl:y.st.cl = 0
     ·have bcl:(y.st.cl != 0) = false:=by simp [hcl]
      clear s2 t9
      go_wp2_with fail
      go_meet
      case rel=>exact ⟨_,H6.out,n5.1,n5.2.1,Nat.le_of_eq n5.2.2⟩
     have bcl:(y.st.cl != 0) = true:=by simp [hcl]
     obtain ⟨af,capf,hvf,-,hrf,-⟩:=OwnA.form X6.of
     have hvf':c5.vf = .slice af c5.fs.length capf:=hvf
     have hrf':AsRow W6 af c5.fs:=hrf
     have t9':W6.cell? ⟨g,9,none⟩ = some (.slice af c5.fs.length capf):=t9.trans (by rw [← hvf'])
     have hnf:c5.fs.length ≤ 1000:=by have:=HSM.out.2.1;have:=n5.2.1;omega
     have X6d:=X6.keep ((Below.refl _ _).drew)
     have MK:=fun W (hW:Below W6.heap.size W6 W)=>mark_ctx W (X6.keep hW)
     have CL:=fun z W (hW:Below W6.heap.size W6 W)=>HC af c5.fs.length capf c5.fs y.st.cl z W rfl (hrf'.below hW) hnf
     have lt9:g < W6.heap.size:=lies_lt X6.lies
     have lt2:q < W6.heap.size:=lies_lt (H6.out.other HLA.out.2 nq)
     have HX6:Hid (Ctx W6 B g P E { c5 with up:=up6,dn:=dn6 }):=X6
     clear hvf hrf t9 hvf' hrf' X6 X6d
     go_wp2_with fail
     go_region_held3 (fun w'=>w'.cell? ⟨g,9,none⟩ = some (.slice af c5.fs.length capf) ∧ w'.cell? ⟨q,2,none⟩ = some (.int .i64 y.st.cl)) (first | go_keep | exact hS8 | exact hS7)
      ((first
       | (go_at_call 59;refine (MK _ ((Below.refl _ _).drew)).mono ?_;rintro e W7 ⟨z7,rfl,hb7⟩;have b67:Below W6.heap.size W6 W7:=⟨hb7.os,hb7.tape,hb7.output,hb7.size,hb7.block⟩;have hS7:=And.intro ((b67.cell (p:=⟨g,9,none⟩) lt9).trans t9') ((b67.cell (p:=⟨q,2,none⟩) lt2).trans s2))
       | (go_at_call 58;refine (CL _ _ b67).mono ?_;rintro e W8 ⟨z8,rfl,hb8⟩;have b68:Below W6.heap.size W6 W8:=b67.trans (hb8.mono b67.size);have hS8:=And.intro ((b68.cell (p:=⟨g,9,none⟩) lt9).trans t9') ((b68.cell (p:=⟨q,2,none⟩) lt2).trans s2))
       | fail))
     all_goals
      have X8:=HX6.out.keep b68
      have MK8:=mark_ctx W8 X8
      clear hS7 hS8 hb7 hb8 b67 t9' s2 MK CL lt9 lt2
      go_wp2_with fail
      refine MK8.mono ?_
      rintro e W9 ⟨z9,rfl,hb9⟩
      have b69:Below W6.heap.size W6 W9:=b68.trans (hb9.mono b68.size)
      have H9:Hid (Goes B g P E c W3 { c5 with up:=up6,dn:=dn6 } W9):=H6.out.trans (Goes.keep HX6.out b69)
      have X9:=HX6.out.keep b69
      clear X8 MK8 b68 hb9
      by_cases hz:z9 < z8
      rotate_left
      ·clear X9
       go_wp2_with fail
       go_meet
       case rel=>exact ⟨_,H9.out,n5.1,n5.2.1,Nat.le_of_eq n5.2.2⟩
      obtain ⟨t10,t11,t12,t13,-⟩:=X9.cells
      have t13:W9.cell? ⟨g,13,none⟩ = some (.slice ao c5.os.length capo):=t13.trans (by rw [← HVO.out])
      have f13:=X9.free 13
      have f11:=X9.free 11
      have f12:=X9.free 12
      have Ga:Goes B g P E { c5 with up:=up6,dn:=dn6 } W9 { c5 with up:=up6,dn:=dn6 } (W9.setCell ⟨g,13,none⟩ (.slice ao c5.os.length capo)):=by rw [← HVO.out];exact X9.sameO
      have Gb:=Ga.trans (Ga.ctx.setUp c5.up)
      have Gc:=Gb.trans (Gb.ctx.setDn c5.dn)
      have ST:=settle_ctx _ Gc.ctx (by show c5.os.length ≤ 1000;have:=HSM.out.2.2;have:=n5.2.2;omega)
      have HGc:Hid (_):=Gc
      clear Ga Gb Gc X9
      go_wp2_with fail
      refine ST.mono ?_
      rintro e W10 ⟨rfl,y10,ps10,G10⟩
      have X10:=G10.ctx
      have f10:=X10.free 10
      obtain ⟨t10',-⟩:=X10.cells
      have G11:=fun z=>(H9.out.trans HGc.out).trans (G10.trans (X10.setY z))
      clear ST t10 t11 t12 t13 f13 f11 f12 X10 G10
      go_wp2_with fail
      go_meet
      case rel=>exact ⟨_,G11 _,n5.1,n5.2.1,Nat.zero_le _⟩
   case rest =>
    as_aux_lemma =>
     obtain ⟨c7,G7,nx7,nf7,no7⟩:=hcut
     have H7:Hid (Goes B g P E c W3 c7 wc ∧ c7.xs.length = c.xs.length ∧ c7.fs.length = c.fs.length ∧ c7.os.length ≤ c.os.length):=⟨G7,nx7,nf7,no7⟩
     have X7:=G7.ctx
     obtain ⟨-,-,-,r13,-⟩:=X7.cells
     obtain ⟨a7,cap7,hv7,hr7⟩:=X7.open_row
     rw [hv7] at r13
     have f13:=X7.free 13
     have lt7:g < wc.heap.size:=lies_lt X7.lies
     obtain ⟨iI,hi0,hz0,hz1,hz2⟩:=info_parts Tryz.infoInt
     have hno:c7.os.length ≤ 1000:=by have:=HSM.out.2.2;omega
     clear H5 H6 X6 s2 t9 HVO G7 nx7 nf7 no7 hr7
     have HX7:Hid (Ctx wc B g P E c7):=X7
     have KOK:Hid (∀ z ∈ c7.os ++ [(k:Int)],∃ k:Nat,z = (k:Int) ∧ k < E.m):=fun z hz=>by
      rcases List.mem_append.1 hz with h | h
      ·exact HX7.out.ook z h
      ·exact ⟨k,by simpa using h,hk⟩
     have hOO:=X7.oo
     clear X7
     go_upto_region 17 with fail
     go_cut [] (fun wx=>∃ c8,Goes B g P E c W3 c8 wx ∧ c8.xs.length = c.xs.length ∧ c8.fs.length = c.fs.length ∧ c8.os.length ≤ c.os.length + 1)
     case first =>
      as_aux_lemma =>
       have hown0:(wc.alloc (.cells #[] 3)).ownsRow wc.heap.size 3 1 (.slice (some ⟨wc.heap.size,0,none⟩) 0 0) 0 []:=own_empty wc
       have FIN:Hid (∀ (W:World) (v:Value),Below wc.heap.size wc W → W.ownsRow wc.heap.size 3 1 v (c7.os.length + 1) (intsV c7.os ++ [.int .i64 (k:Int)]) → ∃ c8,Goes B g P E c W3 c8 (W.setCell ⟨g,13,none⟩ v) ∧ c8.xs.length = c.xs.length ∧ c8.fs.length = c.fs.length ∧ c8.os.length ≤ c.os.length + 1):=fun W v hb ho=>by
        have ho':W.ownsRow B 3 1 v (c7.os ++ [(k:Int)]).length (intsV (c7.os ++ [(k:Int)])):=by
         have h1:=own_lower ho (Nat.le_trans HX7.out.hg (Nat.le_of_lt lt7))
         unfold intsV at h1 ⊢
         rw [List.map_append,List.length_append]
         exact h1
        refine ⟨_,H7.out.1.trans (HX7.out.putO hb v _ ho' (fun b hb'=>(ho.lt b hb').1) KOK.out),H7.out.2.1,H7.out.2.2.1,?_⟩
        have:=H7.out.2.2.2
        simp
        omega
       rcases hOO.2 with ⟨hv,hn⟩ | ⟨g',cap',cur,hv,hbg,hgg,hcap,hm,hsz,htk⟩
       ·rw [hv] at hv7
        injection hv7 with e1 e2 e3
        subst e1 e3
        have hnil:c7.os = []:=List.eq_nil_of_length_eq_zero hn
        rw [hnil] at r13 FIN
        have R13:Hid (wc.cell? ⟨g,13,none⟩ = some (.slice none 0 0)):=r13
        have F13:Hid (wc.frozen? ⟨g,13,none⟩ = false):=f13
        clear hv hOO hn e2 hno
        go_wp2_with (at_builtin;refine wpList_append_lies _ rfl (.tmp 117) (.tmp 119) _ rfl wc.heap.size 3 iI (.int .i64 0) 1 8 Tryz.underlying69 hi0 hz0 hz1 hz2 rfl (by decide) _ 0 [] rfl (hown0.alloc _) ⟨wc.heap.size + 1,0,none⟩ 1 1 [.int .i64 (k:Int)] rfl rfl (cell_one_at _ _ _ _ (by simp)) (one_i64 _) (by decide) (by unfold maxLen;omega) (by omega) (by simp;omega) _ rfl ?_)
        intro g2 cap2 w2' hown2 hgrow2 hat2 hlt2
        have bw2:Below wc.heap.size wc w2':=(((Below.refl wc.heap.size wc).alloc (Nat.le_refl _) _).alloc (by simp) _).grown hgrow2 (by simp;omega) (fun j hj=>(hown0.lt j hj).1)
        have RES:=FIN.out w2' _ bw2 hown2
        have p13':w2'.cell? ⟨g,13,none⟩ = some (.slice none 0 0):=(bw2.cell (p:=⟨g,13,none⟩) lt7).trans R13.out
        have q13':w2'.frozen? ⟨g,13,none⟩ = false:=(bw2.frozen (p:=⟨g,13,none⟩) lt7).trans F13.out
        clear hgrow2 hown2 bw2 r13 f13
        go_wp2_with fail
        go_meet
        case rel=>exact RES
       ·rw [hv] at hv7
        injection hv7 with e1 e2 e3
        subst e1 e3
        have hOO':wc.ownsRow B 3 1 (.slice (some ⟨g',0,none⟩) c7.os.length cap') c7.os.length (intsV c7.os):=by rw [← hv];exact hOO
        have hcell:∀ j u,(intsV c7.os)[j]? = some u → (wc.alloc (.cells #[] 3)).cell? ((⟨g',0,none⟩:Addr).add j) = some u:=fun j u hj=>by
         rw [Addr.add_lit,Nat.zero_add]
         have hlt:j < c7.os.length:=by have:=(List.getElem?_eq_some_iff.1 hj).1;simpa [intsV] using this
         exact (((Below.refl _ _).alloc (Nat.le_refl wc.heap.size) _).cell (p:=⟨g',j,none⟩) (lies_lt hgg)).trans ((hOO'.cellAt j (by omega)).trans hj)
        have hone:∀ u ∈ intsV c7.os,u.oneCell' = true:=fun u hu=>by
         unfold intsV at hu
         obtain ⟨z,_,rfl⟩:=List.mem_map.1 hu
         rfl
        have hlen:(intsV c7.os).length = c7.os.length * 1:=by simp [intsV]
        have R13:Hid (wc.cell? ⟨g,13,none⟩ = some (.slice (some ⟨g',0,none⟩) c7.os.length cap')):=r13
        have F13:Hid (wc.frozen? ⟨g,13,none⟩ = false):=f13
        clear hv hgg hcap hm hsz htk hOO hOO'
        go_wp2_with (at_builtin;refine wpList_append_own _ rfl (.tmp 112) (.tmp 116) 69 rfl wc.heap.size 3 iI (.int .i64 0) 1 8 Tryz.underlying69 hi0 hz0 hz1 hz2 rfl (by decide) _ _ _ rfl hown0 ⟨g',0,none⟩ c7.os.length cap' (intsV c7.os) rfl hlen hcell hone (by unfold maxLen;omega) (by omega) (by simp) ?_)
        intro v1 w1' hown1 hgrow1 _
        have bw1:Below wc.heap.size wc w1':=((Below.refl wc.heap.size wc).alloc (Nat.le_refl _) _).grown hgrow1 (by simp) (fun j hj=>(hown0.lt j hj).1)
        have hsz1:=bw1.size
        have p13:w1'.cell? ⟨g,13,none⟩ = some (.slice (some ⟨g',0,none⟩) c7.os.length cap'):=(bw1.cell (p:=⟨g,13,none⟩) lt7).trans r13
        have q13:w1'.frozen? ⟨g,13,none⟩ = false:=(bw1.frozen (p:=⟨g,13,none⟩) lt7).trans f13
        clear hgrow1 r13 f13
        go_wp2_with (at_builtin;refine wpList_append_lies _ rfl _ _ _ rfl wc.heap.size 3 iI (.int .i64 0) 1 8 Tryz.underlying69 hi0 hz0 hz1 hz2 rfl (by decide) _ c7.os.length (intsV c7.os) rfl (hown1.alloc _) ⟨w1'.heap.size,0,none⟩ 1 1 [.int .i64 (k:Int)] rfl rfl (cell_one_new _ _ _) (one_i64 _) (by decide) (by unfold maxLen;omega) (by omega) (by simp;omega) _ rfl ?_)
        intro g2 cap2 w2' hown2 hgrow2 hat2 hlt2
        have bw2:Below wc.heap.size wc w2':=(bw1.alloc hsz1 _).grown hgrow2 (by simp;omega) (fun j hj=>(hown1.lt j hj).1)
        have RES:=FIN.out w2' _ bw2 hown2
        have p13':w2'.cell? ⟨g,13,none⟩ = some (.slice (some ⟨g',0,none⟩) c7.os.length cap'):=(bw2.cell (p:=⟨g,13,none⟩) lt7).trans (R13.out)
        have q13':w2'.frozen? ⟨g,13,none⟩ = false:=(bw2.frozen (p:=⟨g,13,none⟩) lt7).trans F13.out
        clear hgrow2 hown2 hown1 bw1 bw2 p13 q13
        go_wp2_with fail
        go_meet
        case rel=>exact RES
     case rest =>
      as_aux_lemma =>
       obtain ⟨c8,G8,nx8,nf8,no8⟩:=hcut
       have H8:Hid (Goes B g P E c W3 c8 wc ∧ c8.xs.length = c.xs.length ∧ c8.fs.length = c.fs.length ∧ c8.os.length ≤ c.os.length + 1):=⟨G8,nx8,nf8,no8⟩
       have X8:=G8.ctx
       have hno8:c8.os.length ≤ 1000:=by have:=HSM.out.2.2;omega
       clear G8 nx8 nf8 no8
       go_upto_if 124 with fail
       go_cut [] (fun wx=>∃ c9,Goes B g P E c W3 c9 wx ∧ c9.xs.length = c.xs.length ∧ c9.fs.length = c.fs.length ∧ c9.os.length ≤ c.os.length + 1)
       case first =>
        as_aux_lemma =>
         by_cases hed:0 < ed
         ·have SE:=settle_ctx _ X8 hno8
          go_wp2_with fail
          refine SE.mono ?_
          rintro e V9 ⟨rfl,y9,ps9,G9⟩
          have Y9:=G9.ctx
          obtain ⟨m10,-⟩:=Y9.cells
          have f10:=Y9.free 10
          have GY:=fun z=>(H8.out.1.trans G9).trans (Y9.setY z)
          clear SE G9 Y9 X8
          go_wp2_with fail
          go_meet
          case rel=>exact ⟨_,GY _,H8.out.2.1,H8.out.2.2.1,Nat.zero_le _⟩
         ·clear X8
          go_wp2_with fail
          go_meet
          case rel=>exact ⟨_,H8.out.1,H8.out.2.1,H8.out.2.2.1,H8.out.2.2.2⟩
       case rest =>
        as_aux_lemma =>
         obtain ⟨c9,G9,nx9,nf9,no9⟩:=hcut
         have H9:Hid (Goes B g P E c W3 c9 wc ∧ c9.xs.length = c.xs.length ∧ c9.fs.length = c.fs.length ∧ c9.os.length ≤ c.os.length + 1):=⟨G9,nx9,nf9,no9⟩
         have X9:=G9.ctx
         have m0:wc.cell? ⟨qa,0,none⟩ = some (.int .i64 aL):=(lies_cell (G9.other HLA.out.1 nqa) 0).trans rfl
         have m1:wc.cell? ⟨qa,1,none⟩ = some (.int .i64 aW):=(lies_cell (G9.other HLA.out.1 nqa) 1).trans rfl
         have KD:=fun lf ar=>HKids B g P c9 lf ar wc X9 (L3.out.below (G9.below G03.out.ctx)) ⟨by have:=HSM.out.1;omega,by have:=HSM.out.2.1;omega,by have:=HSM.out.2.2;omega⟩
         clear G9 nx9 nf9 no9 X8 X9 H8
         go_wp2_with fail
         refine (KD _ _).mono ?_
         rintro e V10 ⟨rfl,c10,G10,n10⟩
         have H10:Hid (Goes B g P E c W3 c10 V10 ∧ Grow c c10 l (n + 1)):=⟨H9.out.1.trans G10,by have h1:=H9.out.2;have h2:=n10;unfold Grow at h2 ⊢;omega⟩
         have X10:=G10.ctx
         have hno10:c10.os.length ≤ 1000:=by have:=HSM.out.2.2;have:=H10.out.2.2.2;omega
         have lst:V10.heap[q]? = some (.cells (stCells y.st) 73 (0,0)):=H10.out.1.other HLA.out.2 nq
         have s6:V10.cell? ⟨q,6,none⟩ = some (.bool y.st.h.a):=(lies_cell lst 6).trans rfl
         clear KD m0 m1 G10 n10 H9
         go_upto_block 0 with fail
         go_cut [] (fun wx=>∃ c11,Goes B g P E c W3 c11 wx ∧ Grow c c11 l (n + 1))
         case first =>
          as_aux_lemma =>
           have SE:=settle_ctx _ X10 hno10
           cases ha:y.st.h.a
           ·rw [ha] at s6
            go_wp2_with fail
            refine SE.mono ?_
            rintro e V11 ⟨rfl,y11,ps11,G11⟩
            have H11:Hid (Goes B g P E c W3 _ V11):=H10.out.1.trans G11
            have X11:=G11.ctx
            obtain ⟨-,-,-,-,z7,-⟩:=X11.cells
            have s8:V11.cell? ⟨q,8,none⟩ = some (.int .i64 y.st.h.n):=(lies_cell (H11.out.other HLA.out.2 nq) 8).trans rfl
            have zQ:=X11.place (k * 4 + 3) (by omega)
            have fP:=X11.freeP (k * 4 + 3)
            have GP:=X11.setPd
            have nPq:P ≠ q:=fun e=>nq (.inr (.inl e.symm))
            have nqP:=Ne.symm nPq
            clear SE X11 s6 lst X10
            go_wp2_with fail
            go_region_held3 (fun w'=>w'.cell? ⟨g,7,none⟩ = some (.slice (some ⟨P,0,none⟩) E.m E.m) ∧ w'.cell? ⟨q,8,none⟩ = some (.int .i64 y.st.h.n)) (go_keep) (fail)
            all_goals
             generalize hV12:(V11.setCell ⟨P,k * 4 + 3,none⟩ _).drew = V12
             obtain ⟨c12,G12,n12⟩:∃ c12,Goes B g P E c W3 c12 V12 ∧ Grow c c12 l (n + 1):=by rw [← hV12];exact ⟨_,H11.out.trans (GP _ _),H10.out.2.1,H10.out.2.2.1,Nat.zero_le _⟩
             have H12:Hid (Goes B g P E c W3 c12 V12 ∧ Grow c c12 l (n + 1)):=⟨G12,n12⟩
             have X12:=G12.ctx
             obtain ⟨z10,-,-,-,z7',-⟩:=X12.cells
             have zP:=X12.place (k * 4 + 1) (by omega)
             have zQ':=X12.place (k * 4 + 3) (by omega)
             have f10:=X12.free 10
             have GY:=X12.setYd
             have K25:=fun v=>And.intro (cell_oth (v:=v) (b:=g) (i:=10) z7' (.inr (by decide))) (And.intro (cell_oth (v:=v) (b:=g) (i:=10) zP (.inl ngP)) (cell_oth (v:=v) (b:=g) (i:=10) zQ' (.inl ngP)))
             clear hV12 GP G12 n12 X12 s8 z7 zQ fP
             go_wp2_with fail
             go_region_held3 (fun w'=>w'.cell? ⟨g,7,none⟩ = some (.slice (some ⟨P,0,none⟩) E.m E.m) ∧ w'.cell? ⟨P,k * 4 + 1,none⟩ = some (.int .i64 (c12.ps.getD (k * 4 + 1) 0)) ∧ w'.cell? ⟨P,k * 4 + 3,none⟩ = some (.int .i64 (c12.ps.getD (k * 4 + 3) 0))) (first | go_keep | exact K25 _) (fail)
             all_goals
              go_wp2_with fail
              go_meet
              case rel=>exact ⟨_,H12.out.1.trans (GY _),H12.out.2⟩
           ·rw [ha] at s6
            by_cases hed:0 < ed
            ·go_wp2_with fail
             refine SE.mono ?_
             rintro e V11 ⟨rfl,y11,ps11,G11⟩
             have H11:Hid (Goes B g P E c W3 _ V11):=H10.out.1.trans G11
             have X11:=G11.ctx
             obtain ⟨z10,-⟩:=X11.cells
             have f10:=X11.free 10
             have GY:=X11.setY
             clear SE X11 s6 lst X10 G11
             go_wp2_with fail
             generalize hV12:(V11.setCell ⟨g,10,none⟩ _) = V12
             obtain ⟨c12,G12,n12⟩:∃ c12,Goes B g P E c W3 c12 V12 ∧ Grow c c12 l (n + 1):=by rw [← hV12];exact ⟨_,H11.out.trans (GY _),H10.out.2.1,H10.out.2.2.1,Nat.zero_le _⟩
             have H12:Hid (Goes B g P E c W3 c12 V12 ∧ Grow c c12 l (n + 1)):=⟨G12,n12⟩
             have X12:=G12.ctx
             obtain ⟨zy,-,-,-,z7,-⟩:=X12.cells
             have zP:=X12.place (k * 4 + 1) (by omega)
             have zQ:=X12.place (k * 4 + 3) (by omega)
             have fP:=X12.freeP (k * 4 + 3)
             have GP:=X12.setPd
             clear X12 G12 n12 hV12 GY z10 f10
             have K29:=fun v=>And.intro (cell_oth (v:=v) (b:=P) (i:=k * 4 + 3) z7 (.inl nPg)) (And.intro (cell_oth (v:=v) (b:=P) (i:=k * 4 + 3) zy (.inl nPg)) (cell_oth (v:=v) (b:=P) (i:=k * 4 + 3) zP (.inr (by omega))))
             go_wp2_with fail
             go_region_held3 (fun w'=>w'.cell? ⟨g,7,none⟩ = some (.slice (some ⟨P,0,none⟩) E.m E.m) ∧ w'.cell? ⟨g,10,none⟩ = some (.int .i64 c12.y) ∧ w'.cell? ⟨P,k * 4 + 1,none⟩ = some (.int .i64 (c12.ps.getD (k * 4 + 1) 0))) (first | go_keep | exact K29 _)
              ((first | (go_at_call 61;refine (HL _ _ _ _).mono ?_;rintro e Vx ⟨zc,rfl,hwx⟩;have hwx:=hwx.symm;subst hwx) | fail))
             all_goals
              go_wp2_with fail
              go_meet
              case rel=>exact ⟨_,H12.out.1.trans (GP _ _),H12.out.2⟩
            ·have ISO:=isOpen_ctx (k:Int) _ X10 hno10
             clear SE
             go_wp2_with fail
             refine ISO.mono ?_
             rintro e V11 ⟨⟨bo,rfl⟩,hw⟩
             have hw:=hw.symm
             subst hw
             cases bo
             ·clear ISO s6 lst
              have X12:=X10
              obtain ⟨z10,-,-,-,z7,-⟩:=X12.cells
              have zP:=X12.place (k * 4 + 1) (by omega)
              have zQ:=X12.place (k * 4 + 3) (by omega)
              have fP:=X12.freeP (k * 4 + 3)
              have GP:=X12.setPd
              clear X12
              have K29:=fun v=>And.intro (cell_oth (v:=v) (b:=P) (i:=k * 4 + 3) z7 (.inl nPg)) (And.intro (cell_oth (v:=v) (b:=P) (i:=k * 4 + 3) z10 (.inl nPg)) (cell_oth (v:=v) (b:=P) (i:=k * 4 + 3) zP (.inr (by omega))))
              go_wp2_with fail
              go_region_held3 (fun w'=>w'.cell? ⟨g,7,none⟩ = some (.slice (some ⟨P,0,none⟩) E.m E.m) ∧ w'.cell? ⟨g,10,none⟩ = some (.int .i64 c10.y) ∧ w'.cell? ⟨P,k * 4 + 1,none⟩ = some (.int .i64 (c10.ps.getD (k * 4 + 1) 0))) (first | go_keep | exact K29 _)
               ((first | (go_at_call 61;refine (HL _ _ _ _).mono ?_;rintro e Vx ⟨zc,rfl,hwx⟩;have hwx:=hwx.symm;subst hwx) | fail))
              all_goals
               go_wp2_with fail
               go_meet
               case rel=>exact ⟨_,H10.out.1.trans (GP _ _),H10.out.2⟩
             ·clear ISO s6 lst
              go_wp2_with fail
              go_meet
              case rel=>exact ⟨_,H10.out.1,H10.out.2⟩
         case rest =>
          as_aux_lemma =>
           obtain ⟨c11,G11,n11⟩:=hcut
           have s15:wc.cell? ⟨q,15,none⟩ = some (.int .i64 y.st.mb):=(lies_cell (G11.other HLA.out.2 nq) 15).trans rfl
           have PD:=fun z=>pend_ctx z wc G11.ctx
           have FIN:Hid (∀ (u d:Int) (W:World),Goes B g P E c11 wc { c11 with up:=u,dn:=d } W → ∃ c',Goes B g P E c w c' W ∧ Grow c c' l (n + 1)):=fun u d W h=>⟨_,(G03.out.trans G11).trans h,n11⟩
           clear X10 H10 s6 lst G11 n11
           go_wp2_with fail
           refine (PD _).mono ?_
           rintro e V12 ⟨rfl,uu,dd,G12⟩
           have RES:=FIN.out _ _ _ G12
           clear G12 PD
           go_wp2_with fail
           exact bodyPost_end (results_none Tryz.results36 _ _ _) rfl ⟨rfl,RES⟩
end Go.Proofs.YtjnmloaopnbpgaaGreatDoor
