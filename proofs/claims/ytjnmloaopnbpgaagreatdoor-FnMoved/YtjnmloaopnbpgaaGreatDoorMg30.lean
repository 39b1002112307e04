/-
 The model's layout of a float.
-/
import Derived.Test.YtjnmloaopnbpgaaGreatDoorMg29
import Derived.Test.YtjnmloaopnbpgaaGreatDoorMg21
import Derived.Test.YtjnmloaopnbpgaaGreatDoorMg25
namespace Go.Proofs.YtjnmloaopnbpgaaGreatDoor
open Go.ChangeShapes Go.WideShapes Go.ChangeAt Go.RowKit
set_option linter.unusedVariables false
set_option maxRecDepth 1000000 in
set_option maxHeartbeats 20000000 in
theorem float_of (E:Le) (hE:LeOk E) (l n k:Nat) (hk:k < E.m) (HL:ClampOk) (HCN:ContOk E k) (HKids:LayOk E 60 l n k):LayOk E 82 l (n + 1) k:=by
 intro B g P c left around w hctx hle hsm
 obtain ⟨x,hx⟩:∃ x,E.bs[k]? = some x:=⟨_,List.getElem?_eq_getElem (by rw [← hE.m];exact hk)⟩
 obtain ⟨i,hi,hin⟩:=hE.nd k x hx
 obtain ⟨y,hy⟩:∃ y,E.ns[i]? = some y:=⟨_,List.getElem?_eq_getElem (by rw [← hE.n];exact hin)⟩
 have hst:w.rangeAt E.nb (E.noff + i * 28 + 2) (stCells y.st).toList:=hle.style hy
 have hbi:w.cell? ⟨E.xb,E.xoff + k * 4 + 1,none⟩ = some (.int .i64 (i:Int)):=(hle.bxs k x hx 1 (.int .i64 x.nd) rfl).trans (by rw [hi])
 obtain ⟨-,-,-,-,-,c5,c6⟩:=hctx.reads
 have lg:g < w.heap.size:=lies_lt hctx.lies
 have hBg:B ≤ w.heap.size:=Nat.le_trans hctx.hg (Nat.le_of_lt lg)
 have lxb:E.xb < w.heap.size:=Nat.lt_of_lt_of_le hle.xlt hBg
 have lnb:E.nb < w.heap.size:=Nat.lt_of_lt_of_le hle.nlt hBg
 have k0:(0:Int) ≤ (k:Int):=by omega
 have k1:(k:Int) < (E.m:Int):=by omega
 have i0:(0:Int) ≤ (i:Int):=by omega
 have i1:(i:Int) < (E.n:Int):=by omega
 have nq:¬ c.own g P w.heap.size:=fun h=>by have:=hctx.own_lt h;omega
 have HCT:Hid (Ctx w B g P E c):=hctx
 have HLE:Hid (LeAt w B E):=hle
 have HSM:Hid (Small c l (n + 1)):=hsm
 clear hctx hle hsm
 go_enter Tryz.func82,Tryz.ntmps82
 go_upto_region 0 with fail
 go_cut [8] from 23 to 37 (fun p wx=>p = .pointer (some ⟨w.heap.size,0,none⟩) ∧ wx.heap[w.heap.size]? = some (.cells (stCells y.st) 73 (0,0)) ∧ Below w.heap.size w wx)
 case first =>
  refine wp_region_held_drew (S:=fun W=>Below w.heap.size w W) (by kernel_rfl) ((Below.refl _ _).drew) (fun hHeld=>?_)
  refine wpAnyH_take (i:=0) (oi:=⟨some 23,Op.move (.tmp 0),88,"l9_page.go:110",#[],none⟩) (v:=.pointer (some ⟨g,0,none⟩)) rfl (by kernel_rfl) (by kernel_rfl) (by kernel_rfl) (fun _ _ _ h=>h) (Or.inl ⟨by rfl,by intro wz hSw;go_simp⟩) hHeld ?_
  simp only [Act.put,List.setIfInBounds_toArray,List.set_cons_zero,List.set_cons_succ]
  refine wpAnyH_take (i:=1) (oi:=⟨some 24,Op.nilCheck (.tmp 23),0,"l9_page.go:110",#[⟨0,.data⟩],none⟩) (v:=.pointer (some ⟨g,0,none⟩)) rfl (by kernel_rfl) (by kernel_rfl) (by kernel_rfl) (fun _ _ _ h=>h) (Or.inl ⟨by rfl,by intro wz hSw;go_simp⟩) hHeld ?_
  simp only [Act.put,List.setIfInBounds_toArray,List.set_cons_zero,List.set_cons_succ]
  refine wpAnyH_take (i:=2) (oi:=⟨some 25,Op.fieldAddr 90 (.tmp 24) 1,0,"l9_page.go:110",#[⟨1,.data⟩],none⟩) (v:=.pointer (some ⟨g,5,none⟩)) rfl (by kernel_rfl) (by kernel_rfl) (by kernel_rfl) (fun _ _ _ h=>h) (Or.inl ⟨by rfl,by intro wz hSw;go_simp⟩) hHeld ?_
  simp only [Act.put,List.setIfInBounds_toArray,List.set_cons_zero,List.set_cons_succ]
  refine wpAnyH_take (i:=3) (oi:=⟨some 26,Op.load 23 (.tmp 25),23,"l9_page.go:110",#[⟨2,.data⟩],none⟩) (v:=.slice (some ⟨E.nb,E.noff,none⟩) E.n E.ncap) rfl (by kernel_rfl) (by kernel_rfl) (by kernel_rfl) (fun _ _ _ h=>h) (Or.inl ⟨by rfl,by intro wz hSw;have hq:wz.cell? ⟨g,5,none⟩ = some (.slice (some ⟨E.nb,E.noff,none⟩) E.n E.ncap):=(hSw.cell (p:=⟨g,5,none⟩) (lg)).trans c5;clear hSw;go_simp⟩) hHeld ?_
  simp only [Act.put,List.setIfInBounds_toArray,List.set_cons_zero,List.set_cons_succ]
  refine wpAnyH_take (i:=4) (oi:=⟨some 27,Op.move (.tmp 0),88,"l9_page.go:110",#[],none⟩) (v:=.pointer (some ⟨g,0,none⟩)) rfl (by kernel_rfl) (by kernel_rfl) (by kernel_rfl) (fun _ _ _ h=>h) (Or.inl ⟨by rfl,by intro wz hSw;go_simp⟩) hHeld ?_
  simp only [Act.put,List.setIfInBounds_toArray,List.set_cons_zero,List.set_cons_succ]
  refine wpAnyH_take (i:=5) (oi:=⟨some 28,Op.nilCheck (.tmp 27),0,"l9_page.go:110",#[⟨4,.data⟩],none⟩) (v:=.pointer (some ⟨g,0,none⟩)) rfl (by kernel_rfl) (by kernel_rfl) (by kernel_rfl) (fun _ _ _ h=>h) (Or.inl ⟨by rfl,by intro wz hSw;go_simp⟩) hHeld ?_
  simp only [Act.put,List.setIfInBounds_toArray,List.set_cons_zero,List.set_cons_succ]
  refine wpAnyH_take (i:=6) (oi:=⟨some 29,Op.fieldAddr 90 (.tmp 28) 2,0,"l9_page.go:110",#[⟨5,.data⟩],none⟩) (v:=.pointer (some ⟨g,6,none⟩)) rfl (by kernel_rfl) (by kernel_rfl) (by kernel_rfl) (fun _ _ _ h=>h) (Or.inl ⟨by rfl,by intro wz hSw;go_simp⟩) hHeld ?_
  simp only [Act.put,List.setIfInBounds_toArray,List.set_cons_zero,List.set_cons_succ]
  refine wpAnyH_take (i:=7) (oi:=⟨some 30,Op.load 24 (.tmp 29),24,"l9_page.go:110",#[⟨6,.data⟩],none⟩) (v:=.slice (some ⟨E.xb,E.xoff,none⟩) E.m E.xcap) rfl (by kernel_rfl) (by kernel_rfl) (by kernel_rfl) (fun _ _ _ h=>h) (Or.inl ⟨by rfl,by intro wz hSw;have hq:wz.cell? ⟨g,6,none⟩ = some (.slice (some ⟨E.xb,E.xoff,none⟩) E.m E.xcap):=(hSw.cell (p:=⟨g,6,none⟩) (lg)).trans c6;clear hSw;go_simp⟩) hHeld ?_
  simp only [Act.put,List.setIfInBounds_toArray,List.set_cons_zero,List.set_cons_succ]
  refine wpAnyH_take (i:=8) (oi:=⟨some 31,Op.move (.tmp 1),3,"l9_page.go:110",#[],none⟩) (v:=.int .i64 (k:Int)) rfl (by kernel_rfl) (by kernel_rfl) (by kernel_rfl) (fun _ _ _ h=>h) (Or.inl ⟨by rfl,by intro wz hSw;go_simp⟩) hHeld ?_
  simp only [Act.put,List.setIfInBounds_toArray,List.set_cons_zero,List.set_cons_succ]
  refine wpAnyH_take (i:=9) (oi:=⟨some 32,Op.indexAddr 24 (.tmp 30) (.tmp 31),0,"l9_page.go:110",#[⟨7,.data⟩,⟨8,.data⟩],none⟩) (v:=.pointer (some ⟨E.xb,E.xoff + k * 4,none⟩)) rfl (by kernel_rfl) (by kernel_rfl) (by kernel_rfl) (fun _ _ _ h=>h) (Or.inl ⟨by rfl,by intro wz hSw;go_simp⟩) hHeld ?_
  simp only [Act.put,List.setIfInBounds_toArray,List.set_cons_zero,List.set_cons_succ]
  refine wpAnyH_take (i:=10) (oi:=⟨some 33,Op.fieldAddr 41 (.tmp 32) 1,0,"l9_page.go:110",#[⟨9,.data⟩],none⟩) (v:=.pointer (some ⟨E.xb,E.xoff + k * 4 + 1,none⟩)) rfl (by kernel_rfl) (by kernel_rfl) (by kernel_rfl) (fun _ _ _ h=>h) (Or.inl ⟨by rfl,by intro wz hSw;go_simp⟩) hHeld ?_
  simp only [Act.put,List.setIfInBounds_toArray,List.set_cons_zero,List.set_cons_succ]
  refine wpAnyH_take (i:=11) (oi:=⟨some 34,Op.load 3 (.tmp 33),3,"l9_page.go:110",#[⟨10,.data⟩],none⟩) (v:=.int .i64 (i:Int)) rfl (by kernel_rfl) (by kernel_rfl) (by kernel_rfl) (fun _ _ _ h=>h) (Or.inl ⟨by rfl,by intro wz hSw;have hq:wz.cell? ⟨E.xb,E.xoff + k * 4 + 1,none⟩ = some (.int .i64 (i:Int)):=(hSw.cell (p:=⟨E.xb,E.xoff + k * 4 + 1,none⟩) (lxb)).trans hbi;clear hSw;go_simp⟩) hHeld ?_
  simp only [Act.put,List.setIfInBounds_toArray,List.set_cons_zero,List.set_cons_succ]
  refine wpAnyH_take (i:=12) (oi:=⟨some 35,Op.indexAddr 23 (.tmp 26) (.tmp 34),0,"l9_page.go:110",#[⟨3,.data⟩,⟨11,.data⟩],none⟩) (v:=.pointer (some ⟨E.nb,E.noff + i * 28,none⟩)) rfl (by kernel_rfl) (by kernel_rfl) (by kernel_rfl) (fun _ _ _ h=>h) (Or.inl ⟨by rfl,by intro wz hSw;go_simp⟩) hHeld ?_
  simp only [Act.put,List.setIfInBounds_toArray,List.set_cons_zero,List.set_cons_succ]
  refine wpAnyH_take (i:=13) (oi:=⟨some 36,Op.fieldAddr 75 (.tmp 35) 2,0,"l9_page.go:110",#[⟨12,.data⟩],none⟩) (v:=.pointer (some ⟨E.nb,E.noff + i * 28 + 2,none⟩)) rfl (by kernel_rfl) (by kernel_rfl) (by kernel_rfl) (fun _ _ _ h=>h) (Or.inl ⟨by rfl,by intro wz hSw;go_simp⟩) hHeld ?_
  simp only [Act.put,List.setIfInBounds_toArray,List.set_cons_zero,List.set_cons_succ]
  refine wpAnyH_take (i:=14) (oi:=⟨some 37,Op.load 73 (.tmp 36),73,"l9_page.go:110",#[⟨13,.data⟩],none⟩) (v:=.agg (stCells y.st)) rfl (by kernel_rfl) (by kernel_rfl) (by kernel_rfl) (fun _ _ _ h=>h) (yieldsIf_load_mid (by rfl) 73 _ rfl (E.nb) (E.noff + i * 28 + 2) rfl ((stCells y.st).toList) _ (fun wz hw=>fun j u hu=>(hw.cell (p:=⟨E.nb,E.noff + i * 28 + 2 + j,none⟩) (lnb)).trans (hst j u hu)) Tryz.underlying73 rfl (by kernel_rfl)) hHeld ?_
  simp only [Act.put,List.setIfInBounds_toArray,List.set_cons_zero,List.set_cons_succ]
  refine wpAnyH_ready (rs:=[15]) (by kernel_rfl) (by simp) ?_
  refine AllReadyH.cons (o:=⟨some 8,Op.alloc 73,0,"l9_page.go:110",#[],none⟩) rfl (fun K hK=>?_) AllReadyH.nil
  go_simp
  refine hK.out _ _ (hHeld.alloc hHeld.size _) (fun hHeld'=>?_)
  have fz:=heap_at w.drew (.cells (#[.int .i64 0,.int .i64 0,.int .i64 0,.bool false,.bool false,.int .i64 0,.bool false,.bool false,.int .i64 0,.int .i64 0,.int .i64 0,.int .i64 0,.bool false,.bool false,.int .i64 0,.int .i64 0,.bool false,.bool false,.int .i64 0,.int .i64 0,.int .i64 0,.int .i64 0,.int .i64 0,.int .i64 0,.int .i64 0,.int .i64 0]) 73) w.heap.size rfl
  clear hK K
  try simp only [Act.put,List.setIfInBounds_toArray,List.set_cons_zero,List.set_cons_succ]
  refine wpAnyH_ready (rs:=[16]) (by kernel_rfl) (by simp) ?_
  refine AllReadyH.cons (o:=⟨none,Op.store 73 (.tmp 8) (.tmp 37),0,"l9_page.go:110",#[⟨15,.data⟩,⟨14,.data⟩,⟨0,.phase⟩,⟨1,.phase⟩,⟨2,.phase⟩,⟨3,.phase⟩,⟨4,.phase⟩,⟨5,.phase⟩,⟨6,.phase⟩,⟨7,.phase⟩,⟨8,.phase⟩,⟨9,.phase⟩,⟨10,.phase⟩,⟨11,.phase⟩,⟨12,.phase⟩,⟨13,.phase⟩,⟨14,.phase⟩,⟨15,.phase⟩],none⟩) rfl (fun K hK=>?_) AllReadyH.nil
  rw [if_pos (by rfl)]
  refine wp_put9 73 _ _ rfl rfl w.heap.size 0 26 (stCells y.st).toList _ _ rfl rfl fz rfl (by kernel_rfl) (by kernel_rfl) (by kernel_rfl) ?_
  intro w1 p9 l9
  have l1:w1.heap[w.heap.size]? = some (.cells (stCells y.st) 73 (0,0)):=l9.trans (congrArg (fun c=>some (Obj.cells c 73 (0,0))) (show _ = stCells y.st by kernel_rfl))
  refine hK.out _ _ (p9.below hHeld' (Nat.le_refl _)) (fun hHeld''=>?_)
  clear hK K
  try simp only [Act.put,List.setIfInBounds_toArray,List.set_cons_zero,List.set_cons_succ]
  refine wpAnyH_done (by kernel_rfl) ?_ _
  have b1:Below w.heap.size w w1:=hHeld''
  clear hHeld hHeld' hHeld'' fz p9 l9
  go_wp2_with fail
  go_meet
  case rel=>exact ⟨rfl,l1,b1⟩
 case rest =>
  obtain ⟨rfl,l1,b1⟩:=hcut
  obtain ⟨w1,hw1⟩:∃ W,W = wc:=⟨_,rfl⟩
  subst hw1
  have K1:=HCT.out.keep b1
  have LE1:LeAt w1 B E:=HLE.out.below (b1.mono hBg)
  have hst1:w1.rangeAt w.heap.size 0 (stCells y.st).toList:=range9 l1 0 rfl
  have hfont:w1.rangeAt g 0 [.int .i64 E.fa,.int .i64 E.fd,.int .i64 E.fn,.int .i64 E.fu,.int .i64 E.fb]:=range9 K1.lies 0 rfl
  have lq:w.heap.size < w1.heap.size:=lies_lt l1
  have lg1:g < w1.heap.size:=lies_lt K1.lies
  have hB1:B ≤ w1.heap.size:=Nat.le_trans K1.hg (Nat.le_of_lt lg1)
  have CN:=fun (mo:Bool) (W:World) (hW:Below w1.heap.size w1 W)=>HCN mo W ((LE1.below (hW.mono hB1)).mono (Nat.le_trans hB1 hW.size))
  clear c5 c6 hst hbi
  obtain ⟨-,-,-,-,-,c5,c6⟩:=K1.reads
  generalize hq:w.heap.size = q at *
  go_upto_region 1 with fail
  go_cut [9] from 38 to 68 (fun p wx=>∃ (g9:Nat) (aL aW aR:Int),p = .pointer (some ⟨g9,0,none⟩) ∧ A5 wx g9 aL aW aR ∧ w1.heap.size ≤ g9 ∧ Below w1.heap.size w1 wx)
  case first =>
   as_aux_lemma =>
    refine wp_region_held_drew (S:=fun W=>Below w1.heap.size w1 W) (by kernel_rfl) ((Below.refl _ _).drew) (fun hHeld=>?_)
    refine wpAnyH_take (i:=0) (oi:=⟨some 38,Op.load 73 (.tmp 8),73,"l9_page.go:111",#[],none⟩) (v:=.agg (stCells y.st)) rfl (by kernel_rfl) (by kernel_rfl) (by kernel_rfl) (fun _ _ _ h=>h) (yieldsIf_load_mid (by rfl) 73 _ rfl (q) (0) rfl ((stCells y.st).toList) _ (fun wz hw=>fun j u hu=>(hw.cell (p:=⟨q,0 + j,none⟩) (lq)).trans (hst1 j u hu)) Tryz.underlying73 rfl (by kernel_rfl)) hHeld ?_
    simp only [Act.put,List.setIfInBounds_toArray,List.set_cons_zero,List.set_cons_succ]
    refine wpAnyH_take (i:=1) (oi:=⟨some 39,Op.move (.tmp 3),3,"l9_page.go:111",#[],none⟩) (v:=.int .i64 around) rfl (by kernel_rfl) (by kernel_rfl) (by kernel_rfl) (fun _ _ _ h=>h) (Or.inl ⟨by rfl,by intro wz hSw;go_simp⟩) hHeld ?_
    simp only [Act.put,List.setIfInBounds_toArray,List.set_cons_zero,List.set_cons_succ]
    refine wpAnyH_take (i:=2) (oi:=⟨some 40,Op.move (.tmp 0),88,"l9_page.go:111",#[],none⟩) (v:=.pointer (some ⟨g,0,none⟩)) rfl (by kernel_rfl) (by kernel_rfl) (by kernel_rfl) (fun _ _ _ h=>h) (Or.inl ⟨by rfl,by intro wz hSw;go_simp⟩) hHeld ?_
    simp only [Act.put,List.setIfInBounds_toArray,List.set_cons_zero,List.set_cons_succ]
    refine wpAnyH_take (i:=3) (oi:=⟨some 41,Op.nilCheck (.tmp 40),0,"l9_page.go:111",#[⟨2,.data⟩],none⟩) (v:=.pointer (some ⟨g,0,none⟩)) rfl (by kernel_rfl) (by kernel_rfl) (by kernel_rfl) (fun _ _ _ h=>h) (Or.inl ⟨by rfl,by intro wz hSw;go_simp⟩) hHeld ?_
    simp only [Act.put,List.setIfInBounds_toArray,List.set_cons_zero,List.set_cons_succ]
    refine wpAnyH_take (i:=4) (oi:=⟨some 42,Op.fieldAddr 90 (.tmp 41) 0,0,"l9_page.go:111",#[⟨3,.data⟩],none⟩) (v:=.pointer (some ⟨g,0,none⟩)) rfl (by kernel_rfl) (by kernel_rfl) (by kernel_rfl) (fun _ _ _ h=>h) (Or.inl ⟨by rfl,by intro wz hSw;go_simp⟩) hHeld ?_
    simp only [Act.put,List.setIfInBounds_toArray,List.set_cons_zero,List.set_cons_succ]
    refine wpAnyH_take (i:=5) (oi:=⟨some 43,Op.load 48 (.tmp 42),48,"l9_page.go:111",#[⟨4,.data⟩],none⟩) (v:=.agg (#[.int .i64 E.fa,.int .i64 E.fd,.int .i64 E.fn,.int .i64 E.fu,.int .i64 E.fb])) rfl (by kernel_rfl) (by kernel_rfl) (by kernel_rfl) (fun _ _ _ h=>h) (yieldsIf_load_mid (by rfl) 48 _ rfl (g) (0) rfl ([.int .i64 E.fa,.int .i64 E.fd,.int .i64 E.fn,.int .i64 E.fu,.int .i64 E.fb]) _ (fun wz hw=>fun j u hu=>(hw.cell (p:=⟨g,0 + j,none⟩) (lg1)).trans (hfont j u hu)) Tryz.underlying48 rfl (by kernel_rfl)) hHeld ?_
    simp only [Act.put,List.setIfInBounds_toArray,List.set_cons_zero,List.set_cons_succ]
    refine wpAnyH_take (i:=6) (oi:=⟨some 44,Op.move (.tmp 0),88,"l9_page.go:111",#[],none⟩) (v:=.pointer (some ⟨g,0,none⟩)) rfl (by kernel_rfl) (by kernel_rfl) (by kernel_rfl) (fun _ _ _ h=>h) (Or.inl ⟨by rfl,by intro wz hSw;go_simp⟩) hHeld ?_
    simp only [Act.put,List.setIfInBounds_toArray,List.set_cons_zero,List.set_cons_succ]
    refine wpAnyH_take (i:=7) (oi:=⟨some 45,Op.nilCheck (.tmp 44),0,"l9_page.go:111",#[⟨6,.data⟩],none⟩) (v:=.pointer (some ⟨g,0,none⟩)) rfl (by kernel_rfl) (by kernel_rfl) (by kernel_rfl) (fun _ _ _ h=>h) (Or.inl ⟨by rfl,by intro wz hSw;go_simp⟩) hHeld ?_
    simp only [Act.put,List.setIfInBounds_toArray,List.set_cons_zero,List.set_cons_succ]
    refine wpAnyH_take (i:=8) (oi:=⟨some 46,Op.fieldAddr 90 (.tmp 45) 1,0,"l9_page.go:111",#[⟨7,.data⟩],none⟩) (v:=.pointer (some ⟨g,5,none⟩)) rfl (by kernel_rfl) (by kernel_rfl) (by kernel_rfl) (fun _ _ _ h=>h) (Or.inl ⟨by rfl,by intro wz hSw;go_simp⟩) hHeld ?_
    simp only [Act.put,List.setIfInBounds_toArray,List.set_cons_zero,List.set_cons_succ]
    refine wpAnyH_take (i:=9) (oi:=⟨some 47,Op.load 23 (.tmp 46),23,"l9_page.go:111",#[⟨8,.data⟩],none⟩) (v:=.slice (some ⟨E.nb,E.noff,none⟩) E.n E.ncap) rfl (by kernel_rfl) (by kernel_rfl) (by kernel_rfl) (fun _ _ _ h=>h) (Or.inl ⟨by rfl,by intro wz hSw;have hq:wz.cell? ⟨g,5,none⟩ = some (.slice (some ⟨E.nb,E.noff,none⟩) E.n E.ncap):=(hSw.cell (p:=⟨g,5,none⟩) (lg1)).trans c5;clear hSw;go_simp⟩) hHeld ?_
    simp only [Act.put,List.setIfInBounds_toArray,List.set_cons_zero,List.set_cons_succ]
    refine wpAnyH_take (i:=10) (oi:=⟨some 48,Op.move (.tmp 0),88,"l9_page.go:111",#[],none⟩) (v:=.pointer (some ⟨g,0,none⟩)) rfl (by kernel_rfl) (by kernel_rfl) (by kernel_rfl) (fun _ _ _ h=>h) (Or.inl ⟨by rfl,by intro wz hSw;go_simp⟩) hHeld ?_
    simp only [Act.put,List.setIfInBounds_toArray,List.set_cons_zero,List.set_cons_succ]
    refine wpAnyH_take (i:=11) (oi:=⟨some 49,Op.nilCheck (.tmp 48),0,"l9_page.go:111",#[⟨10,.data⟩],none⟩) (v:=.pointer (some ⟨g,0,none⟩)) rfl (by kernel_rfl) (by kernel_rfl) (by kernel_rfl) (fun _ _ _ h=>h) (Or.inl ⟨by rfl,by intro wz hSw;go_simp⟩) hHeld ?_
    simp only [Act.put,List.setIfInBounds_toArray,List.set_cons_zero,List.set_cons_succ]
    refine wpAnyH_take (i:=12) (oi:=⟨some 50,Op.fieldAddr 90 (.tmp 49) 2,0,"l9_page.go:111",#[⟨11,.data⟩],none⟩) (v:=.pointer (some ⟨g,6,none⟩)) rfl (by kernel_rfl) (by kernel_rfl) (by kernel_rfl) (fun _ _ _ h=>h) (Or.inl ⟨by rfl,by intro wz hSw;go_simp⟩) hHeld ?_
    simp only [Act.put,List.setIfInBounds_toArray,List.set_cons_zero,List.set_cons_succ]
    refine wpAnyH_take (i:=13) (oi:=⟨some 51,Op.load 24 (.tmp 50),24,"l9_page.go:111",#[⟨12,.data⟩],none⟩) (v:=.slice (some ⟨E.xb,E.xoff,none⟩) E.m E.xcap) rfl (by kernel_rfl) (by kernel_rfl) (by kernel_rfl) (fun _ _ _ h=>h) (Or.inl ⟨by rfl,by intro wz hSw;have hq:wz.cell? ⟨g,6,none⟩ = some (.slice (some ⟨E.xb,E.xoff,none⟩) E.m E.xcap):=(hSw.cell (p:=⟨g,6,none⟩) (lg1)).trans c6;clear hSw;go_simp⟩) hHeld ?_
    simp only [Act.put,List.setIfInBounds_toArray,List.set_cons_zero,List.set_cons_succ]
    refine wpAnyH_take (i:=14) (oi:=⟨some 52,Op.move (.tmp 1),3,"l9_page.go:111",#[],none⟩) (v:=.int .i64 (k:Int)) rfl (by kernel_rfl) (by kernel_rfl) (by kernel_rfl) (fun _ _ _ h=>h) (Or.inl ⟨by rfl,by intro wz hSw;go_simp⟩) hHeld ?_
    simp only [Act.put,List.setIfInBounds_toArray,List.set_cons_zero,List.set_cons_succ]
    refine wpAnyH_take (i:=16) (oi:=⟨some 54,Op.move (.tmp 0),88,"l9_page.go:111",#[],none⟩) (v:=.pointer (some ⟨g,0,none⟩)) rfl (by kernel_rfl) (by kernel_rfl) (by kernel_rfl) (fun _ _ _ h=>h) (Or.inl ⟨by rfl,by intro wz hSw;go_simp⟩) hHeld ?_
    simp only [Act.put,List.setIfInBounds_toArray,List.set_cons_zero,List.set_cons_succ]
    refine wpAnyH_take (i:=17) (oi:=⟨some 55,Op.nilCheck (.tmp 54),0,"l9_page.go:111",#[⟨16,.data⟩],none⟩) (v:=.pointer (some ⟨g,0,none⟩)) rfl (by kernel_rfl) (by kernel_rfl) (by kernel_rfl) (fun _ _ _ h=>h) (Or.inl ⟨by rfl,by intro wz hSw;go_simp⟩) hHeld ?_
    simp only [Act.put,List.setIfInBounds_toArray,List.set_cons_zero,List.set_cons_succ]
    refine wpAnyH_take (i:=18) (oi:=⟨some 56,Op.fieldAddr 90 (.tmp 55) 0,0,"l9_page.go:111",#[⟨17,.data⟩],none⟩) (v:=.pointer (some ⟨g,0,none⟩)) rfl (by kernel_rfl) (by kernel_rfl) (by kernel_rfl) (fun _ _ _ h=>h) (Or.inl ⟨by rfl,by intro wz hSw;go_simp⟩) hHeld ?_
    simp only [Act.put,List.setIfInBounds_toArray,List.set_cons_zero,List.set_cons_succ]
    refine wpAnyH_take (i:=19) (oi:=⟨some 57,Op.load 48 (.tmp 56),48,"l9_page.go:111",#[⟨18,.data⟩],none⟩) (v:=.agg (#[.int .i64 E.fa,.int .i64 E.fd,.int .i64 E.fn,.int .i64 E.fu,.int .i64 E.fb])) rfl (by kernel_rfl) (by kernel_rfl) (by kernel_rfl) (fun _ _ _ h=>h) (yieldsIf_load_mid (by rfl) 48 _ rfl (g) (0) rfl ([.int .i64 E.fa,.int .i64 E.fd,.int .i64 E.fn,.int .i64 E.fu,.int .i64 E.fb]) _ (fun wz hw=>fun j u hu=>(hw.cell (p:=⟨g,0 + j,none⟩) (lg1)).trans (hfont j u hu)) Tryz.underlying48 rfl (by kernel_rfl)) hHeld ?_
    simp only [Act.put,List.setIfInBounds_toArray,List.set_cons_zero,List.set_cons_succ]
    refine wpAnyH_take (i:=20) (oi:=⟨some 58,Op.move (.tmp 0),88,"l9_page.go:111",#[],none⟩) (v:=.pointer (some ⟨g,0,none⟩)) rfl (by kernel_rfl) (by kernel_rfl) (by kernel_rfl) (fun _ _ _ h=>h) (Or.inl ⟨by rfl,by intro wz hSw;go_simp⟩) hHeld ?_
    simp only [Act.put,List.setIfInBounds_toArray,List.set_cons_zero,List.set_cons_succ]
    refine wpAnyH_take (i:=21) (oi:=⟨some 59,Op.nilCheck (.tmp 58),0,"l9_page.go:111",#[⟨20,.data⟩],none⟩) (v:=.pointer (some ⟨g,0,none⟩)) rfl (by kernel_rfl) (by kernel_rfl) (by kernel_rfl) (fun _ _ _ h=>h) (Or.inl ⟨by rfl,by intro wz hSw;go_simp⟩) hHeld ?_
    simp only [Act.put,List.setIfInBounds_toArray,List.set_cons_zero,List.set_cons_succ]
    refine wpAnyH_take (i:=22) (oi:=⟨some 60,Op.fieldAddr 90 (.tmp 59) 1,0,"l9_page.go:111",#[⟨21,.data⟩],none⟩) (v:=.pointer (some ⟨g,5,none⟩)) rfl (by kernel_rfl) (by kernel_rfl) (by kernel_rfl) (fun _ _ _ h=>h) (Or.inl ⟨by rfl,by intro wz hSw;go_simp⟩) hHeld ?_
    simp only [Act.put,List.setIfInBounds_toArray,List.set_cons_zero,List.set_cons_succ]
    refine wpAnyH_take (i:=23) (oi:=⟨some 61,Op.load 23 (.tmp 60),23,"l9_page.go:111",#[⟨22,.data⟩],none⟩) (v:=.slice (some ⟨E.nb,E.noff,none⟩) E.n E.ncap) rfl (by kernel_rfl) (by kernel_rfl) (by kernel_rfl) (fun _ _ _ h=>h) (Or.inl ⟨by rfl,by intro wz hSw;have hq:wz.cell? ⟨g,5,none⟩ = some (.slice (some ⟨E.nb,E.noff,none⟩) E.n E.ncap):=(hSw.cell (p:=⟨g,5,none⟩) (lg1)).trans c5;clear hSw;go_simp⟩) hHeld ?_
    simp only [Act.put,List.setIfInBounds_toArray,List.set_cons_zero,List.set_cons_succ]
    refine wpAnyH_take (i:=24) (oi:=⟨some 62,Op.move (.tmp 0),88,"l9_page.go:111",#[],none⟩) (v:=.pointer (some ⟨g,0,none⟩)) rfl (by kernel_rfl) (by kernel_rfl) (by kernel_rfl) (fun _ _ _ h=>h) (Or.inl ⟨by rfl,by intro wz hSw;go_simp⟩) hHeld ?_
    simp only [Act.put,List.setIfInBounds_toArray,List.set_cons_zero,List.set_cons_succ]
    refine wpAnyH_take (i:=25) (oi:=⟨some 63,Op.nilCheck (.tmp 62),0,"l9_page.go:111",#[⟨24,.data⟩],none⟩) (v:=.pointer (some ⟨g,0,none⟩)) rfl (by kernel_rfl) (by kernel_rfl) (by kernel_rfl) (fun _ _ _ h=>h) (Or.inl ⟨by rfl,by intro wz hSw;go_simp⟩) hHeld ?_
    simp only [Act.put,List.setIfInBounds_toArray,List.set_cons_zero,List.set_cons_succ]
    refine wpAnyH_take (i:=26) (oi:=⟨some 64,Op.fieldAddr 90 (.tmp 63) 2,0,"l9_page.go:111",#[⟨25,.data⟩],none⟩) (v:=.pointer (some ⟨g,6,none⟩)) rfl (by kernel_rfl) (by kernel_rfl) (by kernel_rfl) (fun _ _ _ h=>h) (Or.inl ⟨by rfl,by intro wz hSw;go_simp⟩) hHeld ?_
    simp only [Act.put,List.setIfInBounds_toArray,List.set_cons_zero,List.set_cons_succ]
    refine wpAnyH_take (i:=27) (oi:=⟨some 65,Op.load 24 (.tmp 64),24,"l9_page.go:111",#[⟨26,.data⟩],none⟩) (v:=.slice (some ⟨E.xb,E.xoff,none⟩) E.m E.xcap) rfl (by kernel_rfl) (by kernel_rfl) (by kernel_rfl) (fun _ _ _ h=>h) (Or.inl ⟨by rfl,by intro wz hSw;have hq:wz.cell? ⟨g,6,none⟩ = some (.slice (some ⟨E.xb,E.xoff,none⟩) E.m E.xcap):=(hSw.cell (p:=⟨g,6,none⟩) (lg1)).trans c6;clear hSw;go_simp⟩) hHeld ?_
    simp only [Act.put,List.setIfInBounds_toArray,List.set_cons_zero,List.set_cons_succ]
    refine wpAnyH_take (i:=28) (oi:=⟨some 66,Op.move (.tmp 1),3,"l9_page.go:111",#[],none⟩) (v:=.int .i64 (k:Int)) rfl (by kernel_rfl) (by kernel_rfl) (by kernel_rfl) (fun _ _ _ h=>h) (Or.inl ⟨by rfl,by intro wz hSw;go_simp⟩) hHeld ?_
    simp only [Act.put,List.setIfInBounds_toArray,List.set_cons_zero,List.set_cons_succ]
    refine wpAnyH_ready (rs:=[15,31]) (by kernel_rfl) (by simp) ?_
    refine AllReadyH.cons (o:=⟨some 53,Op.call { callee:=Callee.value (Operand.func 93),args:=#[.tmp 43,.tmp 47,.tmp 51,.tmp 52,Operand.const (Value.bool false)],argTypes:=#[48,23,24,3,4] },3,"l9_page.go:111",#[⟨5,.data⟩,⟨9,.data⟩,⟨13,.data⟩,⟨14,.data⟩],none⟩) rfl (fun K hK=>?_) (AllReadyH.cons (o:=⟨some 9,Op.alloc 110,0,"l9_page.go:111",#[],none⟩) rfl (fun K hK=>?_) AllReadyH.nil)
    ·go_simp
     refine (CN false _ (hHeld)).mono ?_
     rintro e v1 ⟨⟨zn1,rfl⟩,hb1⟩
     go_wp2_with fail
     refine hK.out _ _ (hHeld.trans (hb1.mono hHeld.size)) (fun hH1=>?_)
     clear hK K
     try simp only [Act.put,List.setIfInBounds_toArray,List.set_cons_zero,List.set_cons_succ]
     refine wpAnyH_ready (rs:=[29,31]) (by kernel_rfl) (by simp) ?_
     refine AllReadyH.cons (o:=⟨some 67,Op.call { callee:=Callee.value (Operand.func 93),args:=#[.tmp 57,.tmp 61,.tmp 65,.tmp 66,Operand.const (Value.bool true)],argTypes:=#[48,23,24,3,4] },3,"l9_page.go:111",#[⟨19,.data⟩,⟨23,.data⟩,⟨27,.data⟩,⟨28,.data⟩,⟨15,.chain⟩],none⟩) rfl (fun K hK=>?_) (AllReadyH.cons (o:=⟨some 9,Op.alloc 110,0,"l9_page.go:111",#[],none⟩) rfl (fun K hK=>?_) AllReadyH.nil)
     ·go_simp
      refine (CN true _ (hH1)).mono ?_
      rintro e v2 ⟨⟨zx2,rfl⟩,hb2⟩
      go_wp2_with fail
      refine hK.out _ _ (hH1.trans (hb2.mono hH1.size)) (fun hH2=>?_)
      clear hK K
      try simp only [Act.put,List.setIfInBounds_toArray,List.set_cons_zero,List.set_cons_succ]
      refine wpAnyH_ready (rs:=[30,31]) (by kernel_rfl) (by simp) ?_
      refine AllReadyH.cons (o:=⟨some 68,Op.call { callee:=Callee.value (Operand.func 92),args:=#[.tmp 38,.tmp 39,.tmp 53,.tmp 67],argTypes:=#[73,3,3,3] },110,"l9_page.go:111",#[⟨0,.data⟩,⟨1,.data⟩,⟨15,.data⟩,⟨29,.data⟩,⟨29,.chain⟩],none⟩) rfl (fun K hK=>?_) (AllReadyH.cons (o:=⟨some 9,Op.alloc 110,0,"l9_page.go:111",#[],none⟩) rfl (fun K hK=>?_) AllReadyH.nil)
      ·go_simp
       refine (float_ret y.st around _ _ _).mono ?_
       rintro e v3 ⟨⟨aL3,aW3,aR3,rfl⟩,hb3⟩
       go_wp2_with fail
       refine hK.out _ _ (hH2.trans (hb3.mono hH2.size)) (fun hH3=>?_)
       clear hK K
       try simp only [Act.put,List.setIfInBounds_toArray,List.set_cons_zero,List.set_cons_succ]
       refine wpAnyH_ready (rs:=[31]) (by kernel_rfl) (by simp) ?_
       refine AllReadyH.cons (o:=⟨some 9,Op.alloc 110,0,"l9_page.go:111",#[],none⟩) rfl (fun K hK=>?_) AllReadyH.nil
       go_simp
       refine hK.out _ _ (hH3.alloc hH3.size _) (fun hH4=>?_)
       clear hK K
       try simp only [Act.put,List.setIfInBounds_toArray,List.set_cons_zero,List.set_cons_succ]
       have f9:=heap_at (v3) (.cells (#[.int .i64 0,.int .i64 0,.int .i64 0]) 110) (v3.heap.size) rfl
       have hg9:w1.heap.size ≤ v3.heap.size:=hH3.size
       refine wpAnyH_ready (rs:=[32]) (by kernel_rfl) (by simp) ?_
       refine AllReadyH.cons (o:=⟨none,Op.store 110 (.tmp 9) (.tmp 68),0,"l9_page.go:111",#[⟨31,.data⟩,⟨30,.data⟩,⟨30,.chain⟩,⟨0,.phase⟩,⟨1,.phase⟩,⟨2,.phase⟩,⟨3,.phase⟩,⟨4,.phase⟩,⟨5,.phase⟩,⟨6,.phase⟩,⟨7,.phase⟩,⟨8,.phase⟩,⟨9,.phase⟩,⟨10,.phase⟩,⟨11,.phase⟩,⟨12,.phase⟩,⟨13,.phase⟩,⟨14,.phase⟩,⟨15,.phase⟩,⟨16,.phase⟩,⟨17,.phase⟩,⟨18,.phase⟩,⟨19,.phase⟩,⟨20,.phase⟩,⟨21,.phase⟩,⟨22,.phase⟩,⟨23,.phase⟩,⟨24,.phase⟩,⟨25,.phase⟩,⟨26,.phase⟩,⟨27,.phase⟩,⟨28,.phase⟩,⟨29,.phase⟩,⟨30,.phase⟩,⟨31,.phase⟩],none⟩) rfl (fun K hK=>?_) AllReadyH.nil
       rw [if_pos (by rfl)]
       refine wp_put9 110 _ _ rfl rfl (v3.heap.size) 0 3 [.int .i64 aL3,.int .i64 aW3,.int .i64 aR3] _ _ rfl rfl f9 rfl (by kernel_rfl) (by kernel_rfl) (by kernel_rfl) ?_
       intro v5 p9 l9
       have f9:=l9.trans (congrArg (fun c=>some (Obj.cells c 110 (0,0))) (show _ = (#[.int .i64 aL3,.int .i64 aW3,.int .i64 aR3]:Array Value) by kernel_rfl))
       refine hK.out _ _ (p9.below hH4 hg9) (fun hH5=>?_)
       clear hK K l9
       try simp only [Act.put,List.setIfInBounds_toArray,List.set_cons_zero,List.set_cons_succ]
       refine wpAnyH_done (by kernel_rfl) ?_ _
       have HF9:=f9
       have HH:=hH5
       have HG9:=hg9
       clear f9
       go_wp2_with fail
       go_meet
       case rel=>exact ⟨_,_,_,_,rfl,HF9,HG9,HH⟩
      ·go_simp
       refine hK.out _ _ (hH2.alloc hH2.size _) (fun hH6=>?_)
       clear hK K
       try simp only [Act.put,List.setIfInBounds_toArray,List.set_cons_zero,List.set_cons_succ]
       have f9:=heap_at (v2) (.cells (#[.int .i64 0,.int .i64 0,.int .i64 0]) 110) (v2.heap.size) rfl
       have hg9:w1.heap.size ≤ v2.heap.size:=hH2.size
       refine wpAnyH_ready (rs:=[30]) (by kernel_rfl) (by simp) ?_
       refine AllReadyH.cons (o:=⟨some 68,Op.call { callee:=Callee.value (Operand.func 92),args:=#[.tmp 38,.tmp 39,.tmp 53,.tmp 67],argTypes:=#[73,3,3,3] },110,"l9_page.go:111",#[⟨0,.data⟩,⟨1,.data⟩,⟨15,.data⟩,⟨29,.data⟩,⟨29,.chain⟩],none⟩) rfl (fun K hK=>?_) AllReadyH.nil
       go_simp
       refine (float_ret y.st around _ _ _).mono ?_
       rintro e v7 ⟨⟨aL7,aW7,aR7,rfl⟩,hb7⟩
       have f9:=below_lies hb7 f9 (lies_lt f9)
       go_wp2_with fail
       refine hK.out _ _ (hH6.trans (hb7.mono hH6.size)) (fun hH7=>?_)
       clear hK K
       try simp only [Act.put,List.setIfInBounds_toArray,List.set_cons_zero,List.set_cons_succ]
       refine wpAnyH_ready (rs:=[32]) (by kernel_rfl) (by simp) ?_
       refine AllReadyH.cons (o:=⟨none,Op.store 110 (.tmp 9) (.tmp 68),0,"l9_page.go:111",#[⟨31,.data⟩,⟨30,.data⟩,⟨30,.chain⟩,⟨0,.phase⟩,⟨1,.phase⟩,⟨2,.phase⟩,⟨3,.phase⟩,⟨4,.phase⟩,⟨5,.phase⟩,⟨6,.phase⟩,⟨7,.phase⟩,⟨8,.phase⟩,⟨9,.phase⟩,⟨10,.phase⟩,⟨11,.phase⟩,⟨12,.phase⟩,⟨13,.phase⟩,⟨14,.phase⟩,⟨15,.phase⟩,⟨16,.phase⟩,⟨17,.phase⟩,⟨18,.phase⟩,⟨19,.phase⟩,⟨20,.phase⟩,⟨21,.phase⟩,⟨22,.phase⟩,⟨23,.phase⟩,⟨24,.phase⟩,⟨25,.phase⟩,⟨26,.phase⟩,⟨27,.phase⟩,⟨28,.phase⟩,⟨29,.phase⟩,⟨30,.phase⟩,⟨31,.phase⟩],none⟩) rfl (fun K hK=>?_) AllReadyH.nil
       rw [if_pos (by rfl)]
       refine wp_put9 110 _ _ rfl rfl (v2.heap.size) 0 3 [.int .i64 aL7,.int .i64 aW7,.int .i64 aR7] _ _ rfl rfl f9 rfl (by kernel_rfl) (by kernel_rfl) (by kernel_rfl) ?_
       intro v8 p9 l9
       have f9:=l9.trans (congrArg (fun c=>some (Obj.cells c 110 (0,0))) (show _ = (#[.int .i64 aL7,.int .i64 aW7,.int .i64 aR7]:Array Value) by kernel_rfl))
       refine hK.out _ _ (p9.below hH7 hg9) (fun hH8=>?_)
       clear hK K l9
       try simp only [Act.put,List.setIfInBounds_toArray,List.set_cons_zero,List.set_cons_succ]
       refine wpAnyH_done (by kernel_rfl) ?_ _
       have HF9:=f9
       have HH:=hH8
       have HG9:=hg9
       clear f9
       go_wp2_with fail
       go_meet
       case rel=>exact ⟨_,_,_,_,rfl,HF9,HG9,HH⟩
     ·go_simp
      refine hK.out _ _ (hH1.alloc hH1.size _) (fun hH9=>?_)
      clear hK K
      try simp only [Act.put,List.setIfInBounds_toArray,List.set_cons_zero,List.set_cons_succ]
      have f9:=heap_at (v1) (.cells (#[.int .i64 0,.int .i64 0,.int .i64 0]) 110) (v1.heap.size) rfl
      have hg9:w1.heap.size ≤ v1.heap.size:=hH1.size
      refine wpAnyH_ready (rs:=[29]) (by kernel_rfl) (by simp) ?_
      refine AllReadyH.cons (o:=⟨some 67,Op.call { callee:=Callee.value (Operand.func 93),args:=#[.tmp 57,.tmp 61,.tmp 65,.tmp 66,Operand.const (Value.bool true)],argTypes:=#[48,23,24,3,4] },3,"l9_page.go:111",#[⟨19,.data⟩,⟨23,.data⟩,⟨27,.data⟩,⟨28,.data⟩,⟨15,.chain⟩],none⟩) rfl (fun K hK=>?_) AllReadyH.nil
      go_simp
      refine (CN true _ (hH9)).mono ?_
      rintro e v10 ⟨⟨zx10,rfl⟩,hb10⟩
      have f9:=below_lies hb10 f9 (lies_lt f9)
      go_wp2_with fail
      refine hK.out _ _ (hH9.trans (hb10.mono hH9.size)) (fun hH10=>?_)
      clear hK K
      try simp only [Act.put,List.setIfInBounds_toArray,List.set_cons_zero,List.set_cons_succ]
      refine wpAnyH_ready (rs:=[30]) (by kernel_rfl) (by simp) ?_
      refine AllReadyH.cons (o:=⟨some 68,Op.call { callee:=Callee.value (Operand.func 92),args:=#[.tmp 38,.tmp 39,.tmp 53,.tmp 67],argTypes:=#[73,3,3,3] },110,"l9_page.go:111",#[⟨0,.data⟩,⟨1,.data⟩,⟨15,.data⟩,⟨29,.data⟩,⟨29,.chain⟩],none⟩) rfl (fun K hK=>?_) AllReadyH.nil
      go_simp
      refine (float_ret y.st around _ _ _).mono ?_
      rintro e v11 ⟨⟨aL11,aW11,aR11,rfl⟩,hb11⟩
      have f9:=below_lies hb11 f9 (lies_lt f9)
      go_wp2_with fail
      refine hK.out _ _ (hH10.trans (hb11.mono hH10.size)) (fun hH11=>?_)
      clear hK K
      try simp only [Act.put,List.setIfInBounds_toArray,List.set_cons_zero,List.set_cons_succ]
      refine wpAnyH_ready (rs:=[32]) (by kernel_rfl) (by simp) ?_
      refine AllReadyH.cons (o:=⟨none,Op.store 110 (.tmp 9) (.tmp 68),0,"l9_page.go:111",#[⟨31,.data⟩,⟨30,.data⟩,⟨30,.chain⟩,⟨0,.phase⟩,⟨1,.phase⟩,⟨2,.phase⟩,⟨3,.phase⟩,⟨4,.phase⟩,⟨5,.phase⟩,⟨6,.phase⟩,⟨7,.phase⟩,⟨8,.phase⟩,⟨9,.phase⟩,⟨10,.phase⟩,⟨11,.phase⟩,⟨12,.phase⟩,⟨13,.phase⟩,⟨14,.phase⟩,⟨15,.phase⟩,⟨16,.phase⟩,⟨17,.phase⟩,⟨18,.phase⟩,⟨19,.phase⟩,⟨20,.phase⟩,⟨21,.phase⟩,⟨22,.phase⟩,⟨23,.phase⟩,⟨24,.phase⟩,⟨25,.phase⟩,⟨26,.phase⟩,⟨27,.phase⟩,⟨28,.phase⟩,⟨29,.phase⟩,⟨30,.phase⟩,⟨31,.phase⟩],none⟩) rfl (fun K hK=>?_) AllReadyH.nil
      rw [if_pos (by rfl)]
      refine wp_put9 110 _ _ rfl rfl (v1.heap.size) 0 3 [.int .i64 aL11,.int .i64 aW11,.int .i64 aR11] _ _ rfl rfl f9 rfl (by kernel_rfl) (by kernel_rfl) (by kernel_rfl) ?_
      intro v12 p9 l9
      have f9:=l9.trans (congrArg (fun c=>some (Obj.cells c 110 (0,0))) (show _ = (#[.int .i64 aL11,.int .i64 aW11,.int .i64 aR11]:Array Value) by kernel_rfl))
      refine hK.out _ _ (p9.below hH11 hg9) (fun hH12=>?_)
      clear hK K l9
      try simp only [Act.put,List.setIfInBounds_toArray,List.set_cons_zero,List.set_cons_succ]
      refine wpAnyH_done (by kernel_rfl) ?_ _
      have HF9:=f9
      have HH:=hH12
      have HG9:=hg9
      clear f9
      go_wp2_with fail
      go_meet
      case rel=>exact ⟨_,_,_,_,rfl,HF9,HG9,HH⟩
    ·go_simp
     refine hK.out _ _ (hHeld.alloc hHeld.size _) (fun hH13=>?_)
     clear hK K
     try simp only [Act.put,List.setIfInBounds_toArray,List.set_cons_zero,List.set_cons_succ]
     have f9:=heap_at (w1.drew) (.cells (#[.int .i64 0,.int .i64 0,.int .i64 0]) 110) (w1.heap.size) rfl
     have hg9:w1.heap.size ≤ w1.heap.size:=hHeld.size
     refine wpAnyH_ready (rs:=[15]) (by kernel_rfl) (by simp) ?_
     refine AllReadyH.cons (o:=⟨some 53,Op.call { callee:=Callee.value (Operand.func 93),args:=#[.tmp 43,.tmp 47,.tmp 51,.tmp 52,Operand.const (Value.bool false)],argTypes:=#[48,23,24,3,4] },3,"l9_page.go:111",#[⟨5,.data⟩,⟨9,.data⟩,⟨13,.data⟩,⟨14,.data⟩],none⟩) rfl (fun K hK=>?_) AllReadyH.nil
     go_simp
     refine (CN false _ (hH13)).mono ?_
     rintro e v14 ⟨⟨zn14,rfl⟩,hb14⟩
     have f9:=below_lies hb14 f9 (lies_lt f9)
     go_wp2_with fail
     refine hK.out _ _ (hH13.trans (hb14.mono hH13.size)) (fun hH14=>?_)
     clear hK K
     try simp only [Act.put,List.setIfInBounds_toArray,List.set_cons_zero,List.set_cons_succ]
     refine wpAnyH_ready (rs:=[29]) (by kernel_rfl) (by simp) ?_
     refine AllReadyH.cons (o:=⟨some 67,Op.call { callee:=Callee.value (Operand.func 93),args:=#[.tmp 57,.tmp 61,.tmp 65,.tmp 66,Operand.const (Value.bool true)],argTypes:=#[48,23,24,3,4] },3,"l9_page.go:111",#[⟨19,.data⟩,⟨23,.data⟩,⟨27,.data⟩,⟨28,.data⟩,⟨15,.chain⟩],none⟩) rfl (fun K hK=>?_) AllReadyH.nil
     go_simp
     refine (CN true _ (hH14)).mono ?_
     rintro e v15 ⟨⟨zx15,rfl⟩,hb15⟩
     have f9:=below_lies hb15 f9 (lies_lt f9)
     go_wp2_with fail
     refine hK.out _ _ (hH14.trans (hb15.mono hH14.size)) (fun hH15=>?_)
     clear hK K
     try simp only [Act.put,List.setIfInBounds_toArray,List.set_cons_zero,List.set_cons_succ]
     refine wpAnyH_ready (rs:=[30]) (by kernel_rfl) (by simp) ?_
     refine AllReadyH.cons (o:=⟨some 68,Op.call { callee:=Callee.value (Operand.func 92),args:=#[.tmp 38,.tmp 39,.tmp 53,.tmp 67],argTypes:=#[73,3,3,3] },110,"l9_page.go:111",#[⟨0,.data⟩,⟨1,.data⟩,⟨15,.data⟩,⟨29,.data⟩,⟨29,.chain⟩],none⟩) rfl (fun K hK=>?_) AllReadyH.nil
     go_simp
     refine (float_ret y.st around _ _ _).mono ?_
     rintro e v16 ⟨⟨aL16,aW16,aR16,rfl⟩,hb16⟩
     have f9:=below_lies hb16 f9 (lies_lt f9)
     go_wp2_with fail
     refine hK.out _ _ (hH15.trans (hb16.mono hH15.size)) (fun hH16=>?_)
     clear hK K
     try simp only [Act.put,List.setIfInBounds_toArray,List.set_cons_zero,List.set_cons_succ]
     refine wpAnyH_ready (rs:=[32]) (by kernel_rfl) (by simp) ?_
     refine AllReadyH.cons (o:=⟨none,Op.store 110 (.tmp 9) (.tmp 68),0,"l9_page.go:111",#[⟨31,.data⟩,⟨30,.data⟩,⟨30,.chain⟩,⟨0,.phase⟩,⟨1,.phase⟩,⟨2,.phase⟩,⟨3,.phase⟩,⟨4,.phase⟩,⟨5,.phase⟩,⟨6,.phase⟩,⟨7,.phase⟩,⟨8,.phase⟩,⟨9,.phase⟩,⟨10,.phase⟩,⟨11,.phase⟩,⟨12,.phase⟩,⟨13,.phase⟩,⟨14,.phase⟩,⟨15,.phase⟩,⟨16,.phase⟩,⟨17,.phase⟩,⟨18,.phase⟩,⟨19,.phase⟩,⟨20,.phase⟩,⟨21,.phase⟩,⟨22,.phase⟩,⟨23,.phase⟩,⟨24,.phase⟩,⟨25,.phase⟩,⟨26,.phase⟩,⟨27,.phase⟩,⟨28,.phase⟩,⟨29,.phase⟩,⟨30,.phase⟩,⟨31,.phase⟩],none⟩) rfl (fun K hK=>?_) AllReadyH.nil
     rw [if_pos (by rfl)]
     refine wp_put9 110 _ _ rfl rfl (w1.heap.size) 0 3 [.int .i64 aL16,.int .i64 aW16,.int .i64 aR16] _ _ rfl rfl f9 rfl (by kernel_rfl) (by kernel_rfl) (by kernel_rfl) ?_
     intro v17 p9 l9
     have f9:=l9.trans (congrArg (fun c=>some (Obj.cells c 110 (0,0))) (show _ = (#[.int .i64 aL16,.int .i64 aW16,.int .i64 aR16]:Array Value) by kernel_rfl))
     refine hK.out _ _ (p9.below hH16 hg9) (fun hH17=>?_)
     clear hK K l9
     try simp only [Act.put,List.setIfInBounds_toArray,List.set_cons_zero,List.set_cons_succ]
     refine wpAnyH_done (by kernel_rfl) ?_ _
     have HF9:=f9
     have HH:=hH17
     have HG9:=hg9
     clear f9
     go_wp2_with fail
     go_meet
     case rel=>exact ⟨_,_,_,_,rfl,HF9,HG9,HH⟩
  case rest =>
   obtain ⟨ga,aL,aW,aR,rfl,HF9,HG9,bc⟩:=hcut
   obtain ⟨W2,hW2⟩:∃ W,W = wc:=⟨_,rfl⟩
   subst hW2
   have KC:=K1.keep bc
   have lc:W2.heap[q]? = some (.cells (stCells y.st) 73 (0,0)):=below_lies bc l1 lq
   have s19:W2.cell? ⟨q,19,none⟩ = some (.int .i64 y.st.bo):=(lies_cell lc 19).trans rfl
   have s20:W2.cell? ⟨q,20,none⟩ = some (.int .i64 y.st.pa):=(lies_cell lc 20).trans rfl
   have LC:LeAt W2 B E:=LE1.below (bc.mono hB1)
   have hBc:B ≤ W2.heap.size:=Nat.le_trans hB1 bc.size
   have lqc:q < W2.heap.size:=lies_lt lc
   have lga:ga < W2.heap.size:=lies_lt HF9
   have GC:Hid (Goes B g P E c w c W2):=Goes.keep HCT.out (by rw [hq];exact b1.trans (bc.mono (Nat.le_of_lt lq)))
   have nga:¬ c.own g P ga:=fun h=>by have:=HCT.out.own_lt h;omega
   have ownlt:Hid (∀ b,c.own g P b → b < q):=fun b h=>by have:=HCT.out.own_lt h;omega
   clear hst1 hfont c5 c6 CN K1 LE1 lg1 hB1 b1 l1 lq bc HCT HLE lg hBg lxb lnb i0 i1 hi hin hx hy HCN HG9 hq
   go_upto_region 3 with fail
   go_cut [11] from 74 to 93 (fun p wx=>p = .pointer (some ⟨W2.heap.size + 1,0,none⟩) ∧ Ctx wx W2.heap.size (W2.heap.size + 1) W2.heap.size E (cs0 E.m) ∧ Below W2.heap.size W2 wx)
   case first =>
    obtain ⟨-,-,-,-,-,k5,k6⟩:=KC.reads
    have hfontc:W2.rangeAt g 0 [.int .i64 E.fa,.int .i64 E.fd,.int .i64 E.fn,.int .i64 E.fu,.int .i64 E.fb]:=range9 KC.lies 0 rfl
    have lgc:g < W2.heap.size:=lies_lt KC.lies
    have hm80:E.m ≤ 80:=hE.m80
    clear s19 s20
    refine wp_region_held_drew (S:=fun W=>Below W2.heap.size W2 W) (by kernel_rfl) ((Below.refl _ _).drew) (fun hHeld=>?_)
    refine wpAnyH_take (i:=0) (oi:=⟨some 74,Op.move (.tmp 0),88,"l9_page.go:113",#[],none⟩) (v:=.pointer (some ⟨g,0,none⟩)) rfl (by kernel_rfl) (by kernel_rfl) (by kernel_rfl) (fun _ _ _ h=>h) (Or.inl ⟨by rfl,by intro wz hSw;go_simp⟩) hHeld ?_
    simp only [Act.put,List.setIfInBounds_toArray,List.set_cons_zero,List.set_cons_succ]
    refine wpAnyH_take (i:=1) (oi:=⟨some 75,Op.nilCheck (.tmp 74),0,"l9_page.go:113",#[⟨0,.data⟩],none⟩) (v:=.pointer (some ⟨g,0,none⟩)) rfl (by kernel_rfl) (by kernel_rfl) (by kernel_rfl) (fun _ _ _ h=>h) (Or.inl ⟨by rfl,by intro wz hSw;go_simp⟩) hHeld ?_
    simp only [Act.put,List.setIfInBounds_toArray,List.set_cons_zero,List.set_cons_succ]
    refine wpAnyH_take (i:=2) (oi:=⟨some 76,Op.fieldAddr 90 (.tmp 75) 0,0,"l9_page.go:113",#[⟨1,.data⟩],none⟩) (v:=.pointer (some ⟨g,0,none⟩)) rfl (by kernel_rfl) (by kernel_rfl) (by kernel_rfl) (fun _ _ _ h=>h) (Or.inl ⟨by rfl,by intro wz hSw;go_simp⟩) hHeld ?_
    simp only [Act.put,List.setIfInBounds_toArray,List.set_cons_zero,List.set_cons_succ]
    refine wpAnyH_take (i:=3) (oi:=⟨some 77,Op.load 48 (.tmp 76),48,"l9_page.go:113",#[⟨2,.data⟩],none⟩) (v:=.agg (#[.int .i64 E.fa,.int .i64 E.fd,.int .i64 E.fn,.int .i64 E.fu,.int .i64 E.fb])) rfl (by kernel_rfl) (by kernel_rfl) (by kernel_rfl) (fun _ _ _ h=>h) (yieldsIf_load_mid (by rfl) 48 _ rfl (g) (0) rfl ([.int .i64 E.fa,.int .i64 E.fd,.int .i64 E.fn,.int .i64 E.fu,.int .i64 E.fb]) _ (fun wz hw=>fun j u hu=>(hw.cell (p:=⟨g,0 + j,none⟩) (lgc)).trans (hfontc j u hu)) Tryz.underlying48 rfl (by kernel_rfl)) hHeld ?_
    simp only [Act.put,List.setIfInBounds_toArray,List.set_cons_zero,List.set_cons_succ]
    refine wpAnyH_take (i:=4) (oi:=⟨some 78,Op.move (.tmp 0),88,"l9_page.go:113",#[],none⟩) (v:=.pointer (some ⟨g,0,none⟩)) rfl (by kernel_rfl) (by kernel_rfl) (by kernel_rfl) (fun _ _ _ h=>h) (Or.inl ⟨by rfl,by intro wz hSw;go_simp⟩) hHeld ?_
    simp only [Act.put,List.setIfInBounds_toArray,List.set_cons_zero,List.set_cons_succ]
    refine wpAnyH_take (i:=5) (oi:=⟨some 79,Op.nilCheck (.tmp 78),0,"l9_page.go:113",#[⟨4,.data⟩],none⟩) (v:=.pointer (some ⟨g,0,none⟩)) rfl (by kernel_rfl) (by kernel_rfl) (by kernel_rfl) (fun _ _ _ h=>h) (Or.inl ⟨by rfl,by intro wz hSw;go_simp⟩) hHeld ?_
    simp only [Act.put,List.setIfInBounds_toArray,List.set_cons_zero,List.set_cons_succ]
    refine wpAnyH_take (i:=6) (oi:=⟨some 80,Op.fieldAddr 90 (.tmp 79) 1,0,"l9_page.go:113",#[⟨5,.data⟩],none⟩) (v:=.pointer (some ⟨g,5,none⟩)) rfl (by kernel_rfl) (by kernel_rfl) (by kernel_rfl) (fun _ _ _ h=>h) (Or.inl ⟨by rfl,by intro wz hSw;go_simp⟩) hHeld ?_
    simp only [Act.put,List.setIfInBounds_toArray,List.set_cons_zero,List.set_cons_succ]
    refine wpAnyH_take (i:=7) (oi:=⟨some 81,Op.load 23 (.tmp 80),23,"l9_page.go:113",#[⟨6,.data⟩],none⟩) (v:=.slice (some ⟨E.nb,E.noff,none⟩) E.n E.ncap) rfl (by kernel_rfl) (by kernel_rfl) (by kernel_rfl) (fun _ _ _ h=>h) (Or.inl ⟨by rfl,by intro wz hSw;have hq:wz.cell? ⟨g,5,none⟩ = some (.slice (some ⟨E.nb,E.noff,none⟩) E.n E.ncap):=(hSw.cell (p:=⟨g,5,none⟩) (lgc)).trans k5;clear hSw;go_simp⟩) hHeld ?_
    simp only [Act.put,List.setIfInBounds_toArray,List.set_cons_zero,List.set_cons_succ]
    refine wpAnyH_take (i:=8) (oi:=⟨some 82,Op.move (.tmp 0),88,"l9_page.go:113",#[],none⟩) (v:=.pointer (some ⟨g,0,none⟩)) rfl (by kernel_rfl) (by kernel_rfl) (by kernel_rfl) (fun _ _ _ h=>h) (Or.inl ⟨by rfl,by intro wz hSw;go_simp⟩) hHeld ?_
    simp only [Act.put,List.setIfInBounds_toArray,List.set_cons_zero,List.set_cons_succ]
    refine wpAnyH_take (i:=9) (oi:=⟨some 83,Op.nilCheck (.tmp 82),0,"l9_page.go:113",#[⟨8,.data⟩],none⟩) (v:=.pointer (some ⟨g,0,none⟩)) rfl (by kernel_rfl) (by kernel_rfl) (by kernel_rfl) (fun _ _ _ h=>h) (Or.inl ⟨by rfl,by intro wz hSw;go_simp⟩) hHeld ?_
    simp only [Act.put,List.setIfInBounds_toArray,List.set_cons_zero,List.set_cons_succ]
    refine wpAnyH_take (i:=10) (oi:=⟨some 84,Op.fieldAddr 90 (.tmp 83) 2,0,"l9_page.go:113",#[⟨9,.data⟩],none⟩) (v:=.pointer (some ⟨g,6,none⟩)) rfl (by kernel_rfl) (by kernel_rfl) (by kernel_rfl) (fun _ _ _ h=>h) (Or.inl ⟨by rfl,by intro wz hSw;go_simp⟩) hHeld ?_
    simp only [Act.put,List.setIfInBounds_toArray,List.set_cons_zero,List.set_cons_succ]
    refine wpAnyH_take (i:=11) (oi:=⟨some 85,Op.load 24 (.tmp 84),24,"l9_page.go:113",#[⟨10,.data⟩],none⟩) (v:=.slice (some ⟨E.xb,E.xoff,none⟩) E.m E.xcap) rfl (by kernel_rfl) (by kernel_rfl) (by kernel_rfl) (fun _ _ _ h=>h) (Or.inl ⟨by rfl,by intro wz hSw;have hq:wz.cell? ⟨g,6,none⟩ = some (.slice (some ⟨E.xb,E.xoff,none⟩) E.m E.xcap):=(hSw.cell (p:=⟨g,6,none⟩) (lgc)).trans k6;clear hSw;go_simp⟩) hHeld ?_
    simp only [Act.put,List.setIfInBounds_toArray,List.set_cons_zero,List.set_cons_succ]
    refine wpAnyH_take (i:=12) (oi:=⟨some 86,Op.move (.tmp 0),88,"l9_page.go:113",#[],none⟩) (v:=.pointer (some ⟨g,0,none⟩)) rfl (by kernel_rfl) (by kernel_rfl) (by kernel_rfl) (fun _ _ _ h=>h) (Or.inl ⟨by rfl,by intro wz hSw;go_simp⟩) hHeld ?_
    simp only [Act.put,List.setIfInBounds_toArray,List.set_cons_zero,List.set_cons_succ]
    refine wpAnyH_take (i:=13) (oi:=⟨some 87,Op.nilCheck (.tmp 86),0,"l9_page.go:113",#[⟨12,.data⟩],none⟩) (v:=.pointer (some ⟨g,0,none⟩)) rfl (by kernel_rfl) (by kernel_rfl) (by kernel_rfl) (fun _ _ _ h=>h) (Or.inl ⟨by rfl,by intro wz hSw;go_simp⟩) hHeld ?_
    simp only [Act.put,List.setIfInBounds_toArray,List.set_cons_zero,List.set_cons_succ]
    refine wpAnyH_take (i:=14) (oi:=⟨some 88,Op.fieldAddr 90 (.tmp 87) 2,0,"l9_page.go:113",#[⟨13,.data⟩],none⟩) (v:=.pointer (some ⟨g,6,none⟩)) rfl (by kernel_rfl) (by kernel_rfl) (by kernel_rfl) (fun _ _ _ h=>h) (Or.inl ⟨by rfl,by intro wz hSw;go_simp⟩) hHeld ?_
    simp only [Act.put,List.setIfInBounds_toArray,List.set_cons_zero,List.set_cons_succ]
    refine wpAnyH_take (i:=15) (oi:=⟨some 89,Op.load 24 (.tmp 88),24,"l9_page.go:113",#[⟨14,.data⟩],none⟩) (v:=.slice (some ⟨E.xb,E.xoff,none⟩) E.m E.xcap) rfl (by kernel_rfl) (by kernel_rfl) (by kernel_rfl) (fun _ _ _ h=>h) (Or.inl ⟨by rfl,by intro wz hSw;have hq:wz.cell? ⟨g,6,none⟩ = some (.slice (some ⟨E.xb,E.xoff,none⟩) E.m E.xcap):=(hSw.cell (p:=⟨g,6,none⟩) (lgc)).trans k6;clear hSw;go_simp⟩) hHeld ?_
    simp only [Act.put,List.setIfInBounds_toArray,List.set_cons_zero,List.set_cons_succ]
    refine wpAnyH_take (i:=16) (oi:=⟨some 90,Op.call { callee:=Callee.builtin Builtin.len,args:=#[.tmp 89],argTypes:=#[24] },3,"l9_page.go:113",#[⟨15,.data⟩],none⟩) (v:=.int .i64 (E.m:Int)) rfl (by kernel_rfl) (by kernel_rfl) (by kernel_rfl) (fun _ _ _ h=>h) (Or.inl ⟨by rfl,by intro wz hSw;go_simp⟩) hHeld ?_
    simp only [Act.put,List.setIfInBounds_toArray,List.set_cons_zero,List.set_cons_succ]
    refine wpAnyH_ready (rs:=[17]) (by kernel_rfl) (by simp) ?_
    refine AllReadyH.cons (o:=⟨some 91,Op.makeSlice 25 (.tmp 90) (.tmp 90),25,"l9_page.go:113",#[⟨16,.data⟩,⟨16,.data⟩],none⟩) rfl (fun K hK=>?_) AllReadyH.nil
    rw [if_pos (by rfl)]
    refine wp_make9 _ _ rfl E.m rfl rfl hm80 ?_
    refine hK.out _ _ (hHeld.alloc hHeld.size _) (fun hHeld'=>?_)
    have fz:=heap_at W2.drew (.cells (intsV (List.replicate (E.m * 4) 0)).toArray 35) W2.heap.size rfl
    clear hK K
    try simp only [Act.put,List.setIfInBounds_toArray,List.set_cons_zero,List.set_cons_succ]
    refine wpAnyH_take (i:=18) (oi:=⟨some 92,Op.build 90 #[(0,.tmp 77),(1,.tmp 81),(2,.tmp 85),(3,.tmp 91)],90,"l9_page.go:113",#[⟨3,.data⟩,⟨7,.data⟩,⟨11,.data⟩,⟨17,.data⟩],none⟩) (v:=.agg #[.int .i64 E.fa,.int .i64 E.fd,.int .i64 E.fn,.int .i64 E.fu,.int .i64 E.fb,.slice (some ⟨E.nb,E.noff,none⟩) E.n E.ncap,.slice (some ⟨E.xb,E.xoff,none⟩) E.m E.xcap,.slice (some ⟨W2.heap.size,0,none⟩) E.m E.m,.slice none 0 0,.slice none 0 0,.int .i64 0,.int .i64 0,.int .i64 0,.slice none 0 0,.bool false]) rfl (by kernel_rfl) (by kernel_rfl) (by kernel_rfl) (fun _ _ _ h=>h) (Or.inl ⟨by rfl,by intro wz hSw;go_simp⟩) hHeld' ?_
    simp only [Act.put,List.setIfInBounds_toArray,List.set_cons_zero,List.set_cons_succ]
    refine wpAnyH_ready (rs:=[19]) (by kernel_rfl) (by simp) ?_
    refine AllReadyH.cons (o:=⟨some 93,Op.box 90 (.tmp 92),88,"l9_page.go:113",#[⟨18,.data⟩],none⟩) rfl (fun K hK=>?_) AllReadyH.nil
    go_simp
    refine hK.out _ _ (hHeld'.alloc hHeld'.size _) (fun hHeld''=>?_)
    clear hK K
    try simp only [Act.put,List.setIfInBounds_toArray,List.set_cons_zero,List.set_cons_succ]
    refine wpAnyH_take (i:=20) (oi:=⟨some 11,Op.assign (.tmp 93),88,"l9_page.go:113",#[⟨19,.data⟩,⟨0,.phase⟩,⟨1,.phase⟩,⟨2,.phase⟩,⟨3,.phase⟩,⟨4,.phase⟩,⟨5,.phase⟩,⟨6,.phase⟩,⟨7,.phase⟩,⟨8,.phase⟩,⟨9,.phase⟩,⟨10,.phase⟩,⟨11,.phase⟩,⟨12,.phase⟩,⟨13,.phase⟩,⟨14,.phase⟩,⟨15,.phase⟩,⟨16,.phase⟩,⟨17,.phase⟩,⟨18,.phase⟩,⟨19,.phase⟩],none⟩) (v:=.pointer (some ⟨(W2.heap.size + 1),0,none⟩)) rfl (by kernel_rfl) (by kernel_rfl) (by kernel_rfl) (fun _ _ _ h=>h) (Or.inl ⟨by rfl,by intro wz hSw;go_simp⟩) hHeld'' ?_
    simp only [Act.put,List.setIfInBounds_toArray,List.set_cons_zero,List.set_cons_succ]
    refine wpAnyH_done (by kernel_rfl) ?_ _
    obtain ⟨W3,hW3⟩:∃ W,W = World.drew (World.alloc (World.alloc W2 (.cells (intsV (List.replicate (E.m * 4) 0)).toArray 35)) (.cells (#[.int .i64 E.fa,.int .i64 E.fd,.int .i64 E.fn,.int .i64 E.fu,.int .i64 E.fb,.slice (some ⟨E.nb,E.noff,none⟩) E.n E.ncap,.slice (some ⟨E.xb,E.xoff,none⟩) E.m E.xcap,.slice (some ⟨W2.heap.size,0,none⟩) E.m E.m,.slice none 0 0,.slice none 0 0,.int .i64 0,.int .i64 0,.int .i64 0,.slice none 0 0,.bool false]) 90)):=⟨_,rfl⟩
    have X3:Ctx W3 W2.heap.size (W2.heap.size + 1) W2.heap.size E (cs0 E.m):=by
     rw [hW3]
     exact ctx_new (Nat.le_succ _) (Nat.le_refl _) (heap_at (W2.alloc (.cells (intsV (List.replicate (E.m * 4) 0)).toArray 35)) _ _ (Array.size_push _)) (heap_in (w:=W2.alloc (.cells (intsV (List.replicate (E.m * 4) 0)).toArray 35)) (heap_at W2 _ _ rfl))
    have b3:Below W2.heap.size W2 W3:=by rw [hW3];exact hHeld''
    go_simp
    rw [← hW3]
    clear hW3 fz hHeld
    go_wp2_with fail
    go_meet
    case rel=>exact ⟨rfl,X3,b3⟩
   case rest =>
    obtain ⟨rfl,X3,b3⟩:=hcut
    obtain ⟨W3,hW3⟩:∃ W,W = wc:=⟨_,rfl⟩
    subst hW3
    generalize wrap64 (y.st.bo + y.st.pa) = ed
    clear s19 s20
    have L3:LeAt W3 W2.heap.size E:=(LC.below (b3.mono hBc)).mono hBc
    have KD:=fun lf ar=>HKids _ _ _ _ lf ar W3 X3 L3 (small_new E.m l n (by have:=HSM.out.1;omega) (by have:=HSM.out.2.1;omega))
    have A3:A5 W3 ga aL aW aR:=A5.call HF9 b3
    have a1:W3.cell? ⟨ga,1,none⟩ = some (.int .i64 aW):=(lies_cell A3 1).trans rfl
    go_wp2_with fail
    refine (KD _ _).mono ?_
    rintro e W4 ⟨rfl,c4,G4,n4⟩
    have X4:=G4.ctx
    have hno4:c4.os.length ≤ 1000:=by have h1:=n4.2.2;have h2:=HSM.out.2.2;have h3:(cs0 E.m).os.length = 0:=rfl;omega
    clear KD a1
    go_wp2_with fail
    refine (settle_ctx W4 X4 hno4).mono ?_
    rintro e W5 ⟨rfl,y5,ps5,G5⟩
    have X5:=G5.ctx
    have b5:Below W2.heap.size W2 W5:=b3.trans ((G4.trans G5).below X3)
    have l5:W5.heap[q]? = some (.cells (stCells y.st) 73 (0,0)):=below_lies b5 lc lqc
    have s6:W5.cell? ⟨q,6,none⟩ = some (.bool y.st.h.a):=(lies_cell l5 6).trans rfl
    have s8:W5.cell? ⟨q,8,none⟩ = some (.int .i64 y.st.h.n):=(lies_cell l5 8).trans rfl
    clear X4 G4 G5 X3 b3 L3 A3 l5 HKids hno4
    go_upto_if 106 with fail
    go_cut [12,13,14] from 104 to 133 (fun p _ _ wx=>∃ z:Int,p = .int .i64 z ∧ Below W5.heap.size W5 wx)
    case first =>
     obtain ⟨z10,-,-,-,-,-,z9o,-⟩:=X5.cells
     obtain ⟨af,capf,hvf,-,hrf,-⟩:=OwnA.form X5.of
     have hvf':c4.vf = .slice af c4.fs.length capf:=hvf
     have hrf':AsRow W5 af c4.fs:=hrf
     have z9:W5.cell? ⟨W2.heap.size + 1,9,none⟩ = some (.slice af c4.fs.length capf):=z9o.trans (by rw [← hvf'])
     obtain ⟨fs5,hfs⟩:∃ f,f = c4.fs:=⟨_,rfl⟩
     rw [← hfs] at z9 hrf'
     have HR:Hid (AsRow W5 af fs5):=hrf'
     obtain ⟨nf,hnf⟩:∃ nf,nf = fs5.length:=⟨_,rfl⟩
     rw [← hnf] at z9
     have HN:Hid (nf = fs5.length):=hnf
     have hnl:nf ≤ 1000:=by have h1:=n4.2.1;have h2:=HSM.out.2.1;have h3:(cs0 E.m).fs.length = 0:=rfl;rw [hnf,hfs];omega
     clear hrf hrf' hvf hvf' hnf hfs z9o
     have CL:=HL
     rcases Bool.eq_false_or_eq_true y.st.h.a with ha | ha
     ·rw [ha]
      go_wp2_with fail
      refine (CL _ _ _ _).mono ?_
      rintro e w' ⟨z,rfl,rfl⟩
      go_wp2_with fail
      go_loopw [12,117] (fun s i wr=>∃ (j:Nat) (o:Int),j ≤ nf ∧ i = .int .i64 j ∧ s = .int .i64 o ∧ Below w'.heap.size w' wr) (fun _ i _=>nf - (intOf i).toNat)
      case atStart=>exact ⟨0,_,Nat.zero_le _,rfl,rfl,Below.refl _ _⟩
      case round =>
       obtain ⟨j,o,hj,rfl,rfl,hbw⟩:=hrel
       by_cases hlt:j < nf
       rotate_left
       ·go_wp2_with fail
        go_meet
        case rel=>exact ⟨_,rfl,hbw⟩
       obtain ⟨x5,hx5⟩:∃ x5,fs5[j]? = some x5:=⟨_,List.getElem?_eq_getElem (by have:=HN.out;omega)⟩
       obtain ⟨b,off,rfl,hc⟩:=as_some HR.out hx5
       have hr:=as_below (hc j x5 hx5) hbw (as_lt (hc j x5 hx5))
       obtain ⟨q0,q1,q2,q3,q4⟩:=as_cells hr
       have B2:=fun o=>hbw.alloc hbw.size o
       clear hc hx5 hr
       by_cases h1:o < wrap64 (x5.y + x5.h)
       all_goals
        go_wp2
        go_roundw
        case rel=>exact ⟨j + 1,_,by omega,by go_num,rfl,B2 _⟩
        case measure=>simp [intOf];omega
     ·rw [ha]
      go_wp2_with fail
      go_meet
      case rel=>exact ⟨_,rfl,Below.refl _ _⟩
    case rest =>
     obtain ⟨hz,rfl,b6⟩:=hcut
     have bz:Below W2.heap.size W2 wc:=b5.trans (b6.mono b5.size)
     obtain ⟨ci,IZ,nxi,nfi⟩:∃ ci,Ctx wc W2.heap.size (W2.heap.size + 1) W2.heap.size E ci ∧ ci.xs.length ≤ l ∧ ci.fs.length ≤ n:=⟨_,X5.keep b6,by have h1:=n4.1;have h3:(cs0 E.m).xs.length = 0:=rfl;show c4.xs.length ≤ l;omega,by have h1:=n4.2.1;have h3:(cs0 E.m).fs.length = 0:=rfl;show c4.fs.length ≤ n;omega⟩
     have SD:Hid (Sd E B g P q ga y.st aL aW aR W2.heap.size (W2.heap.size + 1) W2.heap.size ci c wc) :=
      ⟨KC.keep bz,LC.below (bz.mono hBc),below_lies bz lc lqc,nq,below_lies bz HF9 lga,nga,IZ,fun b hb ho=>by have:=ownlt.out b ho;have:=IZ.own_base hb;omega⟩
     have GZ:Hid (Goes B g P E c w c wc):=GC.out.trans (Goes.keep KC bz)
     obtain ⟨Z,hZ⟩:∃ W,W = wc:=⟨_,rfl⟩
     subst hZ
     clear b6 bz IZ X5 b5 s6 s8 n4 GC KC LC HF9 lc lqc lga nga nq hBc ownlt
     generalize W2.heap.size = B2 at *
     have a0:Z.cell? ⟨ga,0,none⟩ = some (.int .i64 aL):=(lies_cell SD.out.acr 0).trans rfl
     have a1:Z.cell? ⟨ga,1,none⟩ = some (.int .i64 aW):=(lies_cell SD.out.acr 1).trans rfl
     have a2:Z.cell? ⟨ga,2,none⟩ = some (.int .i64 aR):=(lies_cell SD.out.acr 2).trans rfl
     have s11:Z.cell? ⟨q,11,none⟩ = some (.int .i64 y.st.mt):=(lies_cell SD.out.sty 11).trans rfl
     have s15:Z.cell? ⟨q,15,none⟩ = some (.int .i64 y.st.mb):=(lies_cell SD.out.sty 15).trans rfl
     go_wp2_with fail
     refine (HL _ _ _ _).mono ?_
     rintro e w' ⟨z15,rfl,hw'⟩
     have hw':=hw'.symm
     subst hw'
     go_wp2_with fail
     refine (HL _ _ _ _).mono ?_
     rintro e w' ⟨z16,rfl,hw'⟩
     have hw':=hw'.symm
     subst hw'
     clear a0 a1 a2 s11 s15
     go_upto_region 17 with fail
     go_cut [17] from 157 to 178 (fun p wx=>∃ (gx:Nat) (xa:Asd),p = .pointer (some ⟨gx,0,none⟩) ∧ AsAt wx gx xa ∧ Z.heap.size ≤ gx ∧ Below Z.heap.size Z wx)
     case first =>
      as_aux_lemma =>
       have KZ:=SD.out.ctx
       have s1:Z.cell? ⟨q,1,none⟩ = some (.int .i64 y.st.fl):=(lies_cell SD.out.sty 1).trans rfl
       have s2:Z.cell? ⟨q,2,none⟩ = some (.int .i64 y.st.cl):=(lies_cell SD.out.sty 2).trans rfl
       have lqz:q < Z.heap.size:=lies_lt SD.out.sty
       have lgz:g < Z.heap.size:=lies_lt KZ.lies
       obtain ⟨-,-,-,-,-,-,c9o,-⟩:=KZ.cells
       obtain ⟨af,capf,hvf,-,hrf,-⟩:=OwnA.form KZ.of
       obtain ⟨nf,hnf⟩:∃ m,m = c.fs.length:=⟨_,rfl⟩
       rw [← hnf] at hvf
       have c9:Z.cell? ⟨g,9,none⟩ = some (.slice af nf capf):=c9o.trans (by rw [hvf])
       have hnl:nf ≤ 1000:=by have:=HSM.out.2.1;omega
       have MK:=fun W (hW:Below Z.heap.size Z W)=>mark_ctx W (KZ.keep hW)
       have CL:=fun z W (hW:Below Z.heap.size Z W)=>clear_some af nf capf c.fs y.st.cl z W hnf (hrf.below hW) hnl
       have PU:=fun side wide high yy lf rt W (hW:Below Z.heap.size Z W)=>put_some af nf capf c.fs side wide high yy lf rt W hnf (hrf.below hW) hnl
       clear KZ c9o hvf hrf hnf
       refine wp_region_held_drew (S:=fun W=>Below Z.heap.size Z W) (by kernel_rfl) ((Below.refl _ _).drew) (fun hHeld=>?_)
       refine wpAnyH_take (i:=0) (oi:=⟨some 157,Op.move (.tmp 0),88,"l9_page.go:127",#[],none⟩) (v:=.pointer (some ⟨g,0,none⟩)) rfl (by kernel_rfl) (by kernel_rfl) (by kernel_rfl) (fun _ _ _ h=>h) (Or.inl ⟨by rfl,by intro wz hSw;go_simp⟩) hHeld ?_
       simp only [Act.put,List.setIfInBounds_toArray,List.set_cons_zero,List.set_cons_succ]
       refine wpAnyH_take (i:=1) (oi:=⟨some 158,Op.nilCheck (.tmp 157),0,"l9_page.go:127",#[⟨0,.data⟩],none⟩) (v:=.pointer (some ⟨g,0,none⟩)) rfl (by kernel_rfl) (by kernel_rfl) (by kernel_rfl) (fun _ _ _ h=>h) (Or.inl ⟨by rfl,by intro wz hSw;go_simp⟩) hHeld ?_
       simp only [Act.put,List.setIfInBounds_toArray,List.set_cons_zero,List.set_cons_succ]
       refine wpAnyH_take (i:=2) (oi:=⟨some 159,Op.fieldAddr 90 (.tmp 158) 5,0,"l9_page.go:127",#[⟨1,.data⟩],none⟩) (v:=.pointer (some ⟨g,9,none⟩)) rfl (by kernel_rfl) (by kernel_rfl) (by kernel_rfl) (fun _ _ _ h=>h) (Or.inl ⟨by rfl,by intro wz hSw;go_simp⟩) hHeld ?_
       simp only [Act.put,List.setIfInBounds_toArray,List.set_cons_zero,List.set_cons_succ]
       refine wpAnyH_take (i:=3) (oi:=⟨some 160,Op.load 27 (.tmp 159),27,"l9_page.go:127",#[⟨2,.data⟩],none⟩) (v:=.slice af nf capf) rfl (by kernel_rfl) (by kernel_rfl) (by kernel_rfl) (fun _ _ _ h=>h) (Or.inl ⟨by rfl,by intro wz hSw;have hq:wz.cell? ⟨g,9,none⟩ = some (.slice af nf capf):=(hSw.cell (p:=⟨g,9,none⟩) (lgz)).trans c9;clear hSw;go_simp⟩) hHeld ?_
       simp only [Act.put,List.setIfInBounds_toArray,List.set_cons_zero,List.set_cons_succ]
       refine wpAnyH_take (i:=4) (oi:=⟨some 161,Op.fieldAddr 73 (.tmp 8) 1,0,"l9_page.go:127",#[],none⟩) (v:=.pointer (some ⟨q,1,none⟩)) rfl (by kernel_rfl) (by kernel_rfl) (by kernel_rfl) (fun _ _ _ h=>h) (Or.inl ⟨by rfl,by intro wz hSw;go_simp⟩) hHeld ?_
       simp only [Act.put,List.setIfInBounds_toArray,List.set_cons_zero,List.set_cons_succ]
       refine wpAnyH_take (i:=5) (oi:=⟨some 162,Op.load 3 (.tmp 161),3,"l9_page.go:127",#[⟨4,.data⟩],none⟩) (v:=.int .i64 y.st.fl) rfl (by kernel_rfl) (by kernel_rfl) (by kernel_rfl) (fun _ _ _ h=>h) (Or.inl ⟨by rfl,by intro wz hSw;have hq:wz.cell? ⟨q,1,none⟩ = some (.int .i64 y.st.fl):=(hSw.cell (p:=⟨q,1,none⟩) (lqz)).trans s1;clear hSw;go_simp⟩) hHeld ?_
       simp only [Act.put,List.setIfInBounds_toArray,List.set_cons_zero,List.set_cons_succ]
       refine wpAnyH_take (i:=6) (oi:=⟨some 163,Op.move (.tmp 15),3,"l9_page.go:127",#[],none⟩) (v:=.int .i64 z15) rfl (by kernel_rfl) (by kernel_rfl) (by kernel_rfl) (fun _ _ _ h=>h) (Or.inl ⟨by rfl,by intro wz hSw;go_simp⟩) hHeld ?_
       simp only [Act.put,List.setIfInBounds_toArray,List.set_cons_zero,List.set_cons_succ]
       refine wpAnyH_take (i:=7) (oi:=⟨some 164,Op.move (.tmp 16),3,"l9_page.go:127",#[],none⟩) (v:=.int .i64 z16) rfl (by kernel_rfl) (by kernel_rfl) (by kernel_rfl) (fun _ _ _ h=>h) (Or.inl ⟨by rfl,by intro wz hSw;go_simp⟩) hHeld ?_
       simp only [Act.put,List.setIfInBounds_toArray,List.set_cons_zero,List.set_cons_succ]
       refine wpAnyH_take (i:=8) (oi:=⟨some 165,Op.move (.tmp 0),88,"l9_page.go:127",#[],none⟩) (v:=.pointer (some ⟨g,0,none⟩)) rfl (by kernel_rfl) (by kernel_rfl) (by kernel_rfl) (fun _ _ _ h=>h) (Or.inl ⟨by rfl,by intro wz hSw;go_simp⟩) hHeld ?_
       simp only [Act.put,List.setIfInBounds_toArray,List.set_cons_zero,List.set_cons_succ]
       refine wpAnyH_take (i:=9) (oi:=⟨some 166,Op.nilCheck (.tmp 165),0,"l9_page.go:127",#[⟨8,.data⟩],none⟩) (v:=.pointer (some ⟨g,0,none⟩)) rfl (by kernel_rfl) (by kernel_rfl) (by kernel_rfl) (fun _ _ _ h=>h) (Or.inl ⟨by rfl,by intro wz hSw;go_simp⟩) hHeld ?_
       simp only [Act.put,List.setIfInBounds_toArray,List.set_cons_zero,List.set_cons_succ]
       refine wpAnyH_take (i:=10) (oi:=⟨some 167,Op.fieldAddr 90 (.tmp 166) 5,0,"l9_page.go:127",#[⟨9,.data⟩],none⟩) (v:=.pointer (some ⟨g,9,none⟩)) rfl (by kernel_rfl) (by kernel_rfl) (by kernel_rfl) (fun _ _ _ h=>h) (Or.inl ⟨by rfl,by intro wz hSw;go_simp⟩) hHeld ?_
       simp only [Act.put,List.setIfInBounds_toArray,List.set_cons_zero,List.set_cons_succ]
       refine wpAnyH_take (i:=11) (oi:=⟨some 168,Op.load 27 (.tmp 167),27,"l9_page.go:127",#[⟨10,.data⟩],none⟩) (v:=.slice af nf capf) rfl (by kernel_rfl) (by kernel_rfl) (by kernel_rfl) (fun _ _ _ h=>h) (Or.inl ⟨by rfl,by intro wz hSw;have hq:wz.cell? ⟨g,9,none⟩ = some (.slice af nf capf):=(hSw.cell (p:=⟨g,9,none⟩) (lgz)).trans c9;clear hSw;go_simp⟩) hHeld ?_
       simp only [Act.put,List.setIfInBounds_toArray,List.set_cons_zero,List.set_cons_succ]
       refine wpAnyH_take (i:=12) (oi:=⟨some 169,Op.fieldAddr 73 (.tmp 8) 2,0,"l9_page.go:127",#[],none⟩) (v:=.pointer (some ⟨q,2,none⟩)) rfl (by kernel_rfl) (by kernel_rfl) (by kernel_rfl) (fun _ _ _ h=>h) (Or.inl ⟨by rfl,by intro wz hSw;go_simp⟩) hHeld ?_
       simp only [Act.put,List.setIfInBounds_toArray,List.set_cons_zero,List.set_cons_succ]
       refine wpAnyH_take (i:=13) (oi:=⟨some 170,Op.load 3 (.tmp 169),3,"l9_page.go:127",#[⟨12,.data⟩],none⟩) (v:=.int .i64 y.st.cl) rfl (by kernel_rfl) (by kernel_rfl) (by kernel_rfl) (fun _ _ _ h=>h) (Or.inl ⟨by rfl,by intro wz hSw;have hq:wz.cell? ⟨q,2,none⟩ = some (.int .i64 y.st.cl):=(hSw.cell (p:=⟨q,2,none⟩) (lqz)).trans s2;clear hSw;go_simp⟩) hHeld ?_
       simp only [Act.put,List.setIfInBounds_toArray,List.set_cons_zero,List.set_cons_succ]
       refine wpAnyH_take (i:=14) (oi:=⟨some 171,Op.move (.tmp 0),88,"l9_page.go:127",#[],none⟩) (v:=.pointer (some ⟨g,0,none⟩)) rfl (by kernel_rfl) (by kernel_rfl) (by kernel_rfl) (fun _ _ _ h=>h) (Or.inl ⟨by rfl,by intro wz hSw;go_simp⟩) hHeld ?_
       simp only [Act.put,List.setIfInBounds_toArray,List.set_cons_zero,List.set_cons_succ]
       refine wpAnyH_take (i:=17) (oi:=⟨some 174,Op.move (.tmp 2),3,"l9_page.go:127",#[],none⟩) (v:=.int .i64 left) rfl (by kernel_rfl) (by kernel_rfl) (by kernel_rfl) (fun _ _ _ h=>h) (Or.inl ⟨by rfl,by intro wz hSw;go_simp⟩) hHeld ?_
       simp only [Act.put,List.setIfInBounds_toArray,List.set_cons_zero,List.set_cons_succ]
       refine wpAnyH_take (i:=18) (oi:=⟨some 175,Op.move (.tmp 2),3,"l9_page.go:127",#[],none⟩) (v:=.int .i64 left) rfl (by kernel_rfl) (by kernel_rfl) (by kernel_rfl) (fun _ _ _ h=>h) (Or.inl ⟨by rfl,by intro wz hSw;go_simp⟩) hHeld ?_
       simp only [Act.put,List.setIfInBounds_toArray,List.set_cons_zero,List.set_cons_succ]
       refine wpAnyH_take (i:=19) (oi:=⟨some 176,Op.move (.tmp 3),3,"l9_page.go:127",#[],none⟩) (v:=.int .i64 around) rfl (by kernel_rfl) (by kernel_rfl) (by kernel_rfl) (fun _ _ _ h=>h) (Or.inl ⟨by rfl,by intro wz hSw;go_simp⟩) hHeld ?_
       simp only [Act.put,List.setIfInBounds_toArray,List.set_cons_zero,List.set_cons_succ]
       refine wpAnyH_take (i:=20) (oi:=⟨some 177,Op.binOp BinOp.add 3 (.tmp 175) (.tmp 176) 3,3,"l9_page.go:127",#[⟨18,.data⟩,⟨19,.data⟩],none⟩) (v:=.int .i64 (IntKind.i64.wrap (left + around))) rfl (by kernel_rfl) (by kernel_rfl) (by kernel_rfl) (fun _ _ _ h=>h) (Or.inl ⟨by rfl,by intro wz hSw;go_simp⟩) hHeld ?_
       simp only [Act.put,List.setIfInBounds_toArray,List.set_cons_zero,List.set_cons_succ]
       refine wpAnyH_ready (rs:=[15,22]) (by kernel_rfl) (by simp) ?_
       refine AllReadyH.cons (o:=⟨some 172,Op.call { callee:=Callee.value (Operand.func 59),args:=#[.tmp 171],argTypes:=#[88] },3,"l9_page.go:127",#[⟨14,.data⟩],none⟩) rfl (fun K hK=>?_) (AllReadyH.cons (o:=⟨some 17,Op.alloc 61,0,"l9_page.go:127",#[],none⟩) rfl (fun K hK=>?_) AllReadyH.nil)
       ·go_simp
        refine (MK _ (hHeld)).mono ?_
        rintro e v1 ⟨zm1,rfl,hb1⟩
        go_wp2_with fail
        refine hK.out _ _ (hHeld.trans (hb1.mono hHeld.size)) (fun hH1=>?_)
        clear hK K
        try simp only [Act.put,List.setIfInBounds_toArray,List.set_cons_zero,List.set_cons_succ]
        refine wpAnyH_ready (rs:=[16,22]) (by kernel_rfl) (by simp) ?_
        refine AllReadyH.cons (o:=⟨some 173,Op.call { callee:=Callee.value (Operand.func 58),args:=#[.tmp 168,.tmp 170,.tmp 172],argTypes:=#[27,3,3] },3,"l9_page.go:127",#[⟨11,.data⟩,⟨13,.data⟩,⟨15,.data⟩,⟨15,.chain⟩],none⟩) rfl (fun K hK=>?_) (AllReadyH.cons (o:=⟨some 17,Op.alloc 61,0,"l9_page.go:127",#[],none⟩) rfl (fun K hK=>?_) AllReadyH.nil)
        ·go_simp
         refine (CL _ _ (hH1)).mono ?_
         rintro e v2 ⟨zc2,rfl,hb2⟩
         go_wp2_with fail
         refine hK.out _ _ (hH1.trans (hb2.mono hH1.size)) (fun hH2=>?_)
         clear hK K
         try simp only [Act.put,List.setIfInBounds_toArray,List.set_cons_zero,List.set_cons_succ]
         refine wpAnyH_ready (rs:=[21,22]) (by kernel_rfl) (by simp) ?_
         refine AllReadyH.cons (o:=⟨some 178,Op.call { callee:=Callee.value (Operand.func 94),args:=#[.tmp 160,.tmp 162,.tmp 163,.tmp 164,.tmp 173,.tmp 174,.tmp 177],argTypes:=#[27,3,3,3,3,3,3] },61,"l9_page.go:127",#[⟨3,.data⟩,⟨5,.data⟩,⟨6,.data⟩,⟨7,.data⟩,⟨16,.data⟩,⟨17,.data⟩,⟨20,.data⟩,⟨16,.chain⟩],none⟩) rfl (fun K hK=>?_) (AllReadyH.cons (o:=⟨some 17,Op.alloc 61,0,"l9_page.go:127",#[],none⟩) rfl (fun K hK=>?_) AllReadyH.nil)
         ·go_simp
          refine (PU _ _ _ _ _ _ _ (hH2)).mono ?_
          rintro e v3 ⟨⟨xx3,rfl⟩,hb3⟩
          go_wp2_with fail
          refine hK.out _ _ (hH2.trans (hb3.mono hH2.size)) (fun hH3=>?_)
          clear hK K
          try simp only [Act.put,List.setIfInBounds_toArray,List.set_cons_zero,List.set_cons_succ]
          refine wpAnyH_ready (rs:=[22]) (by kernel_rfl) (by simp) ?_
          refine AllReadyH.cons (o:=⟨some 17,Op.alloc 61,0,"l9_page.go:127",#[],none⟩) rfl (fun K hK=>?_) AllReadyH.nil
          go_simp
          refine hK.out _ _ (hH3.alloc hH3.size _) (fun hH4=>?_)
          clear hK K
          try simp only [Act.put,List.setIfInBounds_toArray,List.set_cons_zero,List.set_cons_succ]
          have f9:=heap_at (v3) (.cells (#[.int .i64 0,.int .i64 0,.int .i64 0,.int .i64 0,.int .i64 0]) 61) (v3.heap.size) rfl
          have hg9:Z.heap.size ≤ v3.heap.size:=hH3.size
          refine wpAnyH_ready (rs:=[23]) (by kernel_rfl) (by simp) ?_
          refine AllReadyH.cons (o:=⟨none,Op.store 61 (.tmp 17) (.tmp 178),0,"l9_page.go:127",#[⟨22,.data⟩,⟨21,.data⟩,⟨21,.chain⟩,⟨0,.phase⟩,⟨1,.phase⟩,⟨2,.phase⟩,⟨3,.phase⟩,⟨4,.phase⟩,⟨5,.phase⟩,⟨6,.phase⟩,⟨7,.phase⟩,⟨8,.phase⟩,⟨9,.phase⟩,⟨10,.phase⟩,⟨11,.phase⟩,⟨12,.phase⟩,⟨13,.phase⟩,⟨14,.phase⟩,⟨15,.phase⟩,⟨16,.phase⟩,⟨17,.phase⟩,⟨18,.phase⟩,⟨19,.phase⟩,⟨20,.phase⟩,⟨21,.phase⟩,⟨22,.phase⟩],none⟩) rfl (fun K hK=>?_) AllReadyH.nil
          rw [if_pos (by rfl)]
          refine wp_put9 61 _ _ rfl rfl (v3.heap.size) 0 5 [.int .i64 xx3.sd,.int .i64 xx3.x,.int .i64 xx3.y,.int .i64 xx3.w,.int .i64 xx3.h] _ _ rfl rfl f9 rfl (by kernel_rfl) (by kernel_rfl) (by kernel_rfl) ?_
          intro v5 p9 l9
          have f9:=l9.trans (congrArg (fun c=>some (Obj.cells c 61 (0,0))) (show _ = (#[.int .i64 xx3.sd,.int .i64 xx3.x,.int .i64 xx3.y,.int .i64 xx3.w,.int .i64 xx3.h]:Array Value) by kernel_rfl))
          refine hK.out _ _ (p9.below hH4 hg9) (fun hH5=>?_)
          clear hK K l9
          try simp only [Act.put,List.setIfInBounds_toArray,List.set_cons_zero,List.set_cons_succ]
          refine wpAnyH_done (by kernel_rfl) ?_ _
          have HF9:=f9
          have HH:=hH5
          have HG9:=hg9
          clear f9
          go_wp2_with fail
          go_meet
          case rel=>exact ⟨_,_,rfl,HF9,HG9,HH⟩
         ·go_simp
          refine hK.out _ _ (hH2.alloc hH2.size _) (fun hH6=>?_)
          clear hK K
          try simp only [Act.put,List.setIfInBounds_toArray,List.set_cons_zero,List.set_cons_succ]
          have f9:=heap_at (v2) (.cells (#[.int .i64 0,.int .i64 0,.int .i64 0,.int .i64 0,.int .i64 0]) 61) (v2.heap.size) rfl
          have hg9:Z.heap.size ≤ v2.heap.size:=hH2.size
          refine wpAnyH_ready (rs:=[21]) (by kernel_rfl) (by simp) ?_
          refine AllReadyH.cons (o:=⟨some 178,Op.call { callee:=Callee.value (Operand.func 94),args:=#[.tmp 160,.tmp 162,.tmp 163,.tmp 164,.tmp 173,.tmp 174,.tmp 177],argTypes:=#[27,3,3,3,3,3,3] },61,"l9_page.go:127",#[⟨3,.data⟩,⟨5,.data⟩,⟨6,.data⟩,⟨7,.data⟩,⟨16,.data⟩,⟨17,.data⟩,⟨20,.data⟩,⟨16,.chain⟩],none⟩) rfl (fun K hK=>?_) AllReadyH.nil
          go_simp
          refine (PU _ _ _ _ _ _ _ (hH6)).mono ?_
          rintro e v7 ⟨⟨xx7,rfl⟩,hb7⟩
          have f9:=below_lies hb7 f9 (lies_lt f9)
          go_wp2_with fail
          refine hK.out _ _ (hH6.trans (hb7.mono hH6.size)) (fun hH7=>?_)
          clear hK K
          try simp only [Act.put,List.setIfInBounds_toArray,List.set_cons_zero,List.set_cons_succ]
          refine wpAnyH_ready (rs:=[23]) (by kernel_rfl) (by simp) ?_
          refine AllReadyH.cons (o:=⟨none,Op.store 61 (.tmp 17) (.tmp 178),0,"l9_page.go:127",#[⟨22,.data⟩,⟨21,.data⟩,⟨21,.chain⟩,⟨0,.phase⟩,⟨1,.phase⟩,⟨2,.phase⟩,⟨3,.phase⟩,⟨4,.phase⟩,⟨5,.phase⟩,⟨6,.phase⟩,⟨7,.phase⟩,⟨8,.phase⟩,⟨9,.phase⟩,⟨10,.phase⟩,⟨11,.phase⟩,⟨12,.phase⟩,⟨13,.phase⟩,⟨14,.phase⟩,⟨15,.phase⟩,⟨16,.phase⟩,⟨17,.phase⟩,⟨18,.phase⟩,⟨19,.phase⟩,⟨20,.phase⟩,⟨21,.phase⟩,⟨22,.phase⟩],none⟩) rfl (fun K hK=>?_) AllReadyH.nil
          rw [if_pos (by rfl)]
          refine wp_put9 61 _ _ rfl rfl (v2.heap.size) 0 5 [.int .i64 xx7.sd,.int .i64 xx7.x,.int .i64 xx7.y,.int .i64 xx7.w,.int .i64 xx7.h] _ _ rfl rfl f9 rfl (by kernel_rfl) (by kernel_rfl) (by kernel_rfl) ?_
          intro v8 p9 l9
          have f9:=l9.trans (congrArg (fun c=>some (Obj.cells c 61 (0,0))) (show _ = (#[.int .i64 xx7.sd,.int .i64 xx7.x,.int .i64 xx7.y,.int .i64 xx7.w,.int .i64 xx7.h]:Array Value) by kernel_rfl))
          refine hK.out _ _ (p9.below hH7 hg9) (fun hH8=>?_)
          clear hK K l9
          try simp only [Act.put,List.setIfInBounds_toArray,List.set_cons_zero,List.set_cons_succ]
          refine wpAnyH_done (by kernel_rfl) ?_ _
          have HF9:=f9
          have HH:=hH8
          have HG9:=hg9
          clear f9
          go_wp2_with fail
          go_meet
          case rel=>exact ⟨_,_,rfl,HF9,HG9,HH⟩
        ·go_simp
         refine hK.out _ _ (hH1.alloc hH1.size _) (fun hH9=>?_)
         clear hK K
         try simp only [Act.put,List.setIfInBounds_toArray,List.set_cons_zero,List.set_cons_succ]
         have f9:=heap_at (v1) (.cells (#[.int .i64 0,.int .i64 0,.int .i64 0,.int .i64 0,.int .i64 0]) 61) (v1.heap.size) rfl
         have hg9:Z.heap.size ≤ v1.heap.size:=hH1.size
         refine wpAnyH_ready (rs:=[16]) (by kernel_rfl) (by simp) ?_
         refine AllReadyH.cons (o:=⟨some 173,Op.call { callee:=Callee.value (Operand.func 58),args:=#[.tmp 168,.tmp 170,.tmp 172],argTypes:=#[27,3,3] },3,"l9_page.go:127",#[⟨11,.data⟩,⟨13,.data⟩,⟨15,.data⟩,⟨15,.chain⟩],none⟩) rfl (fun K hK=>?_) AllReadyH.nil
         go_simp
         refine (CL _ _ (hH9)).mono ?_
         rintro e v10 ⟨zc10,rfl,hb10⟩
         have f9:=below_lies hb10 f9 (lies_lt f9)
         go_wp2_with fail
         refine hK.out _ _ (hH9.trans (hb10.mono hH9.size)) (fun hH10=>?_)
         clear hK K
         try simp only [Act.put,List.setIfInBounds_toArray,List.set_cons_zero,List.set_cons_succ]
         refine wpAnyH_ready (rs:=[21]) (by kernel_rfl) (by simp) ?_
         refine AllReadyH.cons (o:=⟨some 178,Op.call { callee:=Callee.value (Operand.func 94),args:=#[.tmp 160,.tmp 162,.tmp 163,.tmp 164,.tmp 173,.tmp 174,.tmp 177],argTypes:=#[27,3,3,3,3,3,3] },61,"l9_page.go:127",#[⟨3,.data⟩,⟨5,.data⟩,⟨6,.data⟩,⟨7,.data⟩,⟨16,.data⟩,⟨17,.data⟩,⟨20,.data⟩,⟨16,.chain⟩],none⟩) rfl (fun K hK=>?_) AllReadyH.nil
         go_simp
         refine (PU _ _ _ _ _ _ _ (hH10)).mono ?_
         rintro e v11 ⟨⟨xx11,rfl⟩,hb11⟩
         have f9:=below_lies hb11 f9 (lies_lt f9)
         go_wp2_with fail
         refine hK.out _ _ (hH10.trans (hb11.mono hH10.size)) (fun hH11=>?_)
         clear hK K
         try simp only [Act.put,List.setIfInBounds_toArray,List.set_cons_zero,List.set_cons_succ]
         refine wpAnyH_ready (rs:=[23]) (by kernel_rfl) (by simp) ?_
         refine AllReadyH.cons (o:=⟨none,Op.store 61 (.tmp 17) (.tmp 178),0,"l9_page.go:127",#[⟨22,.data⟩,⟨21,.data⟩,⟨21,.chain⟩,⟨0,.phase⟩,⟨1,.phase⟩,⟨2,.phase⟩,⟨3,.phase⟩,⟨4,.phase⟩,⟨5,.phase⟩,⟨6,.phase⟩,⟨7,.phase⟩,⟨8,.phase⟩,⟨9,.phase⟩,⟨10,.phase⟩,⟨11,.phase⟩,⟨12,.phase⟩,⟨13,.phase⟩,⟨14,.phase⟩,⟨15,.phase⟩,⟨16,.phase⟩,⟨17,.phase⟩,⟨18,.phase⟩,⟨19,.phase⟩,⟨20,.phase⟩,⟨21,.phase⟩,⟨22,.phase⟩],none⟩) rfl (fun K hK=>?_) AllReadyH.nil
         rw [if_pos (by rfl)]
         refine wp_put9 61 _ _ rfl rfl (v1.heap.size) 0 5 [.int .i64 xx11.sd,.int .i64 xx11.x,.int .i64 xx11.y,.int .i64 xx11.w,.int .i64 xx11.h] _ _ rfl rfl f9 rfl (by kernel_rfl) (by kernel_rfl) (by kernel_rfl) ?_
         intro v12 p9 l9
         have f9:=l9.trans (congrArg (fun c=>some (Obj.cells c 61 (0,0))) (show _ = (#[.int .i64 xx11.sd,.int .i64 xx11.x,.int .i64 xx11.y,.int .i64 xx11.w,.int .i64 xx11.h]:Array Value) by kernel_rfl))
         refine hK.out _ _ (p9.below hH11 hg9) (fun hH12=>?_)
         clear hK K l9
         try simp only [Act.put,List.setIfInBounds_toArray,List.set_cons_zero,List.set_cons_succ]
         refine wpAnyH_done (by kernel_rfl) ?_ _
         have HF9:=f9
         have HH:=hH12
         have HG9:=hg9
         clear f9
         go_wp2_with fail
         go_meet
         case rel=>exact ⟨_,_,rfl,HF9,HG9,HH⟩
       ·go_simp
        refine hK.out _ _ (hHeld.alloc hHeld.size _) (fun hH13=>?_)
        clear hK K
        try simp only [Act.put,List.setIfInBounds_toArray,List.set_cons_zero,List.set_cons_succ]
        have f9:=heap_at (Z.drew) (.cells (#[.int .i64 0,.int .i64 0,.int .i64 0,.int .i64 0,.int .i64 0]) 61) (Z.heap.size) rfl
        have hg9:Z.heap.size ≤ Z.heap.size:=hHeld.size
        refine wpAnyH_ready (rs:=[15]) (by kernel_rfl) (by simp) ?_
        refine AllReadyH.cons (o:=⟨some 172,Op.call { callee:=Callee.value (Operand.func 59),args:=#[.tmp 171],argTypes:=#[88] },3,"l9_page.go:127",#[⟨14,.data⟩],none⟩) rfl (fun K hK=>?_) AllReadyH.nil
        go_simp
        refine (MK _ (hH13)).mono ?_
        rintro e v14 ⟨zm14,rfl,hb14⟩
        have f9:=below_lies hb14 f9 (lies_lt f9)
        go_wp2_with fail
        refine hK.out _ _ (hH13.trans (hb14.mono hH13.size)) (fun hH14=>?_)
        clear hK K
        try simp only [Act.put,List.setIfInBounds_toArray,List.set_cons_zero,List.set_cons_succ]
        refine wpAnyH_ready (rs:=[16]) (by kernel_rfl) (by simp) ?_
        refine AllReadyH.cons (o:=⟨some 173,Op.call { callee:=Callee.value (Operand.func 58),args:=#[.tmp 168,.tmp 170,.tmp 172],argTypes:=#[27,3,3] },3,"l9_page.go:127",#[⟨11,.data⟩,⟨13,.data⟩,⟨15,.data⟩,⟨15,.chain⟩],none⟩) rfl (fun K hK=>?_) AllReadyH.nil
        go_simp
        refine (CL _ _ (hH14)).mono ?_
        rintro e v15 ⟨zc15,rfl,hb15⟩
        have f9:=below_lies hb15 f9 (lies_lt f9)
        go_wp2_with fail
        refine hK.out _ _ (hH14.trans (hb15.mono hH14.size)) (fun hH15=>?_)
        clear hK K
        try simp only [Act.put,List.setIfInBounds_toArray,List.set_cons_zero,List.set_cons_succ]
        refine wpAnyH_ready (rs:=[21]) (by kernel_rfl) (by simp) ?_
        refine AllReadyH.cons (o:=⟨some 178,Op.call { callee:=Callee.value (Operand.func 94),args:=#[.tmp 160,.tmp 162,.tmp 163,.tmp 164,.tmp 173,.tmp 174,.tmp 177],argTypes:=#[27,3,3,3,3,3,3] },61,"l9_page.go:127",#[⟨3,.data⟩,⟨5,.data⟩,⟨6,.data⟩,⟨7,.data⟩,⟨16,.data⟩,⟨17,.data⟩,⟨20,.data⟩,⟨16,.chain⟩],none⟩) rfl (fun K hK=>?_) AllReadyH.nil
        go_simp
        refine (PU _ _ _ _ _ _ _ (hH15)).mono ?_
        rintro e v16 ⟨⟨xx16,rfl⟩,hb16⟩
        have f9:=below_lies hb16 f9 (lies_lt f9)
        go_wp2_with fail
        refine hK.out _ _ (hH15.trans (hb16.mono hH15.size)) (fun hH16=>?_)
        clear hK K
        try simp only [Act.put,List.setIfInBounds_toArray,List.set_cons_zero,List.set_cons_succ]
        refine wpAnyH_ready (rs:=[23]) (by kernel_rfl) (by simp) ?_
        refine AllReadyH.cons (o:=⟨none,Op.store 61 (.tmp 17) (.tmp 178),0,"l9_page.go:127",#[⟨22,.data⟩,⟨21,.data⟩,⟨21,.chain⟩,⟨0,.phase⟩,⟨1,.phase⟩,⟨2,.phase⟩,⟨3,.phase⟩,⟨4,.phase⟩,⟨5,.phase⟩,⟨6,.phase⟩,⟨7,.phase⟩,⟨8,.phase⟩,⟨9,.phase⟩,⟨10,.phase⟩,⟨11,.phase⟩,⟨12,.phase⟩,⟨13,.phase⟩,⟨14,.phase⟩,⟨15,.phase⟩,⟨16,.phase⟩,⟨17,.phase⟩,⟨18,.phase⟩,⟨19,.phase⟩,⟨20,.phase⟩,⟨21,.phase⟩,⟨22,.phase⟩],none⟩) rfl (fun K hK=>?_) AllReadyH.nil
        rw [if_pos (by rfl)]
        refine wp_put9 61 _ _ rfl rfl (Z.heap.size) 0 5 [.int .i64 xx16.sd,.int .i64 xx16.x,.int .i64 xx16.y,.int .i64 xx16.w,.int .i64 xx16.h] _ _ rfl rfl f9 rfl (by kernel_rfl) (by kernel_rfl) (by kernel_rfl) ?_
        intro v17 p9 l9
        have f9:=l9.trans (congrArg (fun c=>some (Obj.cells c 61 (0,0))) (show _ = (#[.int .i64 xx16.sd,.int .i64 xx16.x,.int .i64 xx16.y,.int .i64 xx16.w,.int .i64 xx16.h]:Array Value) by kernel_rfl))
        refine hK.out _ _ (p9.below hH16 hg9) (fun hH17=>?_)
        clear hK K l9
        try simp only [Act.put,List.setIfInBounds_toArray,List.set_cons_zero,List.set_cons_succ]
        refine wpAnyH_done (by kernel_rfl) ?_ _
        have HF9:=f9
        have HH:=hH17
        have HG9:=hg9
        clear f9
        go_wp2_with fail
        go_meet
        case rel=>exact ⟨_,_,rfl,HF9,HG9,HH⟩
     case rest =>
      obtain ⟨gx,xa,rfl,lx,hgx,b17⟩:=hcut
      obtain ⟨Y,hY⟩:∃ W,W = wc:=⟨_,rfl⟩
      subst hY
      have SDY:Hid (Sd E B g P q ga y.st aL aW aR B2 (B2 + 1) B2 ci c Y):=SD.out.keep b17
      have nx:¬ c.own g P gx:=fun h=>by have:=SD.out.ctx.own_lt h;omega
      have GY:Hid (Goes B g P E c w c Y):=GZ.out.trans (Goes.keep SD.out.ctx b17)
      clear SD GZ b17 hgx
      go_upto_region 18 with fail
      go_cut [] from 179 to 188 (fun wx=>∃ c',Goes B g P E c Y c' wx ∧ c'.xs.length = c.xs.length ∧ c'.fs.length = c.fs.length + 1 ∧ c'.os.length = c.os.length)
      case first =>
       have X9:=SDY.out.ctx
       obtain ⟨al,capl,hvl,-⟩:=OwnA.form X9.of
       obtain ⟨nl,hnl⟩:∃ m,m = c.fs.length:=⟨_,rfl⟩
       rw [← hnl] at hvl
       have HNL:Hid (nl = c.fs.length):=hnl
       have hnlb:nl ≤ 1000:=by have:=HSM.out.2.1;omega
       obtain ⟨-,-,-,-,-,-,c9v,-⟩:=X9.cells
       have c9:Y.cell? ⟨g,9,none⟩ = some (.slice al nl capl):=c9v.trans (by rw [hvl])
       clear c9v
       have f9:=X9.free 9
       have lgV:=lies_lt X9.lies
       have hBV:B ≤ Y.heap.size:=Nat.le_trans X9.hg (Nat.le_of_lt lgV)
       have l13:Y.heap[gx]? = some (.cells #[.int .i64 xa.sd,.int .i64 xa.x,.int .i64 xa.y,.int .i64 xa.w,.int .i64 xa.h] 61 (0,0)):=lx
       have e0:Y.cell? ⟨gx,0,none⟩ = some (.int .i64 xa.sd):=(lies_cell l13 0).trans rfl
       have e1:Y.cell? ⟨gx,1,none⟩ = some (.int .i64 xa.x):=(lies_cell l13 1).trans rfl
       have e2:Y.cell? ⟨gx,2,none⟩ = some (.int .i64 xa.y):=(lies_cell l13 2).trans rfl
       have e3:Y.cell? ⟨gx,3,none⟩ = some (.int .i64 xa.w):=(lies_cell l13 3).trans rfl
       have e4:Y.cell? ⟨gx,4,none⟩ = some (.int .i64 xa.h):=(lies_cell l13 4).trans rfl
       have l13t:=lies_lt l13
       obtain ⟨iL,hi0,hz0,hz1,hz2⟩:=info_parts infoAside
       have hOwn:Y.ownsRow B 61 5 (.slice al nl capl) nl (flatA c.fs):=by rw [← hvl,hnl];exact X9.of
       have HOW:Hid (∀ W:World,W.heap = (Y.alloc (.cells #[.int .i64 xa.sd,.int .i64 xa.x,.int .i64 xa.y,.int .i64 xa.w,.int .i64 xa.h] 61)).heap → W.ownsRow B 61 5 (.slice al nl capl) nl (flatA c.fs)):=fun W hW=>by
        have h:=hOwn.alloc (.cells #[.int .i64 xa.sd,.int .i64 xa.x,.int .i64 xa.y,.int .i64 xa.w,.int .i64 xa.h] 61)
        refine ⟨h.1,?_⟩
        rcases h.2 with hn | ⟨gg,cc,cur,h1,h2,h3,rest⟩
        ·exact .inl hn
        ·exact .inr ⟨gg,cc,cur,h1,h2,by rw [hW];exact h3,rest⟩
       have HNW:Hid (∀ W:World,W.heap = (Y.alloc (.cells #[.int .i64 xa.sd,.int .i64 xa.x,.int .i64 xa.y,.int .i64 xa.w,.int .i64 xa.h] 61)).heap → ∀ j u,(asL xa)[j]? = some u → W.cell? ((⟨Y.heap.size,0,none⟩:Addr).add j) = some u):=fun W hW=>World.news_of_block (cs:=#[.int .i64 xa.sd,.int .i64 xa.x,.int .i64 xa.y,.int .i64 xa.w,.int .i64 xa.h]) (t:=61) (fr:=(0,0)) (by rw [hW];exact heap_at _ _ _ rfl)
       have H1:Hid (∀ u ∈ asL xa,u.oneCell' = true):=asL_one _
       have neg:(Value.slice al nl capl).ownBlock ≠ some g:=own_ne hOwn X9.lies (by decide)
       have HLI:Hid (∀ W w3:World,W.grownBy w3 (Value.slice al nl capl).ownBlock → W.heap = (Y.alloc (.cells #[.int .i64 xa.sd,.int .i64 xa.x,.int .i64 xa.y,.int .i64 xa.w,.int .i64 xa.h] 61)).heap → w3.cell? ⟨g,9,none⟩ = some (.slice al nl capl) ∧ w3.frozen? ⟨g,9,none⟩ = false):=fun W w3 hg hW=>by
        have h:=X9.lies9 neg hg hW
        exact ⟨((lies_cell h 9).trans rfl:_ = some c.vf).trans (by rw [hvl]),Lib.frozen_of_heap h 9⟩
       have HGG:Hid (∀ (W w3:World) (g9 cap9:Nat),W.grownBy w3 (Value.slice al nl capl).ownBlock → w3.ownsRow B 61 5 (.slice (some ⟨g9,0,none⟩) (nl + 1) cap9) (nl + 1) (flatA c.fs ++ asL xa) → ((Value.slice al nl capl).ownBlock = some g9 ∨ g9 = W.heap.size) → W.heap = (Y.alloc (.cells #[.int .i64 xa.sd,.int .i64 xa.x,.int .i64 xa.y,.int .i64 xa.w,.int .i64 xa.h] 61)).heap → W.os = Y.os → W.tape = Y.tape → W.output = Y.output → ∃ c6,Goes B g P E c Y c6 (w3.setCell ⟨g,9,none⟩ (.slice (some ⟨g9,0,none⟩) (nl + 1) cap9)) ∧ c6.xs.length = c.xs.length ∧ c6.fs.length = c.fs.length + 1 ∧ c6.os.length = c.os.length):=fun W w3 g9 cap9 hg ho hat hW h1 h2 h3 =>
        ⟨_,X9.putF9 xa HNL.out (by rw [hvl];exact hg) ho (by rw [hvl];exact hat) hW h1 h2 h3,rfl,by simp,rfl⟩
       clear X9 hOwn neg hnl hvl l13 lx
       go_region_law (refine step_append_lies _ (by rfl) _ _ _ (by rfl) B 61 iL _ 5 40 Tryz.underlying27 hi0 hz0 hz1 hz2 rfl (by omega) (.slice al nl capl) nl (flatA c.fs) (by rfl) (HOW.out _ rfl) ⟨Y.heap.size,0,none⟩ 1 1 (asL xa) (by rfl) (by rfl) (HNW.out _ rfl) H1.out (by omega) (by unfold maxLen;omega) (by omega) (by simp;omega) _ rfl ?_;intro g9 cap9 w3 hown3 hgrow3 hat3 hlt3;have p8:=(HLI.out _ w3 hgrow3 rfl).1;have r8:=(HLI.out _ w3 hgrow3 rfl).2;have GG:=HGG.out _ w3 g9 cap9 hgrow3 hown3 hat3 rfl rfl rfl rfl)
       all_goals
        clear p8 r8 hown3 hgrow3 hat3 hlt3 HOW HNW H1 HLI HGG e0 e1 e2 e3 e4 c9 f9
        go_wp2_with fail
        go_meet
        case rel=>exact GG
      case rest =>
       obtain ⟨c1,G1,n1x,n1f,n1o⟩:=hcut
       obtain ⟨V1,hV1⟩:∃ W,W = wc:=⟨_,rfl⟩
       subst hV1
       have SD1:Hid (Sd E B g P q ga y.st aL aW aR B2 (B2 + 1) B2 ci c1 V1):=SDY.out.goes G1
       have lx1:AsAt V1 gx xa:=G1.other lx nx
       have nx1:¬ c1.own g P gx:=G1.not_own (lies_lt lx) nx
       have HG1:Hid (Goes B g P E c w c1 V1):=GY.out.trans G1
       have HN1:Hid (c1.xs.length = c.xs.length ∧ c1.fs.length = c.fs.length + 1 ∧ c1.os.length = c.os.length):=⟨n1x,n1f,n1o⟩
       clear SDY GY lx nx G1 n1x n1f n1o
       go_upto_region 19 with fail
       go_cut [] from 189 to 217 (fun wx=>∃ c',Goes B g P E c1 V1 c' wx ∧ Len c1 c')
       case first =>
        obtain ⟨-,-,-,-,-,-,m9,m14⟩:=SD1.out.ctx.cells
        obtain ⟨-,-,-,-,-,-,i9,i14⟩:=SD1.out.inn.cells
        obtain ⟨am,capm,hvm,-,-,-⟩:=OwnA.form SD1.out.ctx.of
        obtain ⟨ai,capi,hvi,-,hri,-⟩:=OwnA.form SD1.out.inn.of
        rw [hvm] at m9
        rw [hvi] at i9
        have f14:=SD1.out.ctx.free 14
        have GM:=fun b=>SD1.out.ctx.setMany b
        have GD:=fun W (hW:Below V1.heap.size V1 W) b=>(Goes.keep SD1.out.ctx hW).trans ((SD1.out.ctx.keep hW).setMany b)
        have LG:=l7Good_ret ai ci.fs.length capi ci.fs V1 rfl hri (by have:=HSM.out.2.1;omega)
        generalize hnm:c1.fs.length = nm at *
        have hnm1:nm ≤ 1001:=by have:=HSM.out.2.1;have:=HN1.out;omega
        generalize ci.fs.length = nii at *
        clear hvm hvi hri hnm
        rcases Bool.eq_false_or_eq_true c1.many with h1 | h1
        ·rw [h1] at m14
         clear h1 LG i9 m9 i14
         go_wp2_with fail
         go_meet
         case rel=>exact ⟨_,GM _,rfl,rfl,rfl⟩
        rw [h1] at m14
        rcases Bool.eq_false_or_eq_true ci.many with h2 | h2
        ·rw [h2] at i14
         clear h1 h2 LG i9 m9
         go_wp2_with fail
         go_meet
         case rel=>exact ⟨_,GM _,rfl,rfl,rfl⟩
        rw [h2] at i14
        by_cases h3:(40:Int) < (nm:Int)
        ·clear h1 h2 LG i9
         go_wp2_with fail
         go_meet
         case rel=>exact ⟨_,GM _,rfl,rfl,rfl⟩
        ·clear h1 h2
         go_wp2_with fail
         refine LG.mono ?_
         rintro e V3 ⟨⟨bb,rfl⟩,hb3⟩
         have g14:V3.cell? ⟨g,14,none⟩ = some (.bool false):=(hb3.cell (p:=⟨g,14,none⟩) (lies_lt SD1.out.ctx.lies)).trans m14
         have k14:=(SD1.out.ctx.keep hb3).free 14
         have GD3:=fun b=>GD V3 hb3 b
         clear LG i9 m9 m14 i14 f14 GM GD hb3
         go_wp2_with fail
         go_meet
         case rel=>exact ⟨_,GD3 _,rfl,rfl,rfl⟩
       case rest =>
        obtain ⟨c2,G2,n2⟩:=hcut
        obtain ⟨V2,hV2⟩:∃ W,W = wc:=⟨_,rfl⟩
        subst hV2
        have SD2:Hid (Sd E B g P q ga y.st aL aW aR B2 (B2 + 1) B2 ci c2 V2):=SD1.out.goes G2
        have lx2:AsAt V2 gx xa:=G2.other lx1 nx1
        have HG2:Hid (Goes B g P E c w c2 V2):=HG1.out.trans G2
        have HN2:Hid (c2.xs.length = c.xs.length ∧ c2.fs.length = c.fs.length + 1 ∧ c2.os.length = c.os.length):=by
         have h1:=HN1.out
         have h2:=n2
         unfold Len at h2
         exact ⟨by omega,by omega,by omega⟩
        clear SD1 HG1 lx1 nx1 G2 n2 HN1
        go_upto_region 20 with fail
        go_cut [18] from 218 to 237 (fun p wx=>∃ (gp:Nat) (pa pb pu pv:Int),p = .pointer (some ⟨gp,0,none⟩) ∧ PlAt wx gp pa pb pu pv ∧ V2.heap.size ≤ gp ∧ Below V2.heap.size V2 wx)
        case first =>
         have a0:V2.cell? ⟨ga,0,none⟩ = some (.int .i64 aL):=(lies_cell SD2.out.acr 0).trans rfl
         have a1:V2.cell? ⟨ga,1,none⟩ = some (.int .i64 aW):=(lies_cell SD2.out.acr 1).trans rfl
         have s11:V2.cell? ⟨q,11,none⟩ = some (.int .i64 y.st.mt):=(lies_cell SD2.out.sty 11).trans rfl
         have lx3:V2.heap[gx]? = some (.cells #[.int .i64 xa.sd,.int .i64 xa.x,.int .i64 xa.y,.int .i64 xa.w,.int .i64 xa.h] 61 (0,0)):=lx2
         have e1:V2.cell? ⟨gx,1,none⟩ = some (.int .i64 xa.x):=(lies_cell lx3 1).trans rfl
         have e2:V2.cell? ⟨gx,2,none⟩ = some (.int .i64 xa.y):=(lies_cell lx3 2).trans rfl
         clear lx3 lx2
         go_wp2_with fail
         go_meet
         case rel=>exact ⟨_,_,_,_,_,rfl,heap_at _ _ _ rfl,Nat.le_refl _,(Below.refl _ _).alloc (Nat.le_refl _) _⟩
        case rest =>
         obtain ⟨gp,pa,pb,pu,pv,rfl,lp,hgp,b20⟩:=hcut
         obtain ⟨V3,hV3⟩:∃ W,W = wc:=⟨_,rfl⟩
         subst hV3
         have SD3:Hid (Sd E B g P q ga y.st aL aW aR B2 (B2 + 1) B2 ci c2 V3):=SD2.out.keep b20
         have np:¬ c2.own g P gp:=fun h=>by have:=SD2.out.ctx.own_lt h;omega
         have HG3:Hid (Goes B g P E c w c2 V3):=HG2.out.trans (Goes.keep SD2.out.ctx b20)
         clear SD2 HG2 b20 hgp lx2
         go_upto_region 21 with fail
         go_cut [] from 238 to 244 (fun wx=>∃ c',Goes B g P E c2 V3 c' wx ∧ Len c2 c')
         case first =>
          have X3:=SD3.out.ctx
          obtain ⟨-,-,-,-,d7,-⟩:=X3.cells
          have t0:=X3.freeP (k * 4)
          have t1:=X3.freeP (k * 4 + 1)
          have t2:=X3.freeP (k * 4 + 2)
          have t3:=X3.freeP (k * 4 + 3)
          have v0:=X3.place (k * 4) (by omega)
          have v1:=X3.place (k * 4 + 1) (by omega)
          have v2:=X3.place (k * 4 + 2) (by omega)
          have v3:=X3.place (k * 4 + 3) (by omega)
          have lp3:V3.heap[gp]? = some (.cells #[.int .i64 pa,.int .i64 pb,.int .i64 pu,.int .i64 pv] 35 (0,0)):=lp
          have e0:V3.cell? ⟨gp,0,none⟩ = some (.int .i64 pa):=(lies_cell lp3 0).trans rfl
          have e1:V3.cell? ⟨gp,1,none⟩ = some (.int .i64 pb):=(lies_cell lp3 1).trans rfl
          have e2:V3.cell? ⟨gp,2,none⟩ = some (.int .i64 pu):=(lies_cell lp3 2).trans rfl
          have e3:V3.cell? ⟨gp,3,none⟩ = some (.int .i64 pv):=(lies_cell lp3 3).trans rfl
          have GP:=X3.setPl (k * 4)
          have nPg:=X3.ne
          have ngP:=Ne.symm nPg
          have nPp:P ≠ gp:=fun e=>np (.inr (.inl e.symm))
          have npP:=Ne.symm nPp
          clear lp3 lp X3
          go_region_held3 (fun w'=>w'.cell? ⟨g,7,none⟩ = some (.slice (some ⟨P,0,none⟩) E.m E.m) ∧ w'.cell? ⟨gp,0,none⟩ = some (.int .i64 pa) ∧ w'.cell? ⟨gp,1,none⟩ = some (.int .i64 pb) ∧ w'.cell? ⟨gp,2,none⟩ = some (.int .i64 pu) ∧ w'.cell? ⟨gp,3,none⟩ = some (.int .i64 pv)) (go_keep) (fail)
          all_goals
           go_wp2_with fail
           go_meet
           case rel =>
            obtain ⟨c'',h1,h2⟩:=GP pa pb pu pv
            exact ⟨c'',h1.trans (Goes.keep h1.ctx ((Below.refl _ _).drew)),h2⟩
         case rest =>
          obtain ⟨c3,G3,n3⟩:=hcut
          obtain ⟨V4,hV4⟩:∃ W,W = wc:=⟨_,rfl⟩
          subst hV4
          have SD4:Hid (Sd E B g P q ga y.st aL aW aR B2 (B2 + 1) B2 ci c3 V4):=SD3.out.goes G3
          have lp4:PlAt V4 gp pa pb pu pv:=G3.other lp np
          have np4:¬ c3.own g P gp:=G3.not_own (lies_lt lp) np
          have HG4:Hid (Goes B g P E c w c3 V4):=HG3.out.trans G3
          have HN4:Hid (c3.xs.length = c.xs.length ∧ c3.fs.length = c.fs.length + 1 ∧ c3.os.length = c.os.length):=by
           have h1:=HN2.out
           have h2:=n3
           unfold Len at h2
           exact ⟨by omega,by omega,by omega⟩
          have i7:V4.cell? ⟨B2 + 1,7,none⟩ = some (.slice (some ⟨B2,0,none⟩) E.m E.m):=SD4.out.inn.cells.2.2.2.2.1
          have hm80:=hE.m80
          clear SD3 HG3 lp np G3 n3 HN2
          go_upto_block 2 with fail
          go_cut [19,20] from 250 to 304 (fun _ _ wx=>∃ c',Goes B g P E c3 V4 c' wx ∧ Len c3 c')
          case first =>
           as_aux_lemma =>
            go_wp2_with fail
            go_loopw [250] (fun iv wr=>∃ (j:Nat) (c':Cs),j ≤ E.m ∧ iv = .int .i64 j ∧ Goes B g P E c3 V4 c' wr ∧ Len c3 c') (fun iv _=>E.m - (intOf iv).toNat)
            case atStart=>exact ⟨0,c3,Nat.zero_le _,rfl,Goes.refl SD4.out.ctx,rfl,rfl,rfl⟩
            case round =>
             obtain ⟨j,c',hj,rfl,hG,hN⟩:=hrel
             have SDR:Hid (Sd E B g P q ga y.st aL aW aR B2 (B2 + 1) B2 ci c' wr):=SD4.out.goes hG
             have lpr:PlAt wr gp pa pb pu pv:=hG.other lp4 np4
             have npr:¬ c'.own g P gp:=hG.not_own (lies_lt lp4) np4
             have HGR:Hid (Goes B g P E c3 V4 c' wr):=hG
             have HNR:Hid (Len c3 c'):=hN
             clear hG hN i7
             by_cases hlt:j < E.m
             rotate_left
             ·have RES:Hid (∃ c',Goes B g P E c3 V4 c' wr ∧ Len c3 c'):=⟨c',HGR.out,HNR.out⟩
              clear SDR lpr npr HGR HNR
              go_wp2_with fail
              go_meet
              case rel=>exact RES.out
             obtain ⟨x6,hx6⟩:∃ x,E.bs[j]? = some x:=⟨_,List.getElem?_eq_getElem (by rw [← hE.m];exact hlt)⟩
             have kdc:wr.cell? ⟨E.xb,E.xoff + j * 4,none⟩ = some (.int .i64 x6.kd):=SDR.out.le.bxs j x6 hx6 0 (.int .i64 x6.kd) rfl
             have c6r:wr.cell? ⟨g,6,none⟩ = some (.slice (some ⟨E.xb,E.xoff,none⟩) E.m E.xcap):=SDR.out.ctx.reads.2.2.2.2.2.2
             have i7:wr.cell? ⟨B2 + 1,7,none⟩ = some (.slice (some ⟨B2,0,none⟩) E.m E.m):=SDR.out.inn.cells.2.2.2.2.1
             have u0:=SDR.out.inn.place (j * 4) (by omega)
             have u1:=SDR.out.inn.place (j * 4 + 1) (by omega)
             have u2:=SDR.out.inn.place (j * 4 + 2) (by omega)
             have u3:=SDR.out.inn.place (j * 4 + 3) (by omega)
             generalize ci.ps.getD (j * 4) 0 = z0 at u0
             generalize ci.ps.getD (j * 4 + 1) 0 = z1 at u1
             generalize ci.ps.getD (j * 4 + 2) 0 = z2 at u2
             generalize ci.ps.getD (j * 4 + 3) 0 = z3 at u3
             have WI:=within_ret E hE j (k:Int) B wr hlt SDR.out.le
             have j0:(0:Int) ≤ (j:Int):=by omega
             have j1:(j:Int) < (E.m:Int):=by omega
             have lpw:wr.heap[gp]? = some (.cells #[.int .i64 pa,.int .i64 pb,.int .i64 pu,.int .i64 pv] 35 (0,0)):=lpr
             have r0:wr.cell? ⟨gp,0,none⟩ = some (.int .i64 pa):=(lies_cell lpw 0).trans rfl
             have r1:wr.cell? ⟨gp,1,none⟩ = some (.int .i64 pb):=(lies_cell lpw 1).trans rfl
             have lgp:gp < wr.heap.size:=lies_lt lpw
             have lgw:g < wr.heap.size:=lies_lt SDR.out.ctx.lies
             have lxw:E.xb < wr.heap.size:=Nat.lt_of_lt_of_le SDR.out.le.xlt (Nat.le_trans SDR.out.ctx.hg (Nat.le_of_lt lgw))
             clear hx6 lpw
             by_cases hjk:(k:Int) < (j:Int)
             rotate_left
             ·clear WI kdc i7 u0 u1 u2 u3 r0 r1
              go_wp2
              go_roundw
              case rel=>exact ⟨j + 1,c',by omega,by go_num,HGR.out,HNR.out⟩
              case measure=>simp [intOf];omega
             go_wp2_with fail
             refine WI.mono ?_
             rintro e w' ⟨⟨bb,rfl⟩,hw'⟩
             have hw':=hw'.symm
             subst hw'
             clear WI
             cases bb
             ·clear kdc i7 u0 u1 u2 u3 r0 r1
              go_wp2
              go_roundw
              case rel=>exact ⟨j + 1,c',by omega,by go_num,HGR.out,HNR.out⟩
              case measure=>simp [intOf];omega
             by_cases hkd:x6.kd = 2
             ·have bkd:(x6.kd != 2) = false:=by simp [hkd]
              clear hkd r0 r1
              go_wp2_with fail
              obtain ⟨V9,hV9⟩:∃ W,W = wr.alloc (.cells #[.int .i64 z0,.int .i64 z1,.int .i64 z2,.int .i64 z3] 35):=⟨_,rfl⟩
              have b9:Below wr.heap.size wr V9:=by rw [hV9];exact (Below.refl _ _).alloc (Nat.le_refl _) _
              have l9:V9.heap[wr.heap.size]? = some (.cells #[.int .i64 z0,.int .i64 z1,.int .i64 z2,.int .i64 z3] 35 (0,0)):=by rw [hV9];exact heap_at _ _ _ rfl
              have X9:=SDR.out.ctx.keep b9
              have HG9:Hid (Goes B g P E c3 V4 c' V9):=HGR.out.trans (Goes.keep SDR.out.ctx b9)
              rw [← hV9]
              have nPp:P ≠ wr.heap.size:=fun e=>by have:=lies_lt SDR.out.ctx.pl;omega
              have nPg:=X9.ne
              generalize wr.heap.size = gq at l9 nPp ⊢
              have npP:=Ne.symm nPp
              have ngP:=Ne.symm nPg
              obtain ⟨-,-,-,-,d7,-⟩:=X9.cells
              have t0:=X9.freeP (j * 4)
              have t1:=X9.freeP (j * 4 + 1)
              have t2:=X9.freeP (j * 4 + 2)
              have t3:=X9.freeP (j * 4 + 3)
              have v0:=X9.place (j * 4) (by omega)
              have v1:=X9.place (j * 4 + 1) (by omega)
              have v2:=X9.place (j * 4 + 2) (by omega)
              have v3:=X9.place (j * 4 + 3) (by omega)
              have e0:V9.cell? ⟨gq,0,none⟩ = some (.int .i64 z0):=(lies_cell l9 0).trans rfl
              have e1:V9.cell? ⟨gq,1,none⟩ = some (.int .i64 z1):=(lies_cell l9 1).trans rfl
              have e2:V9.cell? ⟨gq,2,none⟩ = some (.int .i64 z2):=(lies_cell l9 2).trans rfl
              have e3:V9.cell? ⟨gq,3,none⟩ = some (.int .i64 z3):=(lies_cell l9 3).trans rfl
              have GP:Hid (∀ a b u v:Int,∃ c'',Goes B g P E c3 V4 c'' (((((V9.setCell ⟨P,j * 4,none⟩ (.int .i64 a)).setCell ⟨P,j * 4 + 1,none⟩ (.int .i64 b)).setCell ⟨P,j * 4 + 2,none⟩ (.int .i64 u)).setCell ⟨P,j * 4 + 3,none⟩ (.int .i64 v)).drew) ∧ Len c3 c''):=fun a b u v=>by
               obtain ⟨c'',h1,h2⟩:=X9.setPl (j * 4) a b u v
               exact ⟨c'',(HG9.out.trans h1).trans (Goes.keep h1.ctx ((Below.refl _ _).drew)),len_trans HNR.out h2⟩
              clear hV9 b9 X9 l9
              go_region_held3 (fun w'=>w'.cell? ⟨g,7,none⟩ = some (.slice (some ⟨P,0,none⟩) E.m E.m) ∧ w'.cell? ⟨gq,0,none⟩ = some (.int .i64 z0) ∧ w'.cell? ⟨gq,1,none⟩ = some (.int .i64 z1) ∧ w'.cell? ⟨gq,2,none⟩ = some (.int .i64 z2) ∧ w'.cell? ⟨gq,3,none⟩ = some (.int .i64 z3)) (go_keep) (fail)
              all_goals
               obtain ⟨c9,R1,R2⟩:=GP.out z0 z1 z2 z3
               clear d7 t0 t1 t2 t3 v0 v1 v2 v3 e0 e1 e2 e3 GP
               go_wp2
               go_roundw
               case rel=>exact ⟨j + 1,c9,by omega,by go_num,R1,R2⟩
               case measure=>simp [intOf];omega
             ·have bkd:(x6.kd != 2) = true:=by simp [hkd]
              clear hkd
              go_wp2_with fail
              generalize wrap64 (z0 + wrap64 (pa + ed)) = w0
              generalize wrap64 (z1 + wrap64 (pb + ed)) = w1'
              obtain ⟨V9,hV9⟩:∃ W,W = wr.alloc (.cells #[.int .i64 w0,.int .i64 w1',.int .i64 z2,.int .i64 z3] 35):=⟨_,rfl⟩
              have b9:Below wr.heap.size wr V9:=by rw [hV9];exact (Below.refl _ _).alloc (Nat.le_refl _) _
              have l9:V9.heap[wr.heap.size]? = some (.cells #[.int .i64 w0,.int .i64 w1',.int .i64 z2,.int .i64 z3] 35 (0,0)):=by rw [hV9];exact heap_at _ _ _ rfl
              have X9:=SDR.out.ctx.keep b9
              have HG9:Hid (Goes B g P E c3 V4 c' V9):=HGR.out.trans (Goes.keep SDR.out.ctx b9)
              rw [← hV9]
              have nPp:P ≠ wr.heap.size:=fun e=>by have:=lies_lt SDR.out.ctx.pl;omega
              have nPg:=X9.ne
              generalize wr.heap.size = gq at l9 nPp ⊢
              have npP:=Ne.symm nPp
              have ngP:=Ne.symm nPg
              obtain ⟨-,-,-,-,d7,-⟩:=X9.cells
              have t0:=X9.freeP (j * 4)
              have t1:=X9.freeP (j * 4 + 1)
              have t2:=X9.freeP (j * 4 + 2)
              have t3:=X9.freeP (j * 4 + 3)
              have v0:=X9.place (j * 4) (by omega)
              have v1:=X9.place (j * 4 + 1) (by omega)
              have v2:=X9.place (j * 4 + 2) (by omega)
              have v3:=X9.place (j * 4 + 3) (by omega)
              have e0:V9.cell? ⟨gq,0,none⟩ = some (.int .i64 w0):=(lies_cell l9 0).trans rfl
              have e1:V9.cell? ⟨gq,1,none⟩ = some (.int .i64 w1'):=(lies_cell l9 1).trans rfl
              have e2:V9.cell? ⟨gq,2,none⟩ = some (.int .i64 z2):=(lies_cell l9 2).trans rfl
              have e3:V9.cell? ⟨gq,3,none⟩ = some (.int .i64 z3):=(lies_cell l9 3).trans rfl
              have GP:Hid (∀ a b u v:Int,∃ c'',Goes B g P E c3 V4 c'' (((((V9.setCell ⟨P,j * 4,none⟩ (.int .i64 a)).setCell ⟨P,j * 4 + 1,none⟩ (.int .i64 b)).setCell ⟨P,j * 4 + 2,none⟩ (.int .i64 u)).setCell ⟨P,j * 4 + 3,none⟩ (.int .i64 v)).drew) ∧ Len c3 c''):=fun a b u v=>by
               obtain ⟨c'',h1,h2⟩:=X9.setPl (j * 4) a b u v
               exact ⟨c'',(HG9.out.trans h1).trans (Goes.keep h1.ctx ((Below.refl _ _).drew)),len_trans HNR.out h2⟩
              clear hV9 b9 X9 l9
              go_region_held3 (fun w'=>w'.cell? ⟨g,7,none⟩ = some (.slice (some ⟨P,0,none⟩) E.m E.m) ∧ w'.cell? ⟨gq,0,none⟩ = some (.int .i64 w0) ∧ w'.cell? ⟨gq,1,none⟩ = some (.int .i64 w1') ∧ w'.cell? ⟨gq,2,none⟩ = some (.int .i64 z2) ∧ w'.cell? ⟨gq,3,none⟩ = some (.int .i64 z3)) (go_keep) (fail)
              all_goals
               obtain ⟨c9,R1,R2⟩:=GP.out w0 w1' z2 z3
               clear d7 t0 t1 t2 t3 v0 v1 v2 v3 e0 e1 e2 e3 GP
               go_wp2
               go_roundw
               case rel=>exact ⟨j + 1,c9,by omega,by go_num,R1,R2⟩
               case measure=>simp [intOf];omega
          case rest =>
           obtain ⟨c',hG,hN⟩:=hcut
           have SDR:Hid (Sd E B g P q ga y.st aL aW aR B2 (B2 + 1) B2 ci c' wc):=SD4.out.goes hG
           have lpr:PlAt wc gp pa pb pu pv:=hG.other lp4 np4
           have npr:¬ c'.own g P gp:=hG.not_own (lies_lt lp4) np4
           have HGR:Hid (Goes B g P E c3 V4 c' wc):=hG
           have HNR:Hid (Len c3 c'):=hN
           clear hG hN i7
           have HGU:Hid (Goes B g P E c w c' wc):=HG4.out.trans HGR.out
           have HNU:Hid (c'.xs.length = c.xs.length ∧ c'.fs.length = c.fs.length + 1 ∧ c'.os.length = c.os.length):=by
            have h1:=HN4.out
            have h2:=HNR.out
            unfold Len at h2
            exact ⟨by omega,by omega,by omega⟩
           obtain ⟨U,hU⟩:∃ W,W = wc:=⟨_,rfl⟩
           subst hU
           clear HGR HNR HG4 HN4 SD4 lp4 np4
           obtain ⟨al5,cap5,hv5,-,hr5,hn5,hs5⟩:=OwnL.form SDR.out.inn.ol
           obtain ⟨N5,hN5⟩:∃ m,m = ci.xs.length:=⟨_,rfl⟩
           rw [← hN5] at hv5
           have HN5:Hid (N5 = ci.xs.length):=hN5
           have hN5L:N5 ≤ l:=by omega
           have i8:U.cell? ⟨B2 + 1,8,none⟩ = some (.slice al5 N5 cap5):=SDR.out.inn.cells.2.2.2.2.2.1.trans (by rw [hv5])
           have HR5:Hid (LnRow U al5 ci.xs ∧ ∀ b,al5 = some b → ∃ g5,b = ⟨g5,0,none⟩ ∧ g5 < U.heap.size ∧ ¬ c'.own g P g5):=⟨hr5,fun b hb=>by
            obtain ⟨g',h1,h2,h3,-⟩:=hs5 b hb
            exact ⟨g',h1,h3,SDR.out.ni g' (.inr (.inr (.inl (by rw [hv5,hb,h1];rfl))))⟩⟩
           have hL1:l ≤ 100000:=by have:=HSM.out.1;omega
           have hcl:c'.xs.length + l ≤ 100000:=by have:=HSM.out.1;have:=HNU.out.1;omega
           clear hr5 hn5 hs5 hN5 hv5 nxi nfi
           go_wp2_with fail
           go_loopw [310] (fun iv wr2=>∃ (j2:Nat) (c5:Cs),j2 ≤ N5 ∧ iv = .int .i64 j2 ∧ Goes B g P E c' U c5 wr2 ∧ c5.xs.length = c'.xs.length + j2 ∧ c5.fs.length = c'.fs.length ∧ c5.os.length = c'.os.length) (fun iv _=>N5 - (intOf iv).toNat)
           case atStart=>exact ⟨0,c',Nat.zero_le _,rfl,Goes.refl SDR.out.ctx,rfl,rfl,rfl⟩
           case round =>
            obtain ⟨j2,c5,hj2,rfl,hG5,nx5,nf5,no5⟩:=hrel
            by_cases hlt2:j2 < N5
            rotate_left
            ·have FIN:Hid (∃ c',Goes B g P E c w c' wr ∧ Grow c c' l (n + 1)):=⟨c5,HGU.out.trans hG5,by
              have h:=HNU.out
              unfold Grow
              omega⟩
             clear hG5 nx5 nf5 no5
             go_wp2_with fail
             exact bodyPost_end (results_none Tryz.results82 _ _ _) rfl ⟨rfl,FIN.out⟩
            obtain ⟨y5,hy5⟩:∃ y,ci.xs[j2]? = some y:=⟨_,List.getElem?_eq_getElem (by rw [← HN5.out];exact hlt2)⟩
            have hbx:=SDR.out.inn.lok y5 (List.mem_of_getElem? hy5)
            obtain ⟨g5,hal5,hg5b,n5,hc5⟩:∃ g5,al5 = some ⟨g5,0,none⟩ ∧ g5 < U.heap.size ∧ (¬ c'.own g P g5) ∧ U.rangeAt g5 (j2 * 6) (lnL y5):=by
             rcases HR5.out.1 with h0 | ⟨bb,off,hal,hc⟩
             ·rw [h0] at hy5;simp at hy5
             ·obtain ⟨g',h1,h2,h3⟩:=HR5.out.2 _ hal
              injection h1 with h4 h5
              subst h4 h5
              have:=hc j2 y5 hy5
              rw [Nat.zero_add] at this
              exact ⟨_,hal,h2,h3,this⟩
            have X6:=hG5.ctx
            have lg6:=lies_lt X6.lies
            have q0:wr.cell? ⟨g5,j2 * 6,none⟩ = some (.int .i64 y5.bx):=hG5.cell9 hg5b n5 (hc5 0 (.int .i64 y5.bx) rfl)
            have q1:wr.cell? ⟨g5,j2 * 6 + 1,none⟩ = some (.int .i64 y5.x):=hG5.cell9 hg5b n5 (hc5 1 (.int .i64 y5.x) rfl)
            have q2:wr.cell? ⟨g5,j2 * 6 + 2,none⟩ = some (.int .i64 y5.y):=hG5.cell9 hg5b n5 (hc5 2 (.int .i64 y5.y) rfl)
            have q3:wr.cell? ⟨g5,j2 * 6 + 3,none⟩ = some (.int .i64 y5.w):=hG5.cell9 hg5b n5 (hc5 3 (.int .i64 y5.w) rfl)
            have q4:wr.cell? ⟨g5,j2 * 6 + 4,none⟩ = some (.int .i64 y5.h):=hG5.cell9 hg5b n5 (hc5 4 (.int .i64 y5.h) rfl)
            have q5:wr.cell? ⟨g5,j2 * 6 + 5,none⟩ = some (.string y5.tx):=hG5.cell9 hg5b n5 (hc5 5 (.string y5.tx) rfl)
            have lpw:wr.heap[gp]? = some (.cells #[.int .i64 pa,.int .i64 pb,.int .i64 pu,.int .i64 pv] 35 (0,0)):=hG5.other lpr npr
            have r0:wr.cell? ⟨gp,0,none⟩ = some (.int .i64 pa):=(lies_cell lpw 0).trans rfl
            have r1:wr.cell? ⟨gp,1,none⟩ = some (.int .i64 pb):=(lies_cell lpw 1).trans rfl
            have lgp:gp < wr.heap.size:=lies_lt lpw
            subst hal5
            clear hc5 hy5 n5 lpw
            go_wp2_with fail
            generalize hu1:wrap64 (y5.x + wrap64 (pa + ed)) = yx
            generalize hu2:wrap64 (y5.y + wrap64 (pb + ed)) = yy
            obtain ⟨V9,hV9⟩:∃ W,W = wr.alloc (.cells #[.int .i64 y5.bx,.int .i64 yx,.int .i64 yy,.int .i64 y5.w,.int .i64 y5.h,.string y5.tx] 37):=⟨_,rfl⟩
            have b9:Below wr.heap.size wr V9:=by rw [hV9];exact (Below.refl _ _).alloc (Nat.le_refl _) _
            have l13:V9.heap[wr.heap.size]? = some (.cells #[.int .i64 y5.bx,.int .i64 yx,.int .i64 yy,.int .i64 y5.w,.int .i64 y5.h,.string y5.tx] 37 (0,0)):=by rw [hV9];exact heap_at _ _ _ rfl
            have X9:=X6.keep b9
            have HG9:Hid (Goes B g P E c' U c5 V9):=hG5.trans (Goes.keep X6 b9)
            rw [← hV9]
            generalize wr.heap.size = g13 at l13 ⊢
            obtain ⟨al,capl,hvl,-⟩:=OwnL.form X9.ol
            obtain ⟨nl,hnl⟩:∃ n,n = c5.xs.length:=⟨_,rfl⟩
            rw [← hnl] at hvl
            have HNL:Hid (nl = c5.xs.length):=hnl
            have hnlb:nl ≤ 200000:=by omega
            obtain ⟨-,-,-,-,-,c8v,-⟩:=X9.cells
            have c8:V9.cell? ⟨g,8,none⟩ = some (.slice al nl capl):=c8v.trans (by rw [hvl])
            clear c8v
            have f8:=X9.free 8
            have lgV:=lies_lt X9.lies
            have hBV:B ≤ V9.heap.size:=Nat.le_trans X9.hg (Nat.le_of_lt lgV)
            have e0:V9.cell? ⟨g13,0,none⟩ = some (.int .i64 y5.bx):=(lies_cell l13 0).trans rfl
            have e1:V9.cell? ⟨g13,1,none⟩ = some (.int .i64 yx):=(lies_cell l13 1).trans rfl
            have e2:V9.cell? ⟨g13,2,none⟩ = some (.int .i64 yy):=(lies_cell l13 2).trans rfl
            have e3:V9.cell? ⟨g13,3,none⟩ = some (.int .i64 y5.w):=(lies_cell l13 3).trans rfl
            have e4:V9.cell? ⟨g13,4,none⟩ = some (.int .i64 y5.h):=(lies_cell l13 4).trans rfl
            have e5:V9.cell? ⟨g13,5,none⟩ = some (.string y5.tx):=(lies_cell l13 5).trans rfl
            have l13t:=lies_lt l13
            obtain ⟨iL,hi0,hz0,hz1,hz2⟩:=info_parts infoLine
            have hOwn:V9.ownsRow B 37 6 (.slice al nl capl) nl (flatLn c5.xs):=by rw [← hvl,hnl];exact X9.ol
            have HOW:Hid (∀ W:World,W.heap = (V9.alloc (.cells #[.int .i64 y5.bx,.int .i64 yx,.int .i64 yy,.int .i64 y5.w,.int .i64 y5.h,.string y5.tx] 37)).heap → W.ownsRow B 37 6 (.slice al nl capl) nl (flatLn c5.xs)):=fun W hW=>by
             have h:=hOwn.alloc (.cells #[.int .i64 y5.bx,.int .i64 yx,.int .i64 yy,.int .i64 y5.w,.int .i64 y5.h,.string y5.tx] 37)
             refine ⟨h.1,?_⟩
             rcases h.2 with hn | ⟨gg,cc,cur,h1,h2,h3,rest⟩
             ·exact .inl hn
             ·exact .inr ⟨gg,cc,cur,h1,h2,by rw [hW];exact h3,rest⟩
            have HNW:Hid (∀ W:World,W.heap = (V9.alloc (.cells #[.int .i64 y5.bx,.int .i64 yx,.int .i64 yy,.int .i64 y5.w,.int .i64 y5.h,.string y5.tx] 37)).heap → ∀ j u,(lnL (⟨y5.bx,yx,yy,y5.w,y5.h,y5.tx⟩:Ln))[j]? = some u → W.cell? ((⟨V9.heap.size,0,none⟩:Addr).add j) = some u):=fun W hW=>World.news_of_block (cs:=#[.int .i64 y5.bx,.int .i64 yx,.int .i64 yy,.int .i64 y5.w,.int .i64 y5.h,.string y5.tx]) (t:=37) (fr:=(0,0)) (by rw [hW];exact heap_at _ _ _ rfl)
            have H1:Hid (∀ u ∈ lnL (⟨y5.bx,yx,yy,y5.w,y5.h,y5.tx⟩:Ln),u.oneCell' = true):=lnL_one _
            have neg:(Value.slice al nl capl).ownBlock ≠ some g:=own_ne hOwn X9.lies (by decide)
            have HLI:Hid (∀ W w3:World,W.grownBy w3 (Value.slice al nl capl).ownBlock → W.heap = (V9.alloc (.cells #[.int .i64 y5.bx,.int .i64 yx,.int .i64 yy,.int .i64 y5.w,.int .i64 y5.h,.string y5.tx] 37)).heap → w3.cell? ⟨g,8,none⟩ = some (.slice al nl capl) ∧ w3.frozen? ⟨g,8,none⟩ = false):=fun W w3 hg hW=>by
             have h:=X9.lies9 neg hg hW
             exact ⟨((lies_cell h 8).trans rfl:_ = some c5.vl).trans (by rw [hvl]),Lib.frozen_of_heap h 8⟩
            have HGG:Hid (∀ (W w3:World) (g9 cap9:Nat),W.grownBy w3 (Value.slice al nl capl).ownBlock → w3.ownsRow B 37 6 (.slice (some ⟨g9,0,none⟩) (nl + 1) cap9) (nl + 1) (flatLn c5.xs ++ lnL (⟨y5.bx,yx,yy,y5.w,y5.h,y5.tx⟩:Ln)) → ((Value.slice al nl capl).ownBlock = some g9 ∨ g9 = W.heap.size) → W.heap = (V9.alloc (.cells #[.int .i64 y5.bx,.int .i64 yx,.int .i64 yy,.int .i64 y5.w,.int .i64 y5.h,.string y5.tx] 37)).heap → W.os = V9.os → W.tape = V9.tape → W.output = V9.output → ∃ c6,Goes B g P E c' U c6 (w3.setCell ⟨g,8,none⟩ (.slice (some ⟨g9,0,none⟩) (nl + 1) cap9)) ∧ c6.xs.length = c5.xs.length + 1 ∧ c6.fs.length = c5.fs.length ∧ c6.os.length = c5.os.length):=fun W w3 g9 cap9 hg ho hat hW h1 h2 h3 =>
             ⟨_,HG9.out.trans (X9.putL9 (⟨y5.bx,yx,yy,y5.w,y5.h,y5.tx⟩:Ln) HNL.out hbx (by rw [hvl];exact hg) ho (by rw [hvl];exact hat) hW h1 h2 h3),by simp,rfl,rfl⟩
            have HNX:Hid (c5.xs.length = c'.xs.length + j2 ∧ c5.fs.length = c'.fs.length ∧ c5.os.length = c'.os.length):=⟨nx5,nf5,no5⟩
            have HJ2:Hid (j2 + 1 ≤ N5):=hlt2
            have hj9:j2 ≤ 100000:=by omega
            clear hV9 b9 X9 X6 hG5 hOwn neg hnl q0 q1 q2 q3 q4 q5 hvl l13 lg6 r0 r1 hu1 hu2 hbx nx5 nf5 no5 lgp hg5b hlt2 hj2 i8 hcl hL1 hN5L lpr npr k0 k1 hm80 hk
            rename_i QX KX aX
            have HAX:Hid (_):=aX
            clear aX
            go_region_law (refine step_append_lies _ (by rfl) _ _ _ (by rfl) B 37 iL _ 6 56 Tryz.underlying26 hi0 hz0 hz1 hz2 rfl (by omega) (.slice al nl capl) nl (flatLn c5.xs) (by rfl) (HOW.out _ rfl) ⟨V9.heap.size,0,none⟩ 1 1 (lnL (⟨y5.bx,yx,yy,y5.w,y5.h,y5.tx⟩:Ln)) (by rfl) (by rfl) (HNW.out _ rfl) H1.out (by omega) (by unfold maxLen;omega) (by omega) (by simp;omega) _ rfl ?_;intro g9 cap9 w3 hown3 hgrow3 hat3 hlt3;have p8:=(HLI.out _ w3 hgrow3 rfl).1;have r8:=(HLI.out _ w3 hgrow3 rfl).2;have GG:=HGG.out _ w3 g9 cap9 hgrow3 hown3 hat3 rfl rfl rfl rfl)
            all_goals
             obtain ⟨c6,G6,m1,m2,m3⟩:=GG
             have R:Hid (c6.xs.length = c'.xs.length + (j2 + 1) ∧ c6.fs.length = c'.fs.length ∧ c6.os.length = c'.os.length):=by have h:=HNX.out;exact ⟨by omega,by omega,by omega⟩
             have aX:=HAX.out
             clear m1 m2 m3 HAX p8 r8 hown3 hgrow3 hat3 hlt3 HOW HNW H1 HLI HGG e0 e1 e2 e3 e4 e5 c8 f8
             go_wp2
             go_roundw
             case rel=>exact ⟨j2 + 1,c6,HJ2.out,by go_num,G6,R.out.1,R.out.2.1,R.out.2.2⟩
             case measure=>have hj2:=HJ2.out;simp [intOf];omega
end Go.Proofs.YtjnmloaopnbpgaaGreatDoor
