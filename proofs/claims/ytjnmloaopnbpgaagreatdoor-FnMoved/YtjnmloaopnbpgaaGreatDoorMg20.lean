/-
 The model's layout of what is in a box.
-/
import Derived.Test.YtjnmloaopnbpgaaGreatDoorMg19
import Derived.Deep.RegionLawGrows
namespace Go.Proofs.YtjnmloaopnbpgaaGreatDoor
open Go.ChangeShapes Go.WideShapes Go.ChangeAt Go.RowKit
set_option linter.unusedVariables false
def sumT (f:Nat → Nat) (zs:List Int):Nat → Nat
 | 0=>0
 | j + 1=>sumT f zs j + f (zs.getD j 0).toNat
theorem sumT_mono (f : Nat → Nat) (zs : List Int) : ∀ {i j : Nat}, i ≤ j → sumT f zs i ≤ sumT f zs j
  | i, 0, h => by have : i = 0 := by omega
                  subst this; exact Nat.le_refl _
  | i, j + 1, h => by
    by_cases e : i = j + 1
    · subst e; exact Nat.le_refl _
    · have := sumT_mono f zs (show i ≤ j by omega)
      have e2 : sumT f zs (j + 1) = sumT f zs j + f (zs.getD j 0).toNat := rfl
      rw [e2]
      omega
theorem kids_mem (bs:List Bx) (k:Int):∀ (m j:Nat),j < (kidsTo bs k m).length → ∃ i:Nat,(kidsTo bs k m).getD j 0 = (i:Int) ∧ i < m ∧ upX bs i = k
 | 0,j,h=>by simp [kidsTo] at h
 | m + 1,j,h=>by
  unfold kidsTo at h ⊢
  by_cases hp:upX bs m = k
  ·rw [if_pos hp] at h ⊢
   rw [List.length_append,List.length_singleton] at h
   by_cases hi:j < (kidsTo bs k m).length
   ·obtain ⟨i,h1,h2,h3⟩:=kids_mem bs k m j hi
    refine ⟨i,?_,by omega,h3⟩
    rw [List.getD_eq_getElem?_getD,List.getElem?_append_left hi,← List.getD_eq_getElem?_getD]
    exact h1
   ·have e:j = (kidsTo bs k m).length:=by omega
    subst e
    exact ⟨m,by simp,by omega,hp⟩
  ·rw [if_neg hp] at h ⊢
   obtain ⟨i,h1,h2,h3⟩:=kids_mem bs k m j h
   exact ⟨i,h1,by omega,h3⟩
theorem own_at9 {w:World} {B:Nat} {v:Value} {zs:List Int} (h:OwnI w B v zs):∃ (a:Option Addr) (cap:Nat),v = .slice a zs.length cap ∧ ∀ j,j < zs.length → ∃ b,a = some ⟨b,0,none⟩ ∧ B ≤ b ∧ b < w.heap.size ∧ w.cell? ⟨b,j,none⟩ = some (.int .i64 (zs.getD j 0)):=by
 have h':w.ownsRow B 3 1 v zs.length (zs.map (Value.int .i64)):=h
 rcases h.2 with ⟨rfl,hn⟩ | ⟨g,cap,cur,rfl,hbg,hg,_,_,_,_⟩
 ·have e:zs = []:=List.eq_nil_of_length_eq_zero hn
  subst e
  exact ⟨none,0,rfl,fun j hj=>absurd hj (by simp)⟩
 ·refine ⟨some ⟨g,0,none⟩,cap,rfl,fun j hj=>⟨g,rfl,hbg,lies_lt hg,?_⟩⟩
  rw [h'.cellAt j (by omega),List.getElem?_map,List.getD_eq_getElem?_getD,List.getElem?_eq_getElem hj]
  rfl
theorem cell_blk {w w':World} {b o:Nat} (h:w'.heap[b]? = w.heap[b]?):w'.cell? ⟨b,o,none⟩ = w.cell? ⟨b,o,none⟩:=by simp [World.cell?,h]
theorem Goes.cell9 {B g P b o:Nat} {E:Le} {c c':Cs} {w w':World} {v:Value} (h:Goes B g P E c w c' w') (hb:b < w.heap.size) (hO:¬ c.own g P b) (hc:w.cell? ⟨b,o,none⟩ = some v):w'.cell? ⟨b,o,none⟩ = some v:=(cell_blk (h.mv.block b hb hO)).trans hc
theorem Grow.add {c c' c'':Cs} {l n l' n':Nat} (h:Grow c c' l n) (h':Grow c' c'' l' n'):Grow c c'' (l + l') (n + n'):=by
 unfold Grow at h h' ⊢
 omega
set_option maxRecDepth 1000000 in
set_option maxHeartbeats 20000000 in
theorem kids_of (E:Le) (hE:LeOk E) (L N:Nat → Nat) (k:Nat) (hk:k < E.m)
  (HB:∀ (i:Nat) (x:Bx),k < i → E.bs[i]? = some x → x.kd = 1 → LayOk E 36 (L i) (N i) i)
  (HF:∀ (i:Nat) (x:Bx),k < i → E.bs[i]? = some x → x.kd = 3 → LayOk E 82 (L i) (N i) i)
  (HL:∀ (i nd:Nat) (x:Bx) (y:Nd),E.bs[i]? = some x → x.kd ≠ 1 → x.kd ≠ 3 → x.nd = (nd:Int) → E.ns[nd]? = some y → nbN (softW y.st.wh) x.tx.data.toList ≤ L i) :
  LayOk E 60 (sumT L (kidsTo E.bs (k:Int) E.m) (kidsTo E.bs (k:Int) E.m).length) (sumT N (kidsTo E.bs (k:Int) E.m) (kidsTo E.bs (k:Int) E.m).length) k:=by
 intro B g P c left around w hctx hle hsm
 obtain ⟨-,-,-,-,-,c5,c6⟩:=hctx.reads
 have lg:g < w.heap.size:=lies_lt hctx.lies
 have hBg:B ≤ w.heap.size:=Nat.le_trans hctx.hg (Nat.le_of_lt lg)
 have KM:=kids_mem E.bs (k:Int) E.m
 have KL:=kids_len E.bs (k:Int) E.m
 have m80:=hE.m80
 have KI:=l5Kids_any (some ⟨E.xb,E.xoff,none⟩) E.m E.xcap E.bs (k:Int) w hE.m (.inr ⟨E.xb,E.xoff,rfl,hle.bxs⟩) (by omega)
 generalize kidsTo E.bs (k:Int) E.m = zs at KM KL KI hsm ⊢
 have HCT:Hid (Ctx w B g P E c):=hctx
 have HLE:Hid (LeAt w B E):=hle
 have HSM:Hid (Small c (sumT L zs zs.length) (sumT N zs zs.length)):=hsm
 have HKM:Hid (∀ j,j < zs.length → ∃ i:Nat,zs.getD j 0 = (i:Int) ∧ i < E.m ∧ upX E.bs i = (k:Int)):=KM
 clear hctx hle hsm KM
 go_enter Tryz.func60,Tryz.ntmps60
 go_wp2_with fail
 refine KI.mono ?_
 rintro e w1 ⟨v,rfl,ho,hb⟩
 obtain ⟨a,cap,rfl,hrow⟩:=own_at9 ho
 have G1:Hid (Goes B g P E c w c w1):=Goes.keep HCT.out hb
 have X1:Hid (Ctx w1 B g P E c):=HCT.out.keep hb
 have L1:Hid (LeAt w1 B E):=HLE.out.below (hb.mono hBg)
 have HROW:Hid (∀ j,j < zs.length → ∃ b,a = some ⟨b,0,none⟩ ∧ w.heap.size ≤ b ∧ b < w1.heap.size ∧ w1.cell? ⟨b,j,none⟩ = some (.int .i64 (zs.getD j 0))):=hrow
 obtain ⟨NK,hNK⟩:∃ n,n = zs.length:=⟨_,rfl⟩
 have HNK:Hid (NK = zs.length):=hNK
 rw [← hNK] at KL ⊢
 have hs1:=hb.size
 clear ho hb KI hrow hNK c5 c6
 go_wp2_with fail
 go_loopw [21] (fun iv wr=>∃ (j:Nat) (c':Cs),j ≤ NK ∧ iv = .int .i64 j ∧ Goes B g P E c w1 c' wr ∧ Grow c c' (sumT L zs j) (sumT N zs j)) (fun iv _=>NK - (intOf iv).toNat)
 case atStart=>exact ⟨0,c,Nat.zero_le _,rfl,Goes.refl X1.out,by simp [Grow,sumT]⟩
 case round =>
  obtain ⟨j,c',hj,rfl,hG,hgr⟩:=hrel
  by_cases hlt:j < NK
  rotate_left
  ·have e:j = NK:=by omega
   subst e
   have FIN:Hid (∃ c',Goes B g P E c w c' wr ∧ Grow c c' (sumT L zs zs.length) (sumT N zs zs.length)):=⟨c',G1.out.trans hG,by rw [← HNK.out];exact hgr⟩
   clear hG hgr
   go_wp2_with fail
   exact bodyPost_end (results_none Tryz.results60 _ _ _) rfl ⟨rfl,FIN.out⟩
  obtain ⟨b,hab,hwb,hb1,hcz⟩:=HROW.out j (by rw [← HNK.out];exact hlt)
  obtain ⟨i,hzi,him,hup⟩:=HKM.out j (by rw [← HNK.out];exact hlt)
  subst hab
  have nb:¬ c.own g P b:=fun h=>by have:=HCT.out.own_lt h;omega
  have hci:wr.cell? ⟨b,j,none⟩ = some (.int .i64 (i:Int)):=(hG.cell9 hb1 nb hcz).trans (by rw [hzi])
  obtain ⟨x,hx⟩:∃ x,E.bs[i]? = some x:=⟨_,List.getElem?_eq_getElem (by rw [← hE.m];exact him)⟩
  have hki:k < i:=by
   have h1:=(hE.up i x hx).2
   have h2:upX E.bs i = x.up:=upX_of hx
   omega
  have LR:LeAt wr B E:=L1.out.below (hG.below X1.out)
  have XR:=hG.ctx
  have kdc:wr.cell? ⟨E.xb,E.xoff + i * 4,none⟩ = some (.int .i64 x.kd):=LR.bxs i x hx 0 (.int .i64 x.kd) rfl
  obtain ⟨-,-,-,-,-,-,c6⟩:=XR.reads
  have i0:(0:Int) ≤ (i:Int):=by omega
  have i1:(i:Int) < (E.m:Int):=by omega
  have SUM:Hid (sumT L zs (j + 1) = sumT L zs j + L i ∧ sumT N zs (j + 1) = sumT N zs j + N i ∧ sumT L zs (j + 1) ≤ sumT L zs zs.length ∧ sumT N zs (j + 1) ≤ sumT N zs zs.length):=⟨by simp only [sumT];rw [hzi];rfl,by simp only [sumT];rw [hzi];rfl,sumT_mono L zs (by rw [← HNK.out];omega),sumT_mono N zs (by rw [← HNK.out];omega)⟩
  have SMI:Hid (Small c' (L i) (N i)):=by
   have h1:=HSM.out
   have h2:=hgr
   have h3:=SUM.out
   show Small c' (L i) (N i)
   unfold Small at h1 ⊢
   unfold Grow at h2
   omega
  have NXT:Hid (∀ (W:World) (c'':Cs),Goes B g P E c' wr c'' W → Grow c' c'' (L i) (N i) → Goes B g P E c w1 c'' W ∧ Grow c c'' (sumT L zs (j + 1)) (sumT N zs (j + 1))):=fun W c'' h1 h2=>⟨hG.trans h1,by rw [SUM.out.1,SUM.out.2.1];exact hgr.add h2⟩
  have HXR:Hid (Ctx wr B g P E c'):=XR
  have HLR:Hid (LeAt wr B E):=LR
  have HX:Hid (E.bs[i]? = some x):=hx
  clear hG hgr hzi hup hx XR LR hcz nb
  by_cases h1:x.kd = 1
  ·rw [h1] at kdc
   have BC:=HB i x hki HX.out h1 B g P c' left around wr HXR.out HLR.out SMI.out
   clear h1
   go_wp2_with fail
   refine BC.mono ?_
   rintro e W2 ⟨rfl,c'',G2,gr2⟩
   obtain ⟨R1,R2⟩:=NXT.out _ _ G2 gr2
   clear BC G2 gr2 kdc c6 hci
   go_wp2
   go_roundw
   case rel=>exact ⟨j + 1,c'',by omega,by go_num,R1,R2⟩
   case measure=>simp [intOf];omega
  have n1:(x.kd == 1) = false:=by simpa using h1
  by_cases h3:x.kd = 3
  ·rw [h3] at kdc
   have BC:=HF i x hki HX.out h3 B g P c' left around wr HXR.out HLR.out SMI.out
   clear h3 h1 n1
   go_wp2_with fail
   refine BC.mono ?_
   rintro e W2 ⟨rfl,c'',G2,gr2⟩
   obtain ⟨R1,R2⟩:=NXT.out _ _ G2 gr2
   clear BC G2 gr2 kdc c6 hci
   go_wp2
   go_roundw
   case rel=>exact ⟨j + 1,c'',by omega,by go_num,R1,R2⟩
   case measure=>simp [intOf];omega
  have n3:(x.kd == 3) = false:=by simpa using h3
  obtain ⟨nd,hnd,hnn⟩:=hE.nd i x HX.out
  obtain ⟨yn,hyn⟩:∃ y,E.ns[nd]? = some y:=⟨_,List.getElem?_eq_getElem (by rw [← hE.n];exact hnn)⟩
  have hnbL:=HL i nd x yn HX.out h1 h3 hnd hyn
  have SE:=settle_ctx _ HXR.out (by have:=SMI.out.2.2;omega)
  go_wp2_with fail
  refine SE.mono ?_
  rintro e W4 ⟨rfl,y4,ps4,G4⟩
  have X4:=G4.ctx
  have HG4:Hid (Goes B g P E c' wr { c' with y:=y4,up:=0,dn:=0,os:=[],vo:=.slice none 0 0,ps:=ps4 } W4):=G4
  have L4:LeAt W4 B E:=HLR.out.below (G4.below HXR.out)
  obtain ⟨c10,-,-,-,-,c8,c9,-⟩:=X4.cells
  obtain ⟨r0,r1,r2,r3,r4,c5,c6'⟩:=X4.reads
  obtain ⟨af,capf,hvf,-,hrf,-⟩:=OwnA.form X4.of
  have hvf':c'.vf = .slice af c'.fs.length capf:=hvf
  have hrf:AsRow W4 af c'.fs:=hrf
  obtain ⟨nf,hnf⟩:∃ n,n = c'.fs.length:=⟨_,rfl⟩
  have c9x:=c9
  clear c9
  have c9:W4.cell? ⟨g,9,none⟩ = some (.slice af nf capf):=c9x.trans (by rw [hnf,← hvf'])
  clear c9x
  have HNF:Hid (nf = c'.fs.length):=hnf
  clear hnf
  have hst:W4.rangeAt E.nb (E.noff + nd * 28 + 2) (stCells yn.st).toList:=L4.style hyn
  have hbi:W4.cell? ⟨E.xb,E.xoff + i * 4 + 1,none⟩ = some (.int .i64 (nd:Int)):=(L4.bxs i x HX.out 1 (.int .i64 x.nd) rfl).trans (by rw [hnd])
  have hbt:W4.cell? ⟨E.xb,E.xoff + i * 4 + 3,none⟩ = some (.string x.tx):=L4.bxs i x HX.out 3 (.string x.tx) rfl
  have hfont:W4.rangeAt g 0 [.int .i64 E.fa,.int .i64 E.fd,.int .i64 E.fn,.int .i64 E.fu,.int .i64 E.fb]:=range9 X4.lies 0 rfl
  have lg4:g < W4.heap.size:=lies_lt X4.lies
  have hB4:B ≤ W4.heap.size:=Nat.le_trans X4.hg (Nat.le_of_lt lg4)
  have lxb:E.xb < W4.heap.size:=Nat.lt_of_lt_of_le L4.xlt hB4
  have lnb:E.nb < W4.heap.size:=Nat.lt_of_lt_of_le L4.nlt hB4
  have nd0:(0:Int) ≤ (nd:Int):=by omega
  have nd1:(nd:Int) < (E.n:Int):=by omega
  have LN:=fun y l r W (hr:AsRow W af c'.fs)=>lines_any E.fa E.fd E.fn E.fu E.fb yn.st x.tx af nf capf c'.fs y l r W HNF.out hr (by have:=SMI.out.2.1;have:=HNF.out;omega) (hE.tx i x HX.out) hE.font
  have c6:=c6'
  clear SE h1 h3 n1 n3 kdc c6' r0 r1 r2 r3 r4 hvf hvf' G4
  have lgold:=lg
  have lg:=lg4
  go_wp2_with fail
  refine wp_region_held_drew (S:=fun W=>Below W4.heap.size W4 W) (by kernel_rfl) ((Below.refl _ _).drew) (fun hHeld=>?_)
  refine wpAnyH_take (i:=0) (oi:=⟨some 36,Op.move (.tmp 0),88,"l9_page.go:59",#[],none⟩) (v:=.pointer (some ⟨g,0,none⟩)) rfl (by kernel_rfl) (by kernel_rfl) (by kernel_rfl) (fun _ _ _ h=>h) (Or.inl ⟨by rfl,by intro wz hSw;go_simp⟩) hHeld ?_
  simp only [Act.put,List.setIfInBounds_toArray,List.set_cons_zero,List.set_cons_succ]
  refine wpAnyH_take (i:=1) (oi:=⟨some 37,Op.nilCheck (.tmp 36),0,"l9_page.go:59",#[⟨0,.data⟩],none⟩) (v:=.pointer (some ⟨g,0,none⟩)) rfl (by kernel_rfl) (by kernel_rfl) (by kernel_rfl) (fun _ _ _ h=>h) (Or.inl ⟨by rfl,by intro wz hSw;go_simp⟩) hHeld ?_
  simp only [Act.put,List.setIfInBounds_toArray,List.set_cons_zero,List.set_cons_succ]
  refine wpAnyH_take (i:=2) (oi:=⟨some 38,Op.fieldAddr 90 (.tmp 37) 0,0,"l9_page.go:59",#[⟨1,.data⟩],none⟩) (v:=.pointer (some ⟨g,0,none⟩)) rfl (by kernel_rfl) (by kernel_rfl) (by kernel_rfl) (fun _ _ _ h=>h) (Or.inl ⟨by rfl,by intro wz hSw;go_simp⟩) hHeld ?_
  simp only [Act.put,List.setIfInBounds_toArray,List.set_cons_zero,List.set_cons_succ]
  refine wpAnyH_take (i:=3) (oi:=⟨some 39,Op.load 48 (.tmp 38),48,"l9_page.go:59",#[⟨2,.data⟩],none⟩) (v:=.agg (#[.int .i64 E.fa,.int .i64 E.fd,.int .i64 E.fn,.int .i64 E.fu,.int .i64 E.fb])) rfl (by kernel_rfl) (by kernel_rfl) (by kernel_rfl) (fun _ _ _ h=>h) (yieldsIf_load_mid (by rfl) 48 _ rfl (g) (0) rfl ([.int .i64 E.fa,.int .i64 E.fd,.int .i64 E.fn,.int .i64 E.fu,.int .i64 E.fb]) _ (fun wz hw=>fun j u hu=>(hw.cell (p:=⟨g,0 + j,none⟩) (lg)).trans (hfont j u hu)) Tryz.underlying48 rfl (by kernel_rfl)) hHeld ?_
  simp only [Act.put,List.setIfInBounds_toArray,List.set_cons_zero,List.set_cons_succ]
  refine wpAnyH_take (i:=4) (oi:=⟨some 40,Op.move (.tmp 0),88,"l9_page.go:59",#[],none⟩) (v:=.pointer (some ⟨g,0,none⟩)) rfl (by kernel_rfl) (by kernel_rfl) (by kernel_rfl) (fun _ _ _ h=>h) (Or.inl ⟨by rfl,by intro wz hSw;go_simp⟩) hHeld ?_
  simp only [Act.put,List.setIfInBounds_toArray,List.set_cons_zero,List.set_cons_succ]
  refine wpAnyH_take (i:=5) (oi:=⟨some 41,Op.nilCheck (.tmp 40),0,"l9_page.go:59",#[⟨4,.data⟩],none⟩) (v:=.pointer (some ⟨g,0,none⟩)) rfl (by kernel_rfl) (by kernel_rfl) (by kernel_rfl) (fun _ _ _ h=>h) (Or.inl ⟨by rfl,by intro wz hSw;go_simp⟩) hHeld ?_
  simp only [Act.put,List.setIfInBounds_toArray,List.set_cons_zero,List.set_cons_succ]
  refine wpAnyH_take (i:=6) (oi:=⟨some 42,Op.fieldAddr 90 (.tmp 41) 1,0,"l9_page.go:59",#[⟨5,.data⟩],none⟩) (v:=.pointer (some ⟨g,5,none⟩)) rfl (by kernel_rfl) (by kernel_rfl) (by kernel_rfl) (fun _ _ _ h=>h) (Or.inl ⟨by rfl,by intro wz hSw;go_simp⟩) hHeld ?_
  simp only [Act.put,List.setIfInBounds_toArray,List.set_cons_zero,List.set_cons_succ]
  refine wpAnyH_take (i:=7) (oi:=⟨some 43,Op.load 23 (.tmp 42),23,"l9_page.go:59",#[⟨6,.data⟩],none⟩) (v:=.slice (some ⟨E.nb,E.noff,none⟩) E.n E.ncap) rfl (by kernel_rfl) (by kernel_rfl) (by kernel_rfl) (fun _ _ _ h=>h) (Or.inl ⟨by rfl,by intro wz hSw;have hq:wz.cell? ⟨g,5,none⟩ = some (.slice (some ⟨E.nb,E.noff,none⟩) E.n E.ncap):=(hSw.cell (p:=⟨g,5,none⟩) (lg)).trans c5;clear hSw;go_simp⟩) hHeld ?_
  simp only [Act.put,List.setIfInBounds_toArray,List.set_cons_zero,List.set_cons_succ]
  refine wpAnyH_take (i:=8) (oi:=⟨some 44,Op.move (.tmp 0),88,"l9_page.go:59",#[],none⟩) (v:=.pointer (some ⟨g,0,none⟩)) rfl (by kernel_rfl) (by kernel_rfl) (by kernel_rfl) (fun _ _ _ h=>h) (Or.inl ⟨by rfl,by intro wz hSw;go_simp⟩) hHeld ?_
  simp only [Act.put,List.setIfInBounds_toArray,List.set_cons_zero,List.set_cons_succ]
  refine wpAnyH_take (i:=9) (oi:=⟨some 45,Op.nilCheck (.tmp 44),0,"l9_page.go:59",#[⟨8,.data⟩],none⟩) (v:=.pointer (some ⟨g,0,none⟩)) rfl (by kernel_rfl) (by kernel_rfl) (by kernel_rfl) (fun _ _ _ h=>h) (Or.inl ⟨by rfl,by intro wz hSw;go_simp⟩) hHeld ?_
  simp only [Act.put,List.setIfInBounds_toArray,List.set_cons_zero,List.set_cons_succ]
  refine wpAnyH_take (i:=10) (oi:=⟨some 46,Op.fieldAddr 90 (.tmp 45) 2,0,"l9_page.go:59",#[⟨9,.data⟩],none⟩) (v:=.pointer (some ⟨g,6,none⟩)) rfl (by kernel_rfl) (by kernel_rfl) (by kernel_rfl) (fun _ _ _ h=>h) (Or.inl ⟨by rfl,by intro wz hSw;go_simp⟩) hHeld ?_
  simp only [Act.put,List.setIfInBounds_toArray,List.set_cons_zero,List.set_cons_succ]
  refine wpAnyH_take (i:=11) (oi:=⟨some 47,Op.load 24 (.tmp 46),24,"l9_page.go:59",#[⟨10,.data⟩],none⟩) (v:=.slice (some ⟨E.xb,E.xoff,none⟩) E.m E.xcap) rfl (by kernel_rfl) (by kernel_rfl) (by kernel_rfl) (fun _ _ _ h=>h) (Or.inl ⟨by rfl,by intro wz hSw;have hq:wz.cell? ⟨g,6,none⟩ = some (.slice (some ⟨E.xb,E.xoff,none⟩) E.m E.xcap):=(hSw.cell (p:=⟨g,6,none⟩) (lg)).trans c6;clear hSw;go_simp⟩) hHeld ?_
  simp only [Act.put,List.setIfInBounds_toArray,List.set_cons_zero,List.set_cons_succ]
  refine wpAnyH_take (i:=12) (oi:=⟨some 48,Op.move (.tmp 9),3,"l9_page.go:59",#[],none⟩) (v:=.int .i64 (i:Int)) rfl (by kernel_rfl) (by kernel_rfl) (by kernel_rfl) (fun _ _ _ h=>h) (Or.inl ⟨by rfl,by intro wz hSw;go_simp⟩) hHeld ?_
  simp only [Act.put,List.setIfInBounds_toArray,List.set_cons_zero,List.set_cons_succ]
  refine wpAnyH_take (i:=13) (oi:=⟨some 49,Op.indexAddr 24 (.tmp 47) (.tmp 48),0,"l9_page.go:59",#[⟨11,.data⟩,⟨12,.data⟩],none⟩) (v:=.pointer (some ⟨E.xb,E.xoff + i * 4,none⟩)) rfl (by kernel_rfl) (by kernel_rfl) (by kernel_rfl) (fun _ _ _ h=>h) (Or.inl ⟨by rfl,by intro wz hSw;go_simp⟩) hHeld ?_
  simp only [Act.put,List.setIfInBounds_toArray,List.set_cons_zero,List.set_cons_succ]
  refine wpAnyH_take (i:=14) (oi:=⟨some 50,Op.fieldAddr 41 (.tmp 49) 1,0,"l9_page.go:59",#[⟨13,.data⟩],none⟩) (v:=.pointer (some ⟨E.xb,E.xoff + i * 4 + 1,none⟩)) rfl (by kernel_rfl) (by kernel_rfl) (by kernel_rfl) (fun _ _ _ h=>h) (Or.inl ⟨by rfl,by intro wz hSw;go_simp⟩) hHeld ?_
  simp only [Act.put,List.setIfInBounds_toArray,List.set_cons_zero,List.set_cons_succ]
  refine wpAnyH_take (i:=15) (oi:=⟨some 51,Op.load 3 (.tmp 50),3,"l9_page.go:59",#[⟨14,.data⟩],none⟩) (v:=.int .i64 (nd:Int)) rfl (by kernel_rfl) (by kernel_rfl) (by kernel_rfl) (fun _ _ _ h=>h) (Or.inl ⟨by rfl,by intro wz hSw;have hq:wz.cell? ⟨E.xb,E.xoff + i * 4 + 1,none⟩ = some (.int .i64 (nd:Int)):=(hSw.cell (p:=⟨E.xb,E.xoff + i * 4 + 1,none⟩) (lxb)).trans hbi;clear hSw;go_simp⟩) hHeld ?_
  simp only [Act.put,List.setIfInBounds_toArray,List.set_cons_zero,List.set_cons_succ]
  refine wpAnyH_take (i:=16) (oi:=⟨some 52,Op.indexAddr 23 (.tmp 43) (.tmp 51),0,"l9_page.go:59",#[⟨7,.data⟩,⟨15,.data⟩],none⟩) (v:=.pointer (some ⟨E.nb,E.noff + nd * 28,none⟩)) rfl (by kernel_rfl) (by kernel_rfl) (by kernel_rfl) (fun _ _ _ h=>h) (Or.inl ⟨by rfl,by intro wz hSw;go_simp⟩) hHeld ?_
  simp only [Act.put,List.setIfInBounds_toArray,List.set_cons_zero,List.set_cons_succ]
  refine wpAnyH_take (i:=17) (oi:=⟨some 53,Op.fieldAddr 75 (.tmp 52) 2,0,"l9_page.go:59",#[⟨16,.data⟩],none⟩) (v:=.pointer (some ⟨E.nb,E.noff + nd * 28 + 2,none⟩)) rfl (by kernel_rfl) (by kernel_rfl) (by kernel_rfl) (fun _ _ _ h=>h) (Or.inl ⟨by rfl,by intro wz hSw;go_simp⟩) hHeld ?_
  simp only [Act.put,List.setIfInBounds_toArray,List.set_cons_zero,List.set_cons_succ]
  refine wpAnyH_take (i:=18) (oi:=⟨some 54,Op.load 73 (.tmp 53),73,"l9_page.go:59",#[⟨17,.data⟩],none⟩) (v:=.agg (stCells yn.st)) rfl (by kernel_rfl) (by kernel_rfl) (by kernel_rfl) (fun _ _ _ h=>h) (yieldsIf_load_mid (by rfl) 73 _ rfl (E.nb) (E.noff + nd * 28 + 2) rfl ((stCells yn.st).toList) _ (fun wz hw=>fun j u hu=>(hw.cell (p:=⟨E.nb,E.noff + nd * 28 + 2 + j,none⟩) (lnb)).trans (hst j u hu)) Tryz.underlying73 rfl (by kernel_rfl)) hHeld ?_
  simp only [Act.put,List.setIfInBounds_toArray,List.set_cons_zero,List.set_cons_succ]
  refine wpAnyH_take (i:=19) (oi:=⟨some 55,Op.move (.tmp 0),88,"l9_page.go:59",#[],none⟩) (v:=.pointer (some ⟨g,0,none⟩)) rfl (by kernel_rfl) (by kernel_rfl) (by kernel_rfl) (fun _ _ _ h=>h) (Or.inl ⟨by rfl,by intro wz hSw;go_simp⟩) hHeld ?_
  simp only [Act.put,List.setIfInBounds_toArray,List.set_cons_zero,List.set_cons_succ]
  refine wpAnyH_take (i:=20) (oi:=⟨some 56,Op.nilCheck (.tmp 55),0,"l9_page.go:59",#[⟨19,.data⟩],none⟩) (v:=.pointer (some ⟨g,0,none⟩)) rfl (by kernel_rfl) (by kernel_rfl) (by kernel_rfl) (fun _ _ _ h=>h) (Or.inl ⟨by rfl,by intro wz hSw;go_simp⟩) hHeld ?_
  simp only [Act.put,List.setIfInBounds_toArray,List.set_cons_zero,List.set_cons_succ]
  refine wpAnyH_take (i:=21) (oi:=⟨some 57,Op.fieldAddr 90 (.tmp 56) 2,0,"l9_page.go:59",#[⟨20,.data⟩],none⟩) (v:=.pointer (some ⟨g,6,none⟩)) rfl (by kernel_rfl) (by kernel_rfl) (by kernel_rfl) (fun _ _ _ h=>h) (Or.inl ⟨by rfl,by intro wz hSw;go_simp⟩) hHeld ?_
  simp only [Act.put,List.setIfInBounds_toArray,List.set_cons_zero,List.set_cons_succ]
  refine wpAnyH_take (i:=22) (oi:=⟨some 58,Op.load 24 (.tmp 57),24,"l9_page.go:59",#[⟨21,.data⟩],none⟩) (v:=.slice (some ⟨E.xb,E.xoff,none⟩) E.m E.xcap) rfl (by kernel_rfl) (by kernel_rfl) (by kernel_rfl) (fun _ _ _ h=>h) (Or.inl ⟨by rfl,by intro wz hSw;have hq:wz.cell? ⟨g,6,none⟩ = some (.slice (some ⟨E.xb,E.xoff,none⟩) E.m E.xcap):=(hSw.cell (p:=⟨g,6,none⟩) (lg)).trans c6;clear hSw;go_simp⟩) hHeld ?_
  simp only [Act.put,List.setIfInBounds_toArray,List.set_cons_zero,List.set_cons_succ]
  refine wpAnyH_take (i:=23) (oi:=⟨some 59,Op.move (.tmp 9),3,"l9_page.go:59",#[],none⟩) (v:=.int .i64 (i:Int)) rfl (by kernel_rfl) (by kernel_rfl) (by kernel_rfl) (fun _ _ _ h=>h) (Or.inl ⟨by rfl,by intro wz hSw;go_simp⟩) hHeld ?_
  simp only [Act.put,List.setIfInBounds_toArray,List.set_cons_zero,List.set_cons_succ]
  refine wpAnyH_take (i:=24) (oi:=⟨some 60,Op.indexAddr 24 (.tmp 58) (.tmp 59),0,"l9_page.go:59",#[⟨22,.data⟩,⟨23,.data⟩],none⟩) (v:=.pointer (some ⟨E.xb,E.xoff + i * 4,none⟩)) rfl (by kernel_rfl) (by kernel_rfl) (by kernel_rfl) (fun _ _ _ h=>h) (Or.inl ⟨by rfl,by intro wz hSw;go_simp⟩) hHeld ?_
  simp only [Act.put,List.setIfInBounds_toArray,List.set_cons_zero,List.set_cons_succ]
  refine wpAnyH_take (i:=25) (oi:=⟨some 61,Op.fieldAddr 41 (.tmp 60) 3,0,"l9_page.go:59",#[⟨24,.data⟩],none⟩) (v:=.pointer (some ⟨E.xb,E.xoff + i * 4 + 3,none⟩)) rfl (by kernel_rfl) (by kernel_rfl) (by kernel_rfl) (fun _ _ _ h=>h) (Or.inl ⟨by rfl,by intro wz hSw;go_simp⟩) hHeld ?_
  simp only [Act.put,List.setIfInBounds_toArray,List.set_cons_zero,List.set_cons_succ]
  refine wpAnyH_take (i:=26) (oi:=⟨some 62,Op.load 9 (.tmp 61),9,"l9_page.go:59",#[⟨25,.data⟩],none⟩) (v:=.string x.tx) rfl (by kernel_rfl) (by kernel_rfl) (by kernel_rfl) (fun _ _ _ h=>h) (Or.inl ⟨by rfl,by intro wz hSw;have hq:wz.cell? ⟨E.xb,E.xoff + i * 4 + 3,none⟩ = some (.string x.tx):=(hSw.cell (p:=⟨E.xb,E.xoff + i * 4 + 3,none⟩) (lxb)).trans hbt;clear hSw;go_simp⟩) hHeld ?_
  simp only [Act.put,List.setIfInBounds_toArray,List.set_cons_zero,List.set_cons_succ]
  refine wpAnyH_take (i:=27) (oi:=⟨some 63,Op.move (.tmp 0),88,"l9_page.go:59",#[],none⟩) (v:=.pointer (some ⟨g,0,none⟩)) rfl (by kernel_rfl) (by kernel_rfl) (by kernel_rfl) (fun _ _ _ h=>h) (Or.inl ⟨by rfl,by intro wz hSw;go_simp⟩) hHeld ?_
  simp only [Act.put,List.setIfInBounds_toArray,List.set_cons_zero,List.set_cons_succ]
  refine wpAnyH_take (i:=28) (oi:=⟨some 64,Op.nilCheck (.tmp 63),0,"l9_page.go:59",#[⟨27,.data⟩],none⟩) (v:=.pointer (some ⟨g,0,none⟩)) rfl (by kernel_rfl) (by kernel_rfl) (by kernel_rfl) (fun _ _ _ h=>h) (Or.inl ⟨by rfl,by intro wz hSw;go_simp⟩) hHeld ?_
  simp only [Act.put,List.setIfInBounds_toArray,List.set_cons_zero,List.set_cons_succ]
  refine wpAnyH_take (i:=29) (oi:=⟨some 65,Op.fieldAddr 90 (.tmp 64) 5,0,"l9_page.go:59",#[⟨28,.data⟩],none⟩) (v:=.pointer (some ⟨g,9,none⟩)) rfl (by kernel_rfl) (by kernel_rfl) (by kernel_rfl) (fun _ _ _ h=>h) (Or.inl ⟨by rfl,by intro wz hSw;go_simp⟩) hHeld ?_
  simp only [Act.put,List.setIfInBounds_toArray,List.set_cons_zero,List.set_cons_succ]
  refine wpAnyH_take (i:=30) (oi:=⟨some 66,Op.load 27 (.tmp 65),27,"l9_page.go:59",#[⟨29,.data⟩],none⟩) (v:=.slice af nf capf) rfl (by kernel_rfl) (by kernel_rfl) (by kernel_rfl) (fun _ _ _ h=>h) (Or.inl ⟨by rfl,by intro wz hSw;have hq:wz.cell? ⟨g,9,none⟩ = some (.slice af nf capf):=(hSw.cell (p:=⟨g,9,none⟩) (lg)).trans c9;clear hSw;go_simp⟩) hHeld ?_
  simp only [Act.put,List.setIfInBounds_toArray,List.set_cons_zero,List.set_cons_succ]
  refine wpAnyH_take (i:=31) (oi:=⟨some 67,Op.move (.tmp 0),88,"l9_page.go:59",#[],none⟩) (v:=.pointer (some ⟨g,0,none⟩)) rfl (by kernel_rfl) (by kernel_rfl) (by kernel_rfl) (fun _ _ _ h=>h) (Or.inl ⟨by rfl,by intro wz hSw;go_simp⟩) hHeld ?_
  simp only [Act.put,List.setIfInBounds_toArray,List.set_cons_zero,List.set_cons_succ]
  refine wpAnyH_take (i:=32) (oi:=⟨some 68,Op.nilCheck (.tmp 67),0,"l9_page.go:59",#[⟨31,.data⟩],none⟩) (v:=.pointer (some ⟨g,0,none⟩)) rfl (by kernel_rfl) (by kernel_rfl) (by kernel_rfl) (fun _ _ _ h=>h) (Or.inl ⟨by rfl,by intro wz hSw;go_simp⟩) hHeld ?_
  simp only [Act.put,List.setIfInBounds_toArray,List.set_cons_zero,List.set_cons_succ]
  refine wpAnyH_take (i:=33) (oi:=⟨some 69,Op.fieldAddr 90 (.tmp 68) 6,0,"l9_page.go:59",#[⟨32,.data⟩],none⟩) (v:=.pointer (some ⟨g,10,none⟩)) rfl (by kernel_rfl) (by kernel_rfl) (by kernel_rfl) (fun _ _ _ h=>h) (Or.inl ⟨by rfl,by intro wz hSw;go_simp⟩) hHeld ?_
  simp only [Act.put,List.setIfInBounds_toArray,List.set_cons_zero,List.set_cons_succ]
  refine wpAnyH_take (i:=34) (oi:=⟨some 70,Op.load 3 (.tmp 69),3,"l9_page.go:59",#[⟨33,.data⟩],none⟩) (v:=.int .i64 y4) rfl (by kernel_rfl) (by kernel_rfl) (by kernel_rfl) (fun _ _ _ h=>h) (Or.inl ⟨by rfl,by intro wz hSw;have hq:wz.cell? ⟨g,10,none⟩ = some (.int .i64 y4):=(hSw.cell (p:=⟨g,10,none⟩) (lg)).trans c10;clear hSw;go_simp⟩) hHeld ?_
  simp only [Act.put,List.setIfInBounds_toArray,List.set_cons_zero,List.set_cons_succ]
  refine wpAnyH_take (i:=35) (oi:=⟨some 71,Op.move (.tmp 2),3,"l9_page.go:59",#[],none⟩) (v:=.int .i64 left) rfl (by kernel_rfl) (by kernel_rfl) (by kernel_rfl) (fun _ _ _ h=>h) (Or.inl ⟨by rfl,by intro wz hSw;go_simp⟩) hHeld ?_
  simp only [Act.put,List.setIfInBounds_toArray,List.set_cons_zero,List.set_cons_succ]
  refine wpAnyH_take (i:=36) (oi:=⟨some 72,Op.move (.tmp 2),3,"l9_page.go:59",#[],none⟩) (v:=.int .i64 left) rfl (by kernel_rfl) (by kernel_rfl) (by kernel_rfl) (fun _ _ _ h=>h) (Or.inl ⟨by rfl,by intro wz hSw;go_simp⟩) hHeld ?_
  simp only [Act.put,List.setIfInBounds_toArray,List.set_cons_zero,List.set_cons_succ]
  refine wpAnyH_take (i:=37) (oi:=⟨some 73,Op.move (.tmp 3),3,"l9_page.go:59",#[],none⟩) (v:=.int .i64 around) rfl (by kernel_rfl) (by kernel_rfl) (by kernel_rfl) (fun _ _ _ h=>h) (Or.inl ⟨by rfl,by intro wz hSw;go_simp⟩) hHeld ?_
  simp only [Act.put,List.setIfInBounds_toArray,List.set_cons_zero,List.set_cons_succ]
  refine wpAnyH_take (i:=38) (oi:=⟨some 74,Op.binOp BinOp.add 3 (.tmp 72) (.tmp 73) 3,3,"l9_page.go:59",#[⟨36,.data⟩,⟨37,.data⟩],none⟩) (v:=.int .i64 (IntKind.i64.wrap (left + around))) rfl (by kernel_rfl) (by kernel_rfl) (by kernel_rfl) (fun _ _ _ h=>h) (Or.inl ⟨by rfl,by intro wz hSw;go_simp⟩) hHeld ?_
  simp only [Act.put,List.setIfInBounds_toArray,List.set_cons_zero,List.set_cons_succ]
  refine wpAnyH_ready (rs:=[39]) (by kernel_rfl) (by simp) ?_
  refine AllReadyH.cons (o:=⟨some 75,Op.call { callee:=Callee.value (Operand.func 83),args:=#[.tmp 39,.tmp 54,.tmp 62,.tmp 66,.tmp 70,.tmp 71,.tmp 74],argTypes:=#[48,73,9,27,3,3,3] },132,"l9_page.go:59",#[⟨3,.data⟩,⟨18,.data⟩,⟨26,.data⟩,⟨30,.data⟩,⟨34,.data⟩,⟨35,.data⟩,⟨38,.data⟩],none⟩) rfl (fun K hK=>?_) AllReadyH.nil
  go_simp
  refine (LN _ _ _ _ (hrf.below hHeld)).mono ?_
  rintro e W5 ⟨⟨v5,xs5,z5,rfl,own5,hx5,hxt5⟩,hb5⟩
  go_wp2_with fail
  refine hK.out _ _ (hHeld.trans (hb5.mono hHeld.size)) (fun hHeld'=>?_)
  clear hK K
  try simp only [Act.put,List.setIfInBounds_toArray,List.set_cons_zero,List.set_cons_succ]
  refine wpAnyH_take (i:=40) (oi:=⟨some 35,Op.move (.tmp 75),132,"l9_page.go:59",#[⟨39,.data⟩],none⟩) (v:=.tuple #[v5,.int .i64 z5]) rfl (by kernel_rfl) (by kernel_rfl) (by kernel_rfl) (fun _ _ _ h=>h) (Or.inl ⟨by rfl,by intro wz hSw;go_simp⟩) hHeld' ?_
  simp only [Act.put,List.setIfInBounds_toArray,List.set_cons_zero,List.set_cons_succ]
  refine wpAnyH_take (i:=41) (oi:=⟨some 76,Op.extract (.tmp 35) 0,26,"l9_page.go:59",#[⟨40,.data⟩],none⟩) (v:=v5) rfl (by kernel_rfl) (by kernel_rfl) (by kernel_rfl) (fun _ _ _ h=>h) (Or.inl ⟨by rfl,by intro wz hSw;go_simp⟩) hHeld' ?_
  simp only [Act.put,List.setIfInBounds_toArray,List.set_cons_zero,List.set_cons_succ]
  refine wpAnyH_take (i:=42) (oi:=⟨some 77,Op.extract (.tmp 35) 1,3,"l9_page.go:59",#[⟨40,.data⟩,⟨43,.gcOnly Departure.lateStores⟩],none⟩) (v:=.int .i64 z5) rfl (by kernel_rfl) (by kernel_rfl) (by kernel_rfl) (fun _ _ _ h=>h) (Or.inl ⟨by rfl,by intro wz hSw;go_simp⟩) hHeld' ?_
  simp only [Act.put,List.setIfInBounds_toArray,List.set_cons_zero,List.set_cons_succ]
  refine wpAnyH_take (i:=43) (oi:=⟨some 10,Op.assign (.tmp 76),26,"l9_page.go:59",#[⟨41,.data⟩,⟨39,.chain⟩,⟨0,.phase⟩,⟨1,.phase⟩,⟨2,.phase⟩,⟨3,.phase⟩,⟨4,.phase⟩,⟨5,.phase⟩,⟨6,.phase⟩,⟨7,.phase⟩,⟨8,.phase⟩,⟨9,.phase⟩,⟨10,.phase⟩,⟨11,.phase⟩,⟨12,.phase⟩,⟨13,.phase⟩,⟨14,.phase⟩,⟨15,.phase⟩,⟨16,.phase⟩,⟨17,.phase⟩,⟨18,.phase⟩,⟨19,.phase⟩,⟨20,.phase⟩,⟨21,.phase⟩,⟨22,.phase⟩,⟨23,.phase⟩,⟨24,.phase⟩,⟨25,.phase⟩,⟨26,.phase⟩,⟨27,.phase⟩,⟨28,.phase⟩,⟨29,.phase⟩,⟨30,.phase⟩,⟨31,.phase⟩,⟨32,.phase⟩,⟨33,.phase⟩,⟨34,.phase⟩,⟨35,.phase⟩,⟨36,.phase⟩,⟨37,.phase⟩,⟨38,.phase⟩,⟨39,.phase⟩,⟨40,.phase⟩,⟨41,.phase⟩,⟨42,.textOnly Departure.lateStores⟩],none⟩) (v:=v5) rfl (by kernel_rfl) (by kernel_rfl) (by kernel_rfl) (fun _ _ _ h=>h) (Or.inl ⟨by rfl,by intro wz hSw;go_simp⟩) hHeld' ?_
  simp only [Act.put,List.setIfInBounds_toArray,List.set_cons_zero,List.set_cons_succ]
  refine wpAnyH_take (i:=44) (oi:=⟨some 11,Op.assign (.tmp 77),3,"l9_page.go:59",#[⟨42,.data⟩,⟨43,.chain⟩,⟨0,.phase⟩,⟨1,.phase⟩,⟨2,.phase⟩,⟨3,.phase⟩,⟨4,.phase⟩,⟨5,.phase⟩,⟨6,.phase⟩,⟨7,.phase⟩,⟨8,.phase⟩,⟨9,.phase⟩,⟨10,.phase⟩,⟨11,.phase⟩,⟨12,.phase⟩,⟨13,.phase⟩,⟨14,.phase⟩,⟨15,.phase⟩,⟨16,.phase⟩,⟨17,.phase⟩,⟨18,.phase⟩,⟨19,.phase⟩,⟨20,.phase⟩,⟨21,.phase⟩,⟨22,.phase⟩,⟨23,.phase⟩,⟨24,.phase⟩,⟨25,.phase⟩,⟨26,.phase⟩,⟨27,.phase⟩,⟨28,.phase⟩,⟨29,.phase⟩,⟨30,.phase⟩,⟨31,.phase⟩,⟨32,.phase⟩,⟨33,.phase⟩,⟨34,.phase⟩,⟨35,.phase⟩,⟨36,.phase⟩,⟨37,.phase⟩,⟨38,.phase⟩,⟨39,.phase⟩,⟨40,.phase⟩,⟨41,.phase⟩,⟨42,.phase⟩,⟨43,.phase⟩],none⟩) (v:=.int .i64 z5) rfl (by kernel_rfl) (by kernel_rfl) (by kernel_rfl) (fun _ _ _ h=>h) (Or.inl ⟨by rfl,by intro wz hSw;go_simp⟩) hHeld' ?_
  simp only [Act.put,List.setIfInBounds_toArray,List.set_cons_zero,List.set_cons_succ]
  refine wpAnyH_done (by kernel_rfl) ?_ _
  have b45:Below W4.heap.size W4 W5:=hHeld'
  have HG5:Hid (Goes B g P E c' wr { c' with y:=y4,up:=0,dn:=0,os:=[],vo:=.slice none 0 0,ps:=ps4 } W5):=HG4.out.trans (Goes.keep X4 b45)
  have X5:Hid (Ctx W5 B g P E { c' with y:=y4,up:=0,dn:=0,os:=[],vo:=.slice none 0 0,ps:=ps4 }):=X4.keep b45
  obtain ⟨al5,cap5,hv5,-,hr5,hn5,hs5⟩:=own5.form
  obtain ⟨N5,hN5⟩:∃ n,n = xs5.length:=⟨_,rfl⟩
  rw [← hN5] at hv5
  have HN5:Hid (N5 = xs5.length):=hN5
  have hN5L:N5 ≤ L i:=by omega
  have HR5:Hid (LnRow W5 al5 xs5 ∧ ∀ b,al5 = some b → ∃ g,b = ⟨g,0,none⟩ ∧ W4.heap.size ≤ g ∧ g < W5.heap.size):=⟨hr5,fun b hb=>by obtain ⟨g',h1,h2,h3,-⟩:=hs5 b hb;exact ⟨g',h1,h2,h3⟩⟩
  have HXT5:Hid (∀ x ∈ xs5,x.tx.size ≤ 200):=hxt5
  have hL1:L i ≤ 100000:=by have:=SMI.out.1;omega
  have IOK:Hid (∀ z:Int,z = (i:Int) → 0 ≤ z ∧ z < (E.m:Int)):=fun z h=>by subst h;omega
  have OWN4:Hid (∀ b,({ c' with y:=y4,up:=0,dn:=0,os:=[],vo:=.slice none 0 0,ps:=ps4 }:Cs).own g P b → b < W4.heap.size):=fun b h=>X4.own_lt h
  subst hv5
  clear hxt5 own5 hr5 hn5 hs5 hN5 hb5 b45 X4 L4 c10 c8 c9 c5 c6 hst hbi hbt hfont hrf LN lxb lnb hHeld hHeld' hB4 lg4 nd0 nd1 hnbL
  generalize hc4:({ c' with y:=y4,up:=0,dn:=0,os:=[],vo:=.slice none 0 0,ps:=ps4 }:Cs) = c4 at *
  have LEN4:Hid (c4.xs.length = c'.xs.length ∧ c4.fs.length = c'.fs.length ∧ c4.os.length = 0):=by rw [← hc4];exact ⟨rfl,rfl,rfl⟩
  clear hc4 lg
  go_wp2_with fail
  go_loopw [80] (fun iv wr2=>∃ (j2:Nat) (c5:Cs),j2 ≤ N5 ∧ iv = .int .i64 j2 ∧ Goes B g P E c4 W5 c5 wr2 ∧ c5.xs.length = c4.xs.length + j2 ∧ c5.fs.length = c4.fs.length ∧ c5.os.length = c4.os.length) (fun iv _=>N5 - (intOf iv).toNat)
  case atStart=>exact ⟨0,c4,Nat.zero_le _,rfl,Goes.refl X5.out,rfl,rfl,rfl⟩
  case round =>
   obtain ⟨j2,c5,hj2,rfl,hG5,nx5,nf5,no5⟩:=hrel
   by_cases hlt2:j2 < N5
   rotate_left
   ·have e:j2 = N5:=by omega
    subst e
    have X6:=hG5.ctx
    obtain ⟨d10,-⟩:=X6.cells
    have f10:=X6.free 10
    have RES:Hid (∀ z,Goes B g P E c w1 { c5 with y:=z } (wr.setCell ⟨g,10,none⟩ (.int .i64 z)) ∧ Grow c { c5 with y:=z } (sumT L zs (j + 1)) (sumT N zs (j + 1))):=fun z=>NXT.out _ _ ((HG5.out.trans hG5).trans (X6.setY z)) (by
     have h:=LEN4.out
     unfold Grow
     simp only
     omega)
    clear X6 hG5 nx5 nf5 no5 hci
    go_wp2
    go_roundw
    case rel=>exact ⟨j + 1,_,by omega,by go_num,(RES.out _).1,(RES.out _).2⟩
    case measure=>simp [intOf];omega
   obtain ⟨y5,hy5⟩:∃ y,xs5[j2]? = some y:=⟨_,List.getElem?_eq_getElem (by rw [← HN5.out];exact hlt2)⟩
   obtain ⟨g5,hal5,hg5a,hg5b,hc5⟩:∃ g5,al5 = some ⟨g5,0,none⟩ ∧ W4.heap.size ≤ g5 ∧ g5 < W5.heap.size ∧ W5.rangeAt g5 (j2 * 6) (lnL y5):=by
    rcases HR5.out.1 with h0 | ⟨bb,off,hal,hc⟩
    ·rw [h0] at hy5;simp at hy5
    ·obtain ⟨g',h1,h2,h3⟩:=HR5.out.2 _ hal
     injection h1 with h4 h5
     subst h4 h5
     have:=hc j2 y5 hy5
     rw [Nat.zero_add] at this
     exact ⟨_,hal,h2,h3,this⟩
   have n5:¬ c4.own g P g5:=fun h=>by have:=OWN4.out g5 h;omega
   have X6:=hG5.ctx
   have lg6:=lies_lt X6.lies
   have q0:wr.cell? ⟨g5,j2 * 6,none⟩ = some (.int .i64 y5.bx):=hG5.cell9 hg5b n5 (hc5 0 (.int .i64 y5.bx) rfl)
   have q1:wr.cell? ⟨g5,j2 * 6 + 1,none⟩ = some (.int .i64 y5.x):=hG5.cell9 hg5b n5 (hc5 1 (.int .i64 y5.x) rfl)
   have q2:wr.cell? ⟨g5,j2 * 6 + 2,none⟩ = some (.int .i64 y5.y):=hG5.cell9 hg5b n5 (hc5 2 (.int .i64 y5.y) rfl)
   have q3:wr.cell? ⟨g5,j2 * 6 + 3,none⟩ = some (.int .i64 y5.w):=hG5.cell9 hg5b n5 (hc5 3 (.int .i64 y5.w) rfl)
   have q4:wr.cell? ⟨g5,j2 * 6 + 4,none⟩ = some (.int .i64 y5.h):=hG5.cell9 hg5b n5 (hc5 4 (.int .i64 y5.h) rfl)
   have q5:wr.cell? ⟨g5,j2 * 6 + 5,none⟩ = some (.string y5.tx):=hG5.cell9 hg5b n5 (hc5 5 (.string y5.tx) rfl)
   have HT5:Hid (y5.tx.size ≤ 200):=HXT5.out y5 (List.mem_of_getElem? hy5)
   subst hal5
   clear hc5 hy5 n5 hci
   go_wp2_with fail
   obtain ⟨V9,hV9⟩:∃ W,W = wr.alloc (.cells #[.int .i64 (i:Int),.int .i64 y5.x,.int .i64 y5.y,.int .i64 y5.w,.int .i64 y5.h,.string y5.tx] 37):=⟨_,rfl⟩
   have b9:Below wr.heap.size wr V9:=by rw [hV9];exact (Below.refl _ _).alloc (Nat.le_refl _) _
   have l13:V9.heap[wr.heap.size]? = some (.cells #[.int .i64 (i:Int),.int .i64 y5.x,.int .i64 y5.y,.int .i64 y5.w,.int .i64 y5.h,.string y5.tx] 37 (0,0)):=by rw [hV9];exact heap_at _ _ _ rfl
   have X9:=X6.keep b9
   have HG9:Hid (Goes B g P E c4 W5 c5 V9):=hG5.trans (Goes.keep X6 b9)
   rw [← hV9]
   generalize wr.heap.size = g13 at l13 ⊢
   obtain ⟨al,capl,hvl,-⟩:=OwnL.form X9.ol
   obtain ⟨nl,hnl⟩:∃ n,n = c5.xs.length:=⟨_,rfl⟩
   rw [← hnl] at hvl
   have HNL:Hid (nl = c5.xs.length):=hnl
   have hnlb:nl ≤ 200000:=by have:=SMI.out.1;have:=LEN4.out.1;omega
   obtain ⟨-,-,-,-,-,c8v,-⟩:=X9.cells
   have c8:V9.cell? ⟨g,8,none⟩ = some (.slice al nl capl):=c8v.trans (by rw [hvl])
   clear c8v
   have f8:=X9.free 8
   have lgV:=lies_lt X9.lies
   have hBV:B ≤ V9.heap.size:=Nat.le_trans X9.hg (Nat.le_of_lt lgV)
   have e0:V9.cell? ⟨g13,0,none⟩ = some (.int .i64 (i:Int)):=(lies_cell l13 0).trans rfl
   have e1:V9.cell? ⟨g13,1,none⟩ = some (.int .i64 y5.x):=(lies_cell l13 1).trans rfl
   have e2:V9.cell? ⟨g13,2,none⟩ = some (.int .i64 y5.y):=(lies_cell l13 2).trans rfl
   have e3:V9.cell? ⟨g13,3,none⟩ = some (.int .i64 y5.w):=(lies_cell l13 3).trans rfl
   have e4:V9.cell? ⟨g13,4,none⟩ = some (.int .i64 y5.h):=(lies_cell l13 4).trans rfl
   have e5:V9.cell? ⟨g13,5,none⟩ = some (.string y5.tx):=(lies_cell l13 5).trans rfl
   have l13t:=lies_lt l13
   obtain ⟨iL,hi0,hz0,hz1,hz2⟩:=info_parts infoLine
   have hOwn:V9.ownsRow B 37 6 (.slice al nl capl) nl (flatLn c5.xs):=by rw [← hvl,hnl];exact X9.ol
   have HOW:Hid (∀ W:World,W.heap = (V9.alloc (.cells #[.int .i64 (i:Int),.int .i64 y5.x,.int .i64 y5.y,.int .i64 y5.w,.int .i64 y5.h,.string y5.tx] 37)).heap → W.ownsRow B 37 6 (.slice al nl capl) nl (flatLn c5.xs)):=fun W hW=>by
    have h:=hOwn.alloc (.cells #[.int .i64 (i:Int),.int .i64 y5.x,.int .i64 y5.y,.int .i64 y5.w,.int .i64 y5.h,.string y5.tx] 37)
    refine ⟨h.1,?_⟩
    rcases h.2 with hn | ⟨gg,cc,cur,h1,h2,h3,rest⟩
    ·exact .inl hn
    ·exact .inr ⟨gg,cc,cur,h1,h2,by rw [hW];exact h3,rest⟩
   have HNW:Hid (∀ W:World,W.heap = (V9.alloc (.cells #[.int .i64 (i:Int),.int .i64 y5.x,.int .i64 y5.y,.int .i64 y5.w,.int .i64 y5.h,.string y5.tx] 37)).heap → ∀ j u,(lnL (⟨(i:Int),y5.x,y5.y,y5.w,y5.h,y5.tx⟩:Ln))[j]? = some u → W.cell? ((⟨V9.heap.size,0,none⟩:Addr).add j) = some u):=fun W hW=>World.news_of_block (cs:=#[.int .i64 (i:Int),.int .i64 y5.x,.int .i64 y5.y,.int .i64 y5.w,.int .i64 y5.h,.string y5.tx]) (t:=37) (fr:=(0,0)) (by rw [hW];exact heap_at _ _ _ rfl)
   have H1:Hid (∀ u ∈ lnL (⟨(i:Int),y5.x,y5.y,y5.w,y5.h,y5.tx⟩:Ln),u.oneCell' = true):=lnL_one _
   have neg:(Value.slice al nl capl).ownBlock ≠ some g:=own_ne hOwn X9.lies (by decide)
   have HLI:Hid (∀ W w3:World,W.grownBy w3 (Value.slice al nl capl).ownBlock → W.heap = (V9.alloc (.cells #[.int .i64 (i:Int),.int .i64 y5.x,.int .i64 y5.y,.int .i64 y5.w,.int .i64 y5.h,.string y5.tx] 37)).heap → w3.cell? ⟨g,8,none⟩ = some (.slice al nl capl) ∧ w3.frozen? ⟨g,8,none⟩ = false):=fun W w3 hg hW=>by
    have h:=X9.lies9 neg hg hW
    exact ⟨((lies_cell h 8).trans rfl:_ = some c5.vl).trans (by rw [hvl]),Lib.frozen_of_heap h 8⟩
   have HGG:Hid (∀ (W w3:World) (g9 cap9:Nat),W.grownBy w3 (Value.slice al nl capl).ownBlock → w3.ownsRow B 37 6 (.slice (some ⟨g9,0,none⟩) (nl + 1) cap9) (nl + 1) (flatLn c5.xs ++ lnL (⟨(i:Int),y5.x,y5.y,y5.w,y5.h,y5.tx⟩:Ln)) → ((Value.slice al nl capl).ownBlock = some g9 ∨ g9 = W.heap.size) → W.heap = (V9.alloc (.cells #[.int .i64 (i:Int),.int .i64 y5.x,.int .i64 y5.y,.int .i64 y5.w,.int .i64 y5.h,.string y5.tx] 37)).heap → W.os = V9.os → W.tape = V9.tape → W.output = V9.output → ∃ c6,Goes B g P E c4 W5 c6 (w3.setCell ⟨g,8,none⟩ (.slice (some ⟨g9,0,none⟩) (nl + 1) cap9)) ∧ c6.xs.length = c5.xs.length + 1 ∧ c6.fs.length = c5.fs.length ∧ c6.os.length = c5.os.length):=fun W w3 g9 cap9 hg ho hat hW h1 h2 h3 =>
    ⟨_,HG9.out.trans (X9.putL9 (⟨(i:Int),y5.x,y5.y,y5.w,y5.h,y5.tx⟩:Ln) HNL.out ⟨IOK.out _ rfl,HT5.out⟩ (by rw [hvl];exact hg) ho (by rw [hvl];exact hat) hW h1 h2 h3),by simp,rfl,rfl⟩
   clear hV9 b9 X9 X6 hG5 hOwn neg hnl q0 q1 q2 q3 q4 q5 hvl l13 lg6
   go_region_law (refine step_append_lies _ (by rfl) _ _ _ (by rfl) B 37 iL _ 6 56 Tryz.underlying26 hi0 hz0 hz1 hz2 rfl (by omega) (.slice al nl capl) nl (flatLn c5.xs) (by rfl) (HOW.out _ rfl) ⟨V9.heap.size,0,none⟩ 1 1 (lnL (⟨(i:Int),y5.x,y5.y,y5.w,y5.h,y5.tx⟩:Ln)) (by rfl) (by rfl) (HNW.out _ rfl) H1.out (by omega) (by unfold maxLen;omega) (by omega) (by simp;omega) _ rfl ?_;intro g9 cap9 w3 hown3 hgrow3 hat3 hlt3;have p8:=(HLI.out _ w3 hgrow3 rfl).1;have r8:=(HLI.out _ w3 hgrow3 rfl).2;have GG:=HGG.out _ w3 g9 cap9 hgrow3 hown3 hat3 rfl rfl rfl rfl)
   all_goals
    obtain ⟨c6,G6,m1,m2,m3⟩:=GG
    have R:Hid (c6.xs.length = c4.xs.length + (j2 + 1) ∧ c6.fs.length = c4.fs.length ∧ c6.os.length = c4.os.length):=⟨by omega,by omega,by omega⟩
    clear m1 m2 m3 nx5 nf5 no5 p8 r8 hown3 hgrow3 hat3 hlt3 HOW HNW H1 HLI HGG e0 e1 e2 e3 e4 e5 c8 f8
    go_wp2
    go_roundw
    case rel=>exact ⟨j2 + 1,c6,by omega,by go_num,G6,R.out.1,R.out.2.1,R.out.2.2⟩
    case measure=>simp [intOf];omega
end Go.Proofs.YtjnmloaopnbpgaaGreatDoor
