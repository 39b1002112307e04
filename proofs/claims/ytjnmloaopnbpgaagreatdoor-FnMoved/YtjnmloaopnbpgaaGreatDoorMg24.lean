/-
 BoxAt, for every page and every two numbers.
 Small functions that MovePage of the program calls.
 By how much each box is moved, as plain data.
 Rows of numbers that lie in a block; by how much boxes are moved, as such rows.
-/
import Derived.Test.YtjnmloaopnbpgaaGreatDoorMg23
namespace Go.Proofs.YtjnmloaopnbpgaaGreatDoor
open Go.ChangeShapes Go.WideShapes Go.ChangeAt Go.RowKit
set_option linter.unusedVariables false
/-- A place as the page wants it. -/
def nearP (x y w h:Int):Bool:=nearB x && nearB y && nearB (x + w) && nearB (y + h) && extB w && extB h
def nearQ (q:Plc):Bool:=nearP q.x q.y q.w q.h
def inBox (x y:Int) (b:Bx) (q:Plc):Bool:=!(decide (b.kd = 2)) && decide (q.x ≤ x) && decide (x < q.x + q.w) && decide (q.y ≤ y) && decide (y < q.y + q.h)
def atB (P:Pg) (x y:Int) (k:Nat):Bool:=match P.bs[k]?,P.ps[k]? with
 | some b,some q=>inBox x y b q
 | _,_=>false
def lastTo (p:Nat → Bool):Nat → Int
 | 0=>-1
 | k + 1=>if p k = true then (k:Int) else lastTo p k
def baOk (P:Pg) (x y:Int):Bool:=pgOk P && nearB x && nearB y && P.ps.all nearQ
def baI (P:Pg) (x y:Int):Int:=if baOk P x y = true then lastTo (atB P x y) P.bs.length else -1
def baV (P:Pg) (x y:Int):Int:=max (baI P x y) 0
def baB (P:Pg) (x y:Int):Bool:=decide (0 ≤ baI P x y)
theorem ba_none {P:Pg} {x y:Int} (h:baI P x y = -1):baV P x y = 0 ∧ baB P x y = false:=by
 unfold baV baB
 rw [h]
 exact ⟨rfl,rfl⟩
theorem ba_some {P:Pg} {x y:Int} {k:Nat} (h:baI P x y = (k:Int)):baV P x y = (k:Int) ∧ baB P x y = true:=by
 unfold baV baB
 rw [h]
 exact ⟨by omega,decide_eq_true (by omega)⟩
theorem baI_no {P:Pg} {x y:Int} (h:baOk P x y = false):baI P x y = -1:=by
 unfold baI
 rw [h]
 rfl
theorem ba_bad {P:Pg} {x y:Int} {k:Nat} {q:Plc} (hq:P.ps[k]? = some q) (h:nearQ q = false):baOk P x y = false:=by
 unfold baOk
 rw [List.all_eq_false.2 ⟨q,List.mem_of_getElem? hq,by rw [h];decide⟩]
 simp
theorem ba_good {P:Pg} {x y:Int} (h:pgOk P = true) (hx:nearB x = true) (hy:nearB y = true) (ha:∀ (i:Nat) (q:Plc),i < P.ps.length → P.ps[i]? = some q → nearQ q = true):baI P x y = lastTo (atB P x y) P.bs.length:=by
 unfold baI baOk
 have ha':P.ps.all nearQ = true:=List.all_eq_true.2 fun q hm=>by
  obtain ⟨i,hi,rfl⟩:=List.getElem_of_mem hm
  exact ha i _ hi (List.getElem?_eq_getElem hi)
 rw [h,hx,hy,ha']
 rfl
theorem nearQ_parts {q:Plc} (h:nearQ q = true):-100000000 ≤ q.x ∧ q.x ≤ 100000000 ∧ -100000000 ≤ q.y ∧ q.y ≤ 100000000 ∧ 0 ≤ q.w ∧ q.w ≤ 1000000 ∧ 0 ≤ q.h ∧ q.h ≤ 1000000:=by
 unfold nearQ nearP at h
 simp only [Bool.and_eq_true] at h
 obtain ⟨⟨⟨⟨⟨h0,h1⟩,h2⟩,h3⟩,h4⟩,h5⟩:=h
 have a0:=inB_yes h0
 have a1:=inB_yes h1
 have a4:=inB_yes h4
 have a5:=inB_yes h5
 exact ⟨a0.1,a0.2,a1.1,a1.2,a4.1,a4.2,a5.1,a5.2⟩
theorem wrap_near {x w:Int} (hx:nearB x = true) (hw:extB w = true):IntKind.i64.wrap (x + w) = x + w:=by
 have a0:=inB_yes hx
 have a1:=inB_yes hw
 rw [IntKind.wrap_i64]
 omega
theorem last_yes {P:Pg} {x y:Int} {k:Nat} (h:atB P x y k = true):lastTo (atB P x y) (k + 1) = (k:Int):=by rw [lastTo,if_pos h]
theorem last_no {P:Pg} {x y:Int} {k:Nat} (h:atB P x y k = false):lastTo (atB P x y) (k + 1) = lastTo (atB P x y) k:=by rw [lastTo,if_neg (by rw [h];decide)]
theorem atB_eq {P:Pg} {x y:Int} {k:Nat} {b:Bx} {q:Plc} (hb:P.bs[k]? = some b) (hq:P.ps[k]? = some q):atB P x y k = inBox x y b q:=by
 unfold atB
 rw [hb,hq]
theorem ret_tupB {a b:Int} {c d:Bool} (h:a = b) (h':c = d):Ending.returned (.tuple #[.int .i64 a,.bool c]) = .returned (.tuple #[.int .i64 b,.bool d]):=by rw [h,h']
set_option maxHeartbeats 4000000 in
theorem l9Near_any (x y w h:Int) (W:World):Calls Tryz.prog 28 #[.int .i64 x,.int .i64 y,.int .i64 w,.int .i64 h] W fun e w'=>e = .returned (.bool (nearP x y w h)) ∧ w' = W:=by
 have HP:Hid (nearP x y w h = (nearB x && nearB y && nearB (x + w) && nearB (y + h) && extB w && extB h)):=rfl
 obtain ⟨c,hc⟩:∃ c,IntKind.i64.wrap (x + w) = c:=⟨_,rfl⟩
 obtain ⟨d,hd⟩:∃ d,IntKind.i64.wrap (y + h) = d:=⟨_,rfl⟩
 have HC:Hid (nearB x = true → extB w = true → c = x + w):=fun h0 h1=>by rw [← hc];exact wrap_near h0 h1
 have HD:Hid (nearB y = true → extB h = true → d = y + h):=fun h0 h1=>by rw [← hd];exact wrap_near h0 h1
 rcases Bool.eq_false_or_eq_true (nearB x) with h0 | h0
 rotate_left
 ·go_enter Tryz.func28,Tryz.ntmps28
  go_wp2_with fail
  refine (l7Place_any x _).mono ?_
  rintro e w' ⟨rfl,hw'⟩
  have hw':=hw'.symm
  subst hw'
  rw [h0]
  go_wp2
  go_ret
  exact ⟨ret_bool (by rw [HP.out,h0];simp),rfl⟩
 rcases Bool.eq_false_or_eq_true (nearB y) with h1 | h1
 rotate_left
 ·go_enter Tryz.func28,Tryz.ntmps28
  go_wp2_with fail
  refine (l7Place_any x _).mono ?_
  rintro e w' ⟨rfl,hw'⟩
  have hw':=hw'.symm
  subst hw'
  rw [h0]
  go_wp2_with fail
  refine (l7Place_any y _).mono ?_
  rintro e w' ⟨rfl,hw'⟩
  have hw':=hw'.symm
  subst hw'
  rw [h1]
  go_wp2
  go_ret
  exact ⟨ret_bool (by rw [HP.out,h1];simp),rfl⟩
 rcases Bool.eq_false_or_eq_true (nearB c) with h2 | h2
 rotate_left
 ·go_enter Tryz.func28,Tryz.ntmps28
  go_wp2_with fail
  refine (l7Place_any x _).mono ?_
  rintro e w' ⟨rfl,hw'⟩
  have hw':=hw'.symm
  subst hw'
  rw [h0]
  go_wp2_with fail
  refine (l7Place_any y _).mono ?_
  rintro e w' ⟨rfl,hw'⟩
  have hw':=hw'.symm
  subst hw'
  rw [h1]
  go_wp2_with fail
  refine (l7Place_any c _).mono ?_
  rintro e w' ⟨rfl,hw'⟩
  have hw':=hw'.symm
  subst hw'
  rw [h2]
  go_wp2
  go_ret
  exact ⟨ret_bool (by rw [HP.out];rcases Bool.eq_false_or_eq_true (extB w) with e | e;(rw [← HC.out h0 e,h2];simp);(rw [e];simp)),rfl⟩
 rcases Bool.eq_false_or_eq_true (nearB d) with h3 | h3
 rotate_left
 ·go_enter Tryz.func28,Tryz.ntmps28
  go_wp2_with fail
  refine (l7Place_any x _).mono ?_
  rintro e w' ⟨rfl,hw'⟩
  have hw':=hw'.symm
  subst hw'
  rw [h0]
  go_wp2_with fail
  refine (l7Place_any y _).mono ?_
  rintro e w' ⟨rfl,hw'⟩
  have hw':=hw'.symm
  subst hw'
  rw [h1]
  go_wp2_with fail
  refine (l7Place_any c _).mono ?_
  rintro e w' ⟨rfl,hw'⟩
  have hw':=hw'.symm
  subst hw'
  rw [h2]
  go_wp2_with fail
  refine (l7Place_any d _).mono ?_
  rintro e w' ⟨rfl,hw'⟩
  have hw':=hw'.symm
  subst hw'
  rw [h3]
  go_wp2
  go_ret
  exact ⟨ret_bool (by rw [HP.out];rcases Bool.eq_false_or_eq_true (extB h) with e | e;(rw [← HD.out h1 e,h3];simp);(rw [e];simp)),rfl⟩
 rcases Bool.eq_false_or_eq_true (extB w) with h4 | h4
 rotate_left
 ·go_enter Tryz.func28,Tryz.ntmps28
  go_wp2_with fail
  refine (l7Place_any x _).mono ?_
  rintro e w' ⟨rfl,hw'⟩
  have hw':=hw'.symm
  subst hw'
  rw [h0]
  go_wp2_with fail
  refine (l7Place_any y _).mono ?_
  rintro e w' ⟨rfl,hw'⟩
  have hw':=hw'.symm
  subst hw'
  rw [h1]
  go_wp2_with fail
  refine (l7Place_any c _).mono ?_
  rintro e w' ⟨rfl,hw'⟩
  have hw':=hw'.symm
  subst hw'
  rw [h2]
  go_wp2_with fail
  refine (l7Place_any d _).mono ?_
  rintro e w' ⟨rfl,hw'⟩
  have hw':=hw'.symm
  subst hw'
  rw [h3]
  go_wp2_with fail
  refine (l7Span_any w _).mono ?_
  rintro e w' ⟨rfl,hw'⟩
  have hw':=hw'.symm
  subst hw'
  rw [h4]
  go_wp2
  go_ret
  exact ⟨ret_bool (by rw [HP.out,h4];simp),rfl⟩
 rcases Bool.eq_false_or_eq_true (extB h) with h5 | h5
 rotate_left
 ·go_enter Tryz.func28,Tryz.ntmps28
  go_wp2_with fail
  refine (l7Place_any x _).mono ?_
  rintro e w' ⟨rfl,hw'⟩
  have hw':=hw'.symm
  subst hw'
  rw [h0]
  go_wp2_with fail
  refine (l7Place_any y _).mono ?_
  rintro e w' ⟨rfl,hw'⟩
  have hw':=hw'.symm
  subst hw'
  rw [h1]
  go_wp2_with fail
  refine (l7Place_any c _).mono ?_
  rintro e w' ⟨rfl,hw'⟩
  have hw':=hw'.symm
  subst hw'
  rw [h2]
  go_wp2_with fail
  refine (l7Place_any d _).mono ?_
  rintro e w' ⟨rfl,hw'⟩
  have hw':=hw'.symm
  subst hw'
  rw [h3]
  go_wp2_with fail
  refine (l7Span_any w _).mono ?_
  rintro e w' ⟨rfl,hw'⟩
  have hw':=hw'.symm
  subst hw'
  rw [h4]
  go_wp2_with fail
  refine (l7Span_any h _).mono ?_
  rintro e w' ⟨rfl,hw'⟩
  have hw':=hw'.symm
  subst hw'
  rw [h5]
  go_wp2
  go_ret
  exact ⟨ret_bool (by rw [HP.out,h5];simp),rfl⟩
 go_enter Tryz.func28,Tryz.ntmps28
 go_wp2_with fail
 refine (l7Place_any x _).mono ?_
 rintro e w' ⟨rfl,hw'⟩
 have hw':=hw'.symm
 subst hw'
 rw [h0]
 go_wp2_with fail
 refine (l7Place_any y _).mono ?_
 rintro e w' ⟨rfl,hw'⟩
 have hw':=hw'.symm
 subst hw'
 rw [h1]
 go_wp2_with fail
 refine (l7Place_any c _).mono ?_
 rintro e w' ⟨rfl,hw'⟩
 have hw':=hw'.symm
 subst hw'
 rw [h2]
 go_wp2_with fail
 refine (l7Place_any d _).mono ?_
 rintro e w' ⟨rfl,hw'⟩
 have hw':=hw'.symm
 subst hw'
 rw [h3]
 go_wp2_with fail
 refine (l7Span_any w _).mono ?_
 rintro e w' ⟨rfl,hw'⟩
 have hw':=hw'.symm
 subst hw'
 rw [h4]
 go_wp2_with fail
 refine (l7Span_any h _).mono ?_
 rintro e w' ⟨rfl,hw'⟩
 have hw':=hw'.symm
 subst hw'
 rw [h5]
 go_wp2
 go_ret
 exact ⟨ret_bool (by rw [HP.out,← HC.out h0 h4,← HD.out h1 h5,h0,h1,h2,h3,h4,h5];rfl),rfl⟩
set_option maxRecDepth 100000 in
set_option maxHeartbeats 16000000 in
theorem specBoxAt_any (P:Pg) (x y:Int) (w:World) (hr:PgRow w P) (hl:PgLen P 1048576) :
  Calls Tryz.prog 8 #[.agg #[.slice P.ba P.bs.length P.bc,.slice P.pa P.ps.length P.pc,.slice P.la P.ls.length P.lc,.slice P.fa P.fs.length P.fc,.int .i64 P.hi],.int .i64 x,.int .i64 y] w fun e w'=>e = .returned (.tuple #[.int .i64 (baV P x y),.bool (baB P x y)]) ∧ Below w.heap.size w w':=by
 have HR:Hid (BxRow w P.ba P.bs):=hr.rb
 have HS:Hid (PlRow w P.pa P.ps):=hr.rp
 obtain ⟨ba,bc,bs,pa,pc,ps,la,lc,ls,fa,fc,fs,hi⟩:=P
 obtain ⟨nb,hnb⟩:∃ n,n = bs.length:=⟨_,rfl⟩
 obtain ⟨np,hnp⟩:∃ n,n = ps.length:=⟨_,rfl⟩
 have hlb:nb ≤ 1048576:=by rw [hnb];exact hl.lb
 have H1:Hid (nb = bs.length):=hnb
 have H2:Hid (np = ps.length):=hnp
 obtain ⟨PP,hP⟩:∃ Q:Pg,Q = ⟨ba,bc,bs,pa,pc,ps,la,lc,ls,fa,fc,fs,hi⟩:=⟨_,rfl⟩
 have HPb:Hid (PP.bs = bs):=by show PP.bs = bs;rw [hP]
 have HPp:Hid (PP.ps = ps):=by show PP.ps = ps;rw [hP]
 dsimp only at HR HS ⊢
 rw [← hP,← hnb,← hnp]
 generalize ls.length = nl
 generalize fs.length = nf
 clear hP hnb hnp hl hr
 have l0:(w.alloc (.cells #[.slice ba nb bc,.slice pa np pc,.slice la nl lc,.slice fa nf fc,.int .i64 hi] 29)).heap[w.heap.size]? = some (.cells #[.slice ba nb bc,.slice pa np pc,.slice la nl lc,.slice fa nf fc,.int .i64 hi] 29 (0,0)):=heap_at _ _ _ rfl
 have b0:Below w.heap.size w (w.alloc (.cells #[.slice ba nb bc,.slice pa np pc,.slice la nl lc,.slice fa nf fc,.int .i64 hi] 29)):=(Below.refl _ _).alloc (Nat.le_refl _) _
 by_cases hne:np = nb
 rotate_left
 ·have HZ:Hid (baV PP x y = 0 ∧ baB PP x y = false):=ba_none (baI_no (by unfold baOk;rw [pgOk_no (by rw [HPb.out,HPp.out,← H1.out,← H2.out];omega)];rfl))
  have hne':¬ ((np:Int) = (nb:Int)):=by omega
  go_enter Tryz.func8,Tryz.ntmps8
  go_wp2
  go_ret2
  exact ⟨ret_tupB HZ.out.1.symm HZ.out.2.symm,b0⟩
 by_cases hbig:nb ≤ 80
 rotate_left
 ·have HZ:Hid (baV PP x y = 0 ∧ baB PP x y = false):=ba_none (baI_no (by unfold baOk;rw [pgOk_no (by rw [HPb.out,HPp.out,← H1.out,← H2.out];omega)];rfl))
  have hbig':(80:Int) < (nb:Int):=by omega
  subst hne
  go_enter Tryz.func8,Tryz.ntmps8
  go_wp2
  go_ret2
  exact ⟨ret_tupB HZ.out.1.symm HZ.out.2.symm,b0⟩
 have hbig':¬ ((80:Int) < (nb:Int)):=by omega
 have HOK:Hid (pgOk PP = true):=pgOk_yes (by rw [HPb.out,HPp.out,← H1.out,← H2.out];exact hne) (by rw [HPb.out,← H1.out];exact hbig)
 subst hne
 rcases Bool.eq_false_or_eq_true (nearB x) with hx | hx
 rotate_left
 ·have HZ:Hid (baV PP x y = 0 ∧ baB PP x y = false):=ba_none (baI_no (by unfold baOk;rw [hx];simp))
  go_enter Tryz.func8,Tryz.ntmps8
  go_wp2_with fail
  refine (l7Place_any x _).mono ?_
  rintro e w' ⟨rfl,hw'⟩
  have hw':=hw'.symm
  subst hw'
  rw [hx]
  go_wp2
  go_ret2
  exact ⟨ret_tupB HZ.out.1.symm HZ.out.2.symm,b0⟩
 rcases Bool.eq_false_or_eq_true (nearB y) with hy | hy
 rotate_left
 ·have HZ:Hid (baV PP x y = 0 ∧ baB PP x y = false):=ba_none (baI_no (by unfold baOk;rw [hy];simp))
  go_enter Tryz.func8,Tryz.ntmps8
  go_wp2_with fail
  refine (l7Place_any x _).mono ?_
  rintro e w' ⟨rfl,hw'⟩
  have hw':=hw'.symm
  subst hw'
  rw [hx]
  go_wp2_with fail
  refine (l7Place_any y _).mono ?_
  rintro e w' ⟨rfl,hw'⟩
  have hw':=hw'.symm
  subst hw'
  rw [hy]
  go_wp2
  go_ret2
  exact ⟨ret_tupB HZ.out.1.symm HZ.out.2.symm,b0⟩
 have hx0:=inB_yes hx
 have hy0:=inB_yes hy
 have HX0:Hid (nearB x = true):=hx
 have HY0:Hid (nearB y = true):=hy
 go_enter Tryz.func8,Tryz.ntmps8
 go_wp2_with fail
 refine (l7Place_any x _).mono ?_
 rintro e w' ⟨rfl,hw'⟩
 have hw':=hw'.symm
 subst hw'
 rw [hx]
 go_wp2_with fail
 refine (l7Place_any y _).mono ?_
 rintro e w' ⟨rfl,hw'⟩
 have hw':=hw'.symm
 subst hw'
 rw [hy]
 clear hx hy
 go_wp2_with fail
 go_loopw [38] (fun i wr=>∃ k:Nat,k ≤ np ∧ i = .int .i64 k ∧ (∀ (i:Nat) (q:Plc),i < k → ps[i]? = some q → nearQ q = true) ∧ wr.heap[w.heap.size]? = some (.cells #[.slice ba np bc,.slice pa np pc,.slice la nl lc,.slice fa nf fc,.int .i64 hi] 29 (0,0)) ∧ Below w.heap.size w wr) (fun i _=>np - (intOf i).toNat)
 case atStart=>exact ⟨0,Nat.zero_le _,rfl,fun i x hi=>absurd hi (by omega),l0,b0⟩
 case round =>
  clear l0 b0
  obtain ⟨k,hk,rfl,hp,l0,hbw⟩:=hrel
  have HP:Hid (∀ (i:Nat) (q:Plc),i < k → ps[i]? = some q → nearQ q = true):=hp
  clear hp
  by_cases hlt:k < np
  ·obtain ⟨z,hz⟩:∃ z,ps[k]? = some z:=⟨_,List.getElem?_eq_getElem (by have:=H2.out;omega)⟩
   obtain ⟨b',off',rfl,hc'⟩:=pl_some HS.out hz
   have hr':=pl_below (hc' k z hz) hbw (pl_lt (hc' k z hz))
   obtain ⟨r0,r1,r2,r3⟩:=pl_cells hr'
   have HZ2:Hid (ps[k]? = some z):=hz
   have m0:=heap_in (o:=.cells #[.int .i64 z.x,.int .i64 z.y,.int .i64 z.w,.int .i64 z.h] 35) l0
   have b2:Below w.heap.size w (wr.alloc (.cells #[.int .i64 z.x,.int .i64 z.y,.int .i64 z.w,.int .i64 z.h] 35)):=hbw.alloc hbw.size _
   have HQ:Hid (nearQ z = nearP z.x z.y z.w z.h):=rfl
   clear hc' hz hr' hbw l0
   go_wp2_with fail
   refine (l9Near_any z.x z.y z.w z.h _).mono ?_
   rintro e w' ⟨rfl,hw'⟩
   have hw':=hw'.symm
   subst hw'
   rw [← HQ.out]
   rcases Bool.eq_false_or_eq_true (nearQ z) with hg | hg
   ·rw [hg]
    go_wp2
    go_roundw
    case rel=>exact ⟨k + 1,by omega,by go_num,stepG HZ2.out hg HP.out,m0,b2⟩
    case measure=>simp [intOf];omega
   ·rw [hg]
    have HZ:Hid (baV PP x y = 0 ∧ baB PP x y = false):=ba_none (baI_no (ba_bad (by rw [HPp.out];exact HZ2.out) hg))
    go_wp2
    go_ret2
    exact ⟨ret_tupB HZ.out.1.symm HZ.out.2.symm,b2⟩
  have HA:Hid (∀ (i:Nat) (q:Plc),i < ps.length → ps[i]? = some q → nearQ q = true):=fun i q hi hq=>HP.out i q (by have:=H2.out;omega) hq
  have HI:Hid (baI PP x y = lastTo (atB PP x y) np):=by show baI PP x y = _;rw [ba_good HOK.out HX0.out HY0.out (by rw [HPp.out];exact HA.out),HPb.out,← H1.out]
  have p0:wr.cell? ⟨w.heap.size,0,none⟩ = some (.slice ba np bc):=(lies_cell l0 0).trans rfl
  have HBW:Hid (Below w.heap.size w wr):=hbw
  have HL0:Hid (wr.heap[w.heap.size]? = some (.cells #[.slice ba np bc,.slice pa np pc,.slice la nl lc,.slice fa nf fc,.int .i64 hi] 29 (0,0))):=l0
  clear HP l0 hbw
  go_wp2_with fail
  go_loopw [10] (fun i wq=>∃ j:Nat,j ≤ np ∧ i = .int .i64 ((j:Int) - 1) ∧ lastTo (atB PP x y) np = lastTo (atB PP x y) j ∧ wq.heap[w.heap.size]? = some (.cells #[.slice ba np bc,.slice pa np pc,.slice la nl lc,.slice fa nf fc,.int .i64 hi] 29 (0,0)) ∧ Below w.heap.size w wq) (fun i _=>(intOf i + 1).toNat)
  case atStart=>exact ⟨np,Nat.le_refl _,by go_num,rfl,HL0.out,HBW.out⟩
  case round =>
   clear HL0 HBW p0
   obtain ⟨j,hj,rfl,hq,l0,hbq⟩:=hrel
   have HQ:Hid (lastTo (atB PP x y) np = lastTo (atB PP x y) j):=hq
   clear hq
   by_cases hj0:j = 0
   ·have HZ:Hid (baV PP x y = 0 ∧ baB PP x y = false):=ba_none (by rw [HI.out,HQ.out,hj0];rfl)
    subst hj0
    go_wp2
    go_ret2
    exact ⟨ret_tupB HZ.out.1.symm HZ.out.2.symm,hbq⟩
   obtain ⟨m,rfl⟩:∃ m,j = m + 1:=⟨j - 1,by omega⟩
   clear hj0
   have em:((m + 1:Nat):Int) - 1 = (m:Int):=by omega
   rw [em]
   obtain ⟨⟨xk,xn,xu,xt⟩,hx⟩:∃ b,bs[m]? = some b:=⟨_,List.getElem?_eq_getElem (by have:=H1.out;omega)⟩
   obtain ⟨z,hz⟩:∃ z,ps[m]? = some z:=⟨_,List.getElem?_eq_getElem (by have:=H2.out;omega)⟩
   obtain ⟨b,off,rfl,hc⟩:=bx_some HR.out hx
   obtain ⟨b',off',rfl,hc'⟩:=pl_some HS.out hz
   have hr:=bx_below (hc m _ hx) hbq (bx_lt (hc m _ hx))
   have hr':=pl_below (hc' m z hz) hbq (pl_lt (hc' m z hz))
   obtain ⟨r0,r1,r2,r3⟩:=pl_cells hr'
   obtain ⟨q0,_,_,_⟩:=bx_cells (bx_below hr ((Below.refl wr.heap.size wr).alloc (Nat.le_refl _) (.cells #[.int .i64 z.x,.int .i64 z.y,.int .i64 z.w,.int .i64 z.h] 35)) (bx_lt hr))
   dsimp only at q0
   obtain ⟨z0,z1,z2,z3,z4,z5,z6,z7⟩:=nearQ_parts (HA.out m z (by have:=H2.out;omega) hz)
   have p1:wr.cell? ⟨w.heap.size,1,none⟩ = some (.slice (some ⟨b',off',none⟩) np pc):=(lies_cell l0 1).trans rfl
   have m0:=heap_in (o:=.cells #[.int .i64 z.x,.int .i64 z.y,.int .i64 z.w,.int .i64 z.h] 35) l0
   have p0:(wr.alloc (.cells #[.int .i64 z.x,.int .i64 z.y,.int .i64 z.w,.int .i64 z.h] 35)).cell? ⟨w.heap.size,0,none⟩ = some (.slice (some ⟨b,off,none⟩) np bc):=(lies_cell m0 0).trans rfl
   have b2:Below w.heap.size w (wr.alloc (.cells #[.int .i64 z.x,.int .i64 z.y,.int .i64 z.w,.int .i64 z.h] 35)):=hbq.alloc hbq.size _
   have HE:Hid (atB PP x y m = inBox x y ⟨xk,xn,xu,xt⟩ z):=atB_eq (by rw [HPb.out];exact hx) (by rw [HPp.out];exact hz)
   have HO:Hid (inBox x y ⟨xk,xn,xu,xt⟩ z = (!(decide (xk = 2)) && decide (z.x ≤ x) && decide (x < z.x + z.w) && decide (z.y ≤ y) && decide (y < z.y + z.h))):=rfl
   have hsz:=lies_lt l0
   clear hc hc' hx hz hr hr' hbq l0
   by_cases hkd:xk = 2
   ·have HF:Hid (atB PP x y m = false):=by show atB PP x y m = false;rw [HE.out,HO.out,decide_eq_true hkd];simp
    subst hkd
    go_wp2
    go_roundw
    case rel=>exact ⟨m,by omega,by go_num,by rw [HQ.out,last_no HF.out],m0,b2⟩
    case measure=>first | (simp [intOf];done) | (simp [intOf];omega)
   by_cases g0:z.x ≤ x
   rotate_left
   ·have HF:Hid (atB PP x y m = false):=by show atB PP x y m = false;rw [HE.out,HO.out,decide_eq_false (p:=z.x ≤ x) (by omega)];simp
    go_wp2
    go_roundw
    case rel=>exact ⟨m,by omega,by go_num,by rw [HQ.out,last_no HF.out],m0,b2⟩
    case measure=>first | (simp [intOf];done) | (simp [intOf];omega)
   by_cases g1:x < z.x + z.w
   rotate_left
   ·have HF:Hid (atB PP x y m = false):=by show atB PP x y m = false;rw [HE.out,HO.out,decide_eq_false (p:=x < z.x + z.w) (by omega)];simp
    go_wp2
    go_roundw
    case rel=>exact ⟨m,by omega,by go_num,by rw [HQ.out,last_no HF.out],m0,b2⟩
    case measure=>first | (simp [intOf];done) | (simp [intOf];omega)
   by_cases g2:z.y ≤ y
   rotate_left
   ·have HF:Hid (atB PP x y m = false):=by show atB PP x y m = false;rw [HE.out,HO.out,decide_eq_false (p:=z.y ≤ y) (by omega)];simp
    go_wp2
    go_roundw
    case rel=>exact ⟨m,by omega,by go_num,by rw [HQ.out,last_no HF.out],m0,b2⟩
    case measure=>first | (simp [intOf];done) | (simp [intOf];omega)
   by_cases g3:y < z.y + z.h
   rotate_left
   ·have HF:Hid (atB PP x y m = false):=by show atB PP x y m = false;rw [HE.out,HO.out,decide_eq_false (p:=y < z.y + z.h) (by omega)];simp
    go_wp2
    go_roundw
    case rel=>exact ⟨m,by omega,by go_num,by rw [HQ.out,last_no HF.out],m0,b2⟩
    case measure=>first | (simp [intOf];done) | (simp [intOf];omega)
   have HZ:Hid (baV PP x y = (m:Int) ∧ baB PP x y = true):=ba_some (by rw [HI.out,HQ.out,last_yes (by rw [HE.out,HO.out,decide_eq_false hkd,decide_eq_true (p:=z.x ≤ x) (by omega),decide_eq_true (p:=x < z.x + z.w) (by omega),decide_eq_true (p:=z.y ≤ y) (by omega),decide_eq_true (p:=y < z.y + z.h) (by omega)];rfl)])
   go_wp2
   go_ret2
   exact ⟨ret_tupB HZ.out.1.symm HZ.out.2.symm,b2⟩
/-- A place, a line that is moved. -/
def mvP (z:Plc) (r d:Int):Plc:=⟨wrap64 (z.x + r),wrap64 (z.y + d),z.w,z.h⟩
def mvL (x:Ln) (r d:Int):Ln:=⟨x.bx,wrap64 (x.x + r),wrap64 (x.y + d),x.w,x.h,x.tx⟩
set_option maxRecDepth 100000 in
set_option maxHeartbeats 2000000 in
theorem movedP_any (z:Plc) (r d:Int) (w:World):Calls Tryz.prog 16 #[.agg #[.int .i64 z.x,.int .i64 z.y,.int .i64 z.w,.int .i64 z.h],.agg #[.int .i64 r,.int .i64 d]] w fun e w'=>e = .returned (.agg #[.int .i64 (wrap64 (z.x + r)),.int .i64 (wrap64 (z.y + d)),.int .i64 z.w,.int .i64 z.h]) ∧ Below w.heap.size w w':=by
 go_enter Tryz.func16,Tryz.ntmps16
 go_wp2
 refine bodyPost_ret (v:=.agg #[.int .i64 (wrap64 (z.x + r)),.int .i64 (wrap64 (z.y + d)),.int .i64 z.w,.int .i64 z.h]) (by simp [results,Tryz.results16,go_sem];try rfl) rfl ⟨rfl,?_⟩
 repeat (first | exact Below.refl _ _ | refine Below.setCell ?_ (by first | (simp;done) | (simp;omega)) _ | refine Below.alloc ?_ (by first | (simp;done) | (simp;omega)) _)
set_option maxRecDepth 100000 in
set_option maxHeartbeats 2000000 in
theorem movedL_any (x:Ln) (r d:Int) (w:World):Calls Tryz.prog 19 #[.agg #[.int .i64 x.bx,.int .i64 x.x,.int .i64 x.y,.int .i64 x.w,.int .i64 x.h,.string x.tx],.agg #[.int .i64 r,.int .i64 d]] w fun e w'=>e = .returned (.agg #[.int .i64 x.bx,.int .i64 (wrap64 (x.x + r)),.int .i64 (wrap64 (x.y + d)),.int .i64 x.w,.int .i64 x.h,.string x.tx]) ∧ Below w.heap.size w w':=by
 go_enter Tryz.func19,Tryz.ntmps19
 go_wp2
 refine bodyPost_ret (v:=.agg #[.int .i64 x.bx,.int .i64 (wrap64 (x.x + r)),.int .i64 (wrap64 (x.y + d)),.int .i64 x.w,.int .i64 x.h,.string x.tx]) (by simp [results,Tryz.results19,go_sem];try rfl) rfl ⟨rfl,?_⟩
 repeat (first | exact Below.refl _ _ | refine Below.setCell ?_ (by first | (simp;done) | (simp;omega)) _ | refine Below.alloc ?_ (by first | (simp;done) | (simp;omega)) _)
theorem isBox_any (a:Option Addr) (n cap:Nat) (k:Int) (w:World) (hn:n ≤ 1048576):Calls Tryz.prog 17 #[.slice a n cap,.int .i64 k] w fun e w'=>e = .returned (.bool (decide (0 ≤ k) && decide (k < (n:Int)))) ∧ w' = w:=by
 by_cases h0:0 ≤ k
 ·by_cases h1:k < (n:Int)
  all_goals
   go_enter Tryz.func17,Tryz.ntmps17
   go_wp2
   go_ret
   exact ⟨ret_bool (by simp [h0,h1]),rfl⟩
 ·go_enter Tryz.func17,Tryz.ntmps17
  go_wp2
  go_ret
  exact ⟨ret_bool (by rw [decide_eq_false (by omega)];rfl),rfl⟩
/-- What box k adds: f of its style, where it is no line of text. -/
def addM (f:St → Int) (ns:List Nd) (bs:List Bx) (k:Nat) (z:Int):Int:=if (bs.getD k bx0).kd = 2 then z else wrap64 (z + f (ns.getD (bs.getD k bx0).nd.toNat nd0).st)
def fromM (l:List Int) (bs:List Bx) (k:Nat):Int:=if 0 ≤ (bs.getD k bx0).up then l.getD (bs.getD k bx0).up.toNat 0 else 0
/-- The first k boxes' moves. -/
def stepsM (f:St → Int) (ns:List Nd) (bs:List Bx):Nat → List Int
 | 0=>[]
 | k + 1=>stepsM f ns bs k ++ [addM f ns bs k (fromM (stepsM f ns bs k) bs k)]
theorem stepsM_len (f:St → Int) (ns:List Nd) (bs:List Bx):∀ k,(stepsM f ns bs k).length = k
 | 0=>rfl
 | k + 1=>by rw [stepsM,List.length_append,stepsM_len f ns bs k];rfl
def rightM (ns:List Nd) (bs:List Bx):List Int:=stepsM (fun s=>s.ri) ns bs bs.length
def downM (ns:List Nd) (bs:List Bx):List Int:=stepsM (fun s=>s.dn) ns bs bs.length
/-- The places and the lines that are moved. -/
def placesM (ns:List Nd) (bs:List Bx) (ps:List Plc):Nat → List Plc
 | 0=>[]
 | k + 1=>placesM ns bs ps k ++ [if (bs.getD k bx0).kd = 2 then ps.getD k pl0 else mvP (ps.getD k pl0) ((rightM ns bs).getD k 0) ((downM ns bs).getD k 0)]
theorem placesM_len (ns:List Nd) (bs:List Bx) (ps:List Plc):∀ k,(placesM ns bs ps k).length = k
 | 0=>rfl
 | k + 1=>by rw [placesM,List.length_append,placesM_len ns bs ps k];rfl
def linesM (ns:List Nd) (bs:List Bx) (ls:List Ln):Nat → List Ln
 | 0=>[]
 | k + 1=>linesM ns bs ls k ++ [mvL (ls.getD k ln0) ((rightM ns bs).getD (ls.getD k ln0).bx.toNat 0) ((downM ns bs).getD (ls.getD k ln0).bx.toNat 0)]
theorem linesM_len (ns:List Nd) (bs:List Bx) (ls:List Ln):∀ k,(linesM ns bs ls k).length = k
 | 0=>rfl
 | k + 1=>by rw [linesM,List.length_append,linesM_len ns bs ls k];rfl
theorem placesM_at (ns:List Nd) (bs:List Bx) (ps:List Plc):∀ (n k:Nat),k < n → (placesM ns bs ps n)[k]? = some (if (bs.getD k bx0).kd = 2 then ps.getD k pl0 else mvP (ps.getD k pl0) ((rightM ns bs).getD k 0) ((downM ns bs).getD k 0))
 | 0,k,h=>by omega
 | n + 1,k,h=>by
  rw [placesM]
  by_cases e:k < n
  ·rw [List.getElem?_append_left (by rw [placesM_len];exact e)]
   exact placesM_at ns bs ps n k e
  ·have:k = n:=by omega
   subst this
   rw [List.getElem?_append_right (by rw [placesM_len];omega),placesM_len]
   simp
theorem linesM_at (ns:List Nd) (bs:List Bx) (ls:List Ln):∀ (n k:Nat),k < n → (linesM ns bs ls n)[k]? = some (mvL (ls.getD k ln0) ((rightM ns bs).getD (ls.getD k ln0).bx.toNat 0) ((downM ns bs).getD (ls.getD k ln0).bx.toNat 0))
 | 0,k,h=>by omega
 | n + 1,k,h=>by
  rw [linesM]
  by_cases e:k < n
  ·rw [List.getElem?_append_left (by rw [linesM_len];exact e)]
   exact linesM_at ns bs ls n k e
  ·have:k = n:=by omega
   subst this
   rw [List.getElem?_append_right (by rw [linesM_len];omega),linesM_len]
   simp
/-- Whether the lines' boxes are boxes. -/
def linesB (m:Nat) (ls:List Ln):Bool:=ls.all fun x=>decide (0 ≤ x.bx) && decide (x.bx < (m:Int))
def numsV (l:List Int):List Value:=l.map (Value.int .i64)
/-- What is known of boxes of a tree. -/
structure BsOk (n:Nat) (bs:List Bx):Prop where
 m80:bs.length ≤ 80
 pos:0 < bs.length
 nd:∀ (i:Nat) (x:Bx),bs[i]? = some x → ∃ k:Nat,x.nd = (k:Int) ∧ k < n
 up:∀ (i:Nat) (x:Bx),bs[i]? = some x → -1 ≤ x.up ∧ x.up < (i:Int)
theorem stepsM_at (f:St → Int) (ns:List Nd) (bs:List Bx) (k j:Nat):(stepsM f ns bs (k + 1)).getD j 0 = if j = k then addM f ns bs k (fromM (stepsM f ns bs k) bs k) else (stepsM f ns bs k).getD j 0:=by
 rw [stepsM,List.getD_eq_getElem?_getD,List.getD_eq_getElem?_getD]
 split
 ·rename_i h
  subst h
  rw [List.getElem?_append_right (by rw [stepsM_len];omega),stepsM_len]
  simp
 ·rename_i h
  by_cases hj:j < k
  ·rw [List.getElem?_append_left (by rw [stepsM_len];exact hj)]
  ·rw [List.getElem?_eq_none (by rw [List.length_append,stepsM_len];simp;omega),List.getElem?_eq_none (by rw [stepsM_len];omega)]
theorem stepsM_no (f:St → Int) (ns:List Nd) (bs:List Bx) (k j:Nat) (h:k ≤ j):(stepsM f ns bs k).getD j 0 = 0:=by
 rw [List.getD_eq_getElem?_getD,List.getElem?_eq_none (by rw [stepsM_len];exact h)]
 rfl
theorem getD_set9 (L:List Int) (k j:Nat) (z:Int) (hk:k < L.length):(L.set k z).getD j 0 = if j = k then z else L.getD j 0:=by
 rw [List.getD_eq_getElem?_getD,List.getD_eq_getElem?_getD]
 split
 ·rename_i h
  subst h
  rw [List.getElem?_set_self hk]
  rfl
 ·rename_i h
  rw [List.getElem?_set_ne (fun e=>h e.symm)]
/-- The row L holds the first k boxes' moves, from c on, with d cells a box. -/
def StAt (f:St → Int) (ns:List Nd) (bs:List Bx) (d c k:Nat) (L:List Int):Prop:=∀ j,j < bs.length → L.getD (j * d + c) 0 = (stepsM f ns bs k).getD j 0
theorem stAt_zero (f:St → Int) (ns:List Nd) (bs:List Bx) (d c m:Nat):StAt f ns bs d c 0 (List.replicate m 0):=fun j hj=>by
 rw [stepsM_no f ns bs 0 j (Nat.zero_le _),List.getD_eq_getElem?_getD,List.getElem?_replicate]
 split <;> rfl
theorem stAt_free {f:St → Int} {ns:List Nd} {bs:List Bx} {d c k:Nat} {L:List Int} (h:StAt f ns bs d c k L) (hk:k < bs.length):L.getD (k * d + c) 0 = 0:=(h k hk).trans (stepsM_no f ns bs k k (Nat.le_refl _))
/-- The next box's move, said of the row's own number. -/
theorem stAt_next {f:St → Int} {ns:List Nd} {bs:List Bx} {d c k:Nat} {L L':List Int} (h:StAt f ns bs d c k L) (hd:0 < d) (z:Int) (hz:z = addM f ns bs k (fromM (stepsM f ns bs k) bs k)) (hk:L'.getD (k * d + c) 0 = z) (ho:∀ j,j ≠ k → L'.getD (j * d + c) 0 = L.getD (j * d + c) 0):StAt f ns bs d c (k + 1) L':=fun j hj=>by
 rw [stepsM_at]
 split
 ·rename_i e
  subst e
  rw [hk,hz]
 ·rename_i e
  rw [ho j e,h j hj]
theorem fromM_up {f:St → Int} {ns:List Nd} {bs:List Bx} {d c k u:Nat} {L:List Int} {x:Bx} (h:StAt f ns bs d c k L) (hx:bs[k]? = some x) (hu:x.up = (u:Int)) (huk:u < bs.length):fromM (stepsM f ns bs k) bs k = L.getD (u * d + c) 0:=by
 unfold fromM
 rw [List.getD_eq_getElem?_getD,hx,Option.getD_some,hu,if_pos (by omega),Int.toNat_natCast,h u huk]
theorem fromM_no {f:St → Int} {ns:List Nd} {bs:List Bx} {k:Nat} {x:Bx} (hx:bs[k]? = some x) (hu:¬ 0 ≤ x.up):fromM (stepsM f ns bs k) bs k = 0:=by
 unfold fromM
 rw [List.getD_eq_getElem?_getD,hx,Option.getD_some,if_neg hu]
theorem addM_no {f:St → Int} {ns:List Nd} {bs:List Bx} {k:Nat} {x:Bx} (hx:bs[k]? = some x) (h:x.kd = 2) (z:Int):addM f ns bs k z = z:=by
 unfold addM
 rw [List.getD_eq_getElem?_getD,hx,Option.getD_some,if_pos h]
theorem addM_yes {f:St → Int} {ns:List Nd} {bs:List Bx} {k q:Nat} {x:Bx} {y:Nd} (hx:bs[k]? = some x) (h:¬ x.kd = 2) (hq:x.nd = (q:Int)) (hy:ns[q]? = some y) (z:Int):addM f ns bs k z = wrap64 (z + f y.st):=by
 unfold addM
 rw [List.getD_eq_getElem?_getD,hx,Option.getD_some,if_neg h,hq,Int.toNat_natCast,List.getD_eq_getElem?_getD,hy,Option.getD_some]
/-- A row of numbers that lies in a block. -/
theorem ints_cell {w:World} {g:Nat} {L:List Int} {t:TypeId} (h:w.heap[g]? = some (.cells (numsV L).toArray t (0,0))) {j:Nat} (hj:j < L.length):w.cell? ⟨g,j,none⟩ = some (.int .i64 (L.getD j 0)):=by
 rw [lies_cell h j]
 simp [numsV,List.getD_eq_getElem?_getD,List.getElem?_eq_getElem hj]
theorem ints_set {w:World} {g:Nat} {L:List Int} {t:TypeId} (h:w.heap[g]? = some (.cells (numsV L).toArray t (0,0))) (j:Nat) (z:Int):(w.setCell ⟨g,j,none⟩ (.int .i64 z)).heap[g]? = some (.cells (numsV (L.set j z)).toArray t (0,0)):=by
 rw [lies_set h]
 simp [numsV]
theorem made_ints (n:Nat):madeCells #[.int .i64 0] (n * 1) = (numsV (List.replicate n 0)).toArray:=by
 refine Array.ext (by simp [size_madeCells,numsV]) (fun i h1 h2=>?_)
 have h4:i % 1 = 0:=Nat.mod_one _
 simp only [madeCells,numsV,Array.getElem_map,Array.getElem_range,List.getElem_toArray,List.getElem_map,List.getElem_replicate]
 show (#[Value.int .i64 0])[i % 1]! = _
 rw [h4]
 rfl
theorem made_steps (n:Nat):madeCells #[.int .i64 0,.int .i64 0] (n * 2) = (numsV (List.replicate (n * 2) 0)).toArray:=by
 refine Array.ext (by simp [size_madeCells,numsV]) (fun i h1 h2=>?_)
 have h4:i % 2 < 2:=Nat.mod_lt _ (by omega)
 simp only [madeCells,numsV,Array.getElem_map,Array.getElem_range,List.getElem_toArray,List.getElem_map,List.getElem_replicate]
 show (#[Value.int .i64 0,.int .i64 0])[i % 2]! = _
 generalize i % 2 = j at h4
 match j,h4 with
 | 0,_=>rfl
 | 1,_=>rfl
theorem makeI_run (n:Nat) (hn:n ≤ 80) (w:World):(Instr.makeSlice 69 (.int .i64 (n:Int)) (.int .i64 (n:Int))).run Tryz.prog w = .ok (.slice (some ⟨w.heap.size,0,none⟩) n n) (w.alloc (.cells (numsV (List.replicate n 0)).toArray 3)):=by
 have hinf:(Tryz.prog.info? 3).map (fun i=>(i.zero,i.size,i.bytes)) = some (some (.int .i64 0),1,8):=by kernel_rfl
 obtain ⟨inf,hq,hz,hs,hb⟩:=info_parts hinf
 have hr:=run_make (P:=Tryz.prog) w 69 3 inf _ Tryz.underlying69 hq hz .i64 .i64 (n:Int) (n:Int) (by omega) (Int.le_refl _) (by rw [hb];omega) (by omega)
 have hm:madeCells (Value.int .i64 0).cells ((n:Int).toNat * inf.size) = (numsV (List.replicate n 0)).toArray:=by
  rw [hs,Int.toNat_natCast];exact made_ints n
 rw [hm,Int.toNat_natCast] at hr
 exact hr
theorem makeS_run (n:Nat) (hn:n ≤ 80) (w:World):(Instr.makeSlice 57 (.int .i64 (n:Int)) (.int .i64 (n:Int))).run Tryz.prog w = .ok (.slice (some ⟨w.heap.size,0,none⟩) n n) (w.alloc (.cells (numsV (List.replicate (n * 2) 0)).toArray 64)):=by
 have hinf:(Tryz.prog.info? 64).map (fun i=>(i.zero,i.size,i.bytes)) = some (some (.agg #[.int .i64 0,.int .i64 0]),2,16):=by kernel_rfl
 obtain ⟨inf,hq,hz,hs,hb⟩:=info_parts hinf
 have hr:=run_make (P:=Tryz.prog) w 57 64 inf _ Tryz.underlying57 hq hz .i64 .i64 (n:Int) (n:Int) (by omega) (Int.le_refl _) (by rw [hb];omega) (by omega)
 have hm:madeCells (Value.agg #[.int .i64 0,.int .i64 0]).cells ((n:Int).toNat * inf.size) = (numsV (List.replicate (n * 2) 0)).toArray:=by
  rw [hs,Int.toNat_natCast];exact made_steps n
 rw [hm,Int.toNat_natCast] at hr
 exact hr
end Go.Proofs.YtjnmloaopnbpgaaGreatDoor
