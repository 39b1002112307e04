/-
 Contract of the model's cut of a first line: it ends at a break.
 The law's own copy of a style is that style.
-/
import Derived.Test.YtjnmloaopnbpgaaGreatDoorMg4
import Derived.Test.YtjnmloaopnbpgaaGreatDoorMg5
namespace Go.Proofs.YtjnmloaopnbpgaaGreatDoor
open Go.ChangeShapes Go.WideShapes Go.ChangeAt Go.RowKit
set_option linter.unusedVariables false
/-- Where a first line may end. -/
def Cuts (soft:Bool) (s:ByteArray) (n:Nat):Prop:=1 ≤ n ∧ n ≤ s.size ∧ mayB soft s.data.toList n = true
set_option maxRecDepth 100000 in
set_option maxHeartbeats 8000000 in
theorem cut_any (fa fd fn fu fb white room:Int) (s:ByteArray) (w:World) (hs:s.size ≤ 200) (h0:0 < s.size) (hf:1 ≤ fn ∧ fn ≤ 6400 ∧ 1 ≤ fu ∧ fu ≤ 6400 ∧ 1 ≤ fb ∧ fb ≤ 6400) :
  Calls Tryz.prog 98 #[.agg #[.int .i64 fa,.int .i64 fd,.int .i64 fn,.int .i64 fu,.int .i64 fb],.int .i64 white,.string s,.int .i64 room] w fun e w'=>∃ n:Nat,e = .returned (.int .i64 n) ∧ Cuts (softW white) s n ∧ Below w.heap.size w w':=by
 have hlen:0 < (placesL (mayB (softW white) s.data.toList) s.size).length:=by
  rw [places_cnt]
  exact cnt_pos _ _ h0 (by have:=may_end (softW white) s.data.toList;rwa [show s.data.toList.length = s.size by simp] at this)
 have hle:=placesL_len (mayB (softW white) s.data.toList) s.size
 have HM:Hid (∀ i,i < (placesL (mayB (softW white) s.data.toList) s.size).length → ∃ m:Nat,(placesL (mayB (softW white) s.data.toList) s.size).getD i 0 = (m:Int) ∧ Cuts (softW white) s m):=fun i hi=>by
  obtain ⟨m,h1,h2,h3,h4⟩:=places_mem _ _ i hi
  exact ⟨m,h1,h2,h3,h4⟩
 have BR:=fun W=>breaks_any white s W hs
 generalize placesL (mayB (softW white) s.data.toList) s.size = zs at hlen hle HM BR
 obtain ⟨G,hG⟩:∃ G:Nat → Prop,G = Cuts (softW white) s:=⟨_,rfl⟩
 have HG:Hid (G = Cuts (softW white) s):=hG
 have HZ:Hid (∀ i,i < zs.length → ∃ m:Nat,zs.getD i 0 = (m:Int) ∧ G m ∧ 1 ≤ m ∧ m ≤ s.size):=fun i hi=>by
  obtain ⟨m,h1,h2⟩:=HM.out i hi
  exact ⟨m,h1,by rw [hG];exact h2,h2.1,h2.2.1⟩
 rw [← hG]
 clear hG HM
 obtain ⟨N,hN⟩:∃ N,N = zs.length:=⟨_,rfl⟩
 have HN:Hid (N = zs.length):=hN
 rw [← hN] at hlen hle
 go_enter Tryz.func98,Tryz.ntmps98
 go_wp2_with fail
 refine (BR _).mono ?_
 rintro e w1 ⟨v,rfl,ho,hb⟩
 have hB1:BoxAt w1 w.heap.size fa fd fn fu fb:=(box_new w fa fd fn fu fb).below hb
 have hb1:Below w.heap.size w w1:=((Below.refl _ _).alloc (Nat.le_refl _) _).trans (hb.mono (by simp))
 obtain ⟨a,cap,rfl,hrow⟩:=ho.row
 rw [← hN]
 clear ho hb BR hN
 go_wp2_with fail
 go_loopw [9,16] (fun o i wr=>∃ (j:Nat) (q:Int),j ≤ N ∧ i = .int .i64 j ∧ o = .int .i64 q ∧ ((q = 0 ∧ j = 0) ∨ ∃ m:Nat,q = (m:Int) ∧ G m) ∧ Row wr a zs ∧ BoxAt wr w.heap.size fa fd fn fu fb ∧ Below w.heap.size w wr) (fun _ i _=>N - (intOf i).toNat)
 case atStart=>exact ⟨0,0,Nat.zero_le _,rfl,rfl,.inl ⟨rfl,rfl⟩,hrow,hB1,hb1⟩
 case round =>
  obtain ⟨j,q,hj,rfl,rfl,hq,hR,hBk,hbel⟩:=hrel
  clear hrow hB1 hb1
  by_cases hlt:j < N
  rotate_left
  ·obtain ⟨m,rfl,hg⟩:∃ m:Nat,q = (m:Int) ∧ G m:=by
    rcases hq with ⟨_,h⟩ | h
    ·omega
    ·exact h
   clear hq
   go_wp2
   go_ret
   exact ⟨m,rfl,hg,hbel⟩
  obtain ⟨m,hm,hgm,hm1,hm2⟩:=HZ.out j (by rw [← HN.out];exact hlt)
  obtain ⟨bb,off,hcx⟩:∃ bb off,a = some ⟨bb,off,none⟩ ∧ wr.cell? ⟨bb,off + j,none⟩ = some (.int .i64 (m:Int)):=by
   rcases hR with h | ⟨bb,off,rfl,hc⟩
   ·have:=HN.out;rw [h] at this;simp at this;omega
   ·exact ⟨bb,off,rfl,by rw [hc j (by rw [← HN.out];exact hlt),hm]⟩
  obtain ⟨rfl,hcx⟩:=hcx
  have HR:Hid (Row wr (some ⟨bb,off,none⟩) zs):=hR
  have HGM:Hid (G m):=hgm
  have HQ:Hid ((q = 0 ∧ j = 0) ∨ ∃ m:Nat,q = (m:Int) ∧ G m):=hq
  clear hR hgm hq hm
  obtain ⟨m,rfl⟩:∃ m',m = m' + 1:=⟨m - 1,by omega⟩
  have hcx:wr.cell? ⟨bb,off + j,none⟩ = some (.int .i64 ((m:Int) + 1)):=hcx
  obtain ⟨b0,b1,b2,b3,b4,b5⟩:=id hBk
  have q1:(0:Int) ≤ (m:Int) + 1:=by omega
  have q2:(m:Int) + 1 ≤ (s.size:Int):=by omega
  have q7:m < s.size:=by omega
  have q8:(0:Int) ≤ (m:Int):=by omega
  have q9:(m:Int) < (s.size:Int):=by omega
  have q10:IntKind.i64.wrap ((m:Int) + 1 - 1) = (m:Int):=by rw [IntKind.wrap_i64];omega
  have q11:IntKind.i64.wrap (m:Int) = (m:Int):=by rw [IntKind.wrap_i64];omega
  have WI:=fun W=>specWidth_any fa fd fn fu fb (s.extract 0 (m + 1)) W (by rw [ByteArray.size_extract];omega) hf
  generalize Wd fn fu fb (s.extract 0 (m + 1)) = z at WI
  go_wp2_with fail
  by_cases hq0:q = 0
  ·subst hq0
   go_quiet (fail)
   all_goals
    go_wp2_with fail
    generalize hwd:wr.drewN _ = wd
    have hBd:BoxAt wd w.heap.size fa fd fn fu fb:=by rw [← hwd];exact hBk.below (below_drewN (Below.refl _ _) _)
    have RD:Row wd (some ⟨bb,off,none⟩) zs:=by rw [← hwd];exact HR.out.below (below_drewN (Below.refl _ _) _)
    have BD:Below w.heap.size w wd:=by rw [← hwd];exact below_drewN hbel _
    clear hwd b0 b1 b2 b3 b4 b5 hbel hBk hcx HR
    obtain ⟨c0,c1,c2,c3,c4,c5⟩:=id hBd
    by_cases h10:(s[m].toNat:Int) = 10
    ·go_quiet (fail)
     all_goals
      go_wp2
      go_ret
      exact ⟨m + 1,by go_num,HGM.out,below_drewN BD _⟩
    have b10:((s[m].toNat:Int) == 10) = false:=by simpa using h10
    by_cases hzr:z ≤ room
    ·have d1:¬ room < z:=by omega
     go_region_with (go_at_call 99;go_fit (WI _);rintro e w2 ⟨rfl,hc⟩)
     all_goals
      have hc':Below wd.heap.size wd w2:=⟨hc.os,hc.tape,hc.output,hc.size,hc.block⟩
      have hx2:=hBd.below hc'
      have R2:=(RD).below hc'
      have B2:=(BD).trans (hc'.mono (BD).size)
      clear hc hc'
      go_wp2
      go_roundw
      case rel=>exact ⟨j + 1,_,by omega,by go_num,rfl,.inr ⟨m + 1,by go_num,HGM.out⟩,R2,hx2,B2⟩
      case measure=>simp [intOf];omega
    ·have d1:room < z:=by omega
     go_region_with (go_at_call 99;go_fit (WI _);rintro e w2 ⟨rfl,hc⟩)
     all_goals
      have hc':Below wd.heap.size wd w2:=⟨hc.os,hc.tape,hc.output,hc.size,hc.block⟩
      have B2:=(BD).trans (hc'.mono (BD).size)
      clear hc hc'
      go_wp2
      go_ret
      exact ⟨m + 1,by go_num,HGM.out,B2⟩
  obtain ⟨k,hqk,hgk⟩:∃ k:Nat,q = (k:Int) ∧ G k:=by
   rcases HQ.out with ⟨h,_⟩ | h
   ·exact absurd h hq0
   ·exact h
  have HK:Hid (q = (k:Int)):=hqk
  have hg:Hid (G k):=hgk
  clear hqk hgk
  have bq:(q == 0) = false:=by simpa using hq0
  by_cases hzr:z ≤ room
  ·go_region_held3 (fun w'=>w'.cell? ⟨w.heap.size,0,none⟩ = some (.int .i64 fa) ∧ w'.cell? ⟨w.heap.size,1,none⟩ = some (.int .i64 fd) ∧ w'.cell? ⟨w.heap.size,2,none⟩ = some (.int .i64 fn) ∧ w'.cell? ⟨w.heap.size,3,none⟩ = some (.int .i64 fu) ∧ w'.cell? ⟨w.heap.size,4,none⟩ = some (.int .i64 fb)) (first | go_keep | exact hx1.2) ((first | (go_at_call 99;refine (WI _).mono ?_;rintro e w1 ⟨rfl,hb⟩;have hx1:BoxAt w1 w.heap.size fa fd fn fu fb:=(by first | exact hBk.below ⟨hb.os,hb.tape,hb.output,hb.size,hb.block⟩ | fail)) | fail))
   all_goals
    have hb':Below wr.heap.size wr w1:=⟨hb.os,hb.tape,hb.output,hb.size,hb.block⟩
    have R1:=HR.out.below hb'
    have B1:=hbel.trans (hb'.mono hbel.size)
    clear hb hb' b0 b1 b2 b3 b4 b5
    go_wp2_with fail
    obtain ⟨c0,c1,c2,c3,c4,c5⟩:=id hx1
    by_cases h10:(s[m].toNat:Int) = 10
    ·go_quiet (fail)
     all_goals
      go_wp2
      go_ret
      exact ⟨m + 1,by go_num,HGM.out,below_drewN B1 _⟩
    have b10:((s[m].toNat:Int) == 10) = false:=by simpa using h10
    have d1:¬ room < z:=by omega
    go_region_with (go_at_call 99;go_fit (WI _);rintro e w2 ⟨rfl,hc⟩)
    all_goals
     have hc':Below w1.heap.size w1 w2:=⟨hc.os,hc.tape,hc.output,hc.size,hc.block⟩
     have hx2:=hx1.below hc'
     have R2:=(R1).below hc'
     have B2:=(B1).trans (hc'.mono (B1).size)
     clear hc hc'
     go_wp2
     go_roundw
     case rel=>exact ⟨j + 1,_,by omega,by go_num,rfl,.inr ⟨m + 1,by go_num,HGM.out⟩,R2,hx2,B2⟩
     case measure=>simp [intOf];omega
  ·go_region_held3 (fun w'=>w'.cell? ⟨w.heap.size,0,none⟩ = some (.int .i64 fa) ∧ w'.cell? ⟨w.heap.size,1,none⟩ = some (.int .i64 fd) ∧ w'.cell? ⟨w.heap.size,2,none⟩ = some (.int .i64 fn) ∧ w'.cell? ⟨w.heap.size,3,none⟩ = some (.int .i64 fu) ∧ w'.cell? ⟨w.heap.size,4,none⟩ = some (.int .i64 fb)) (first | go_keep | exact hx1.2) ((first | (go_at_call 99;refine (WI _).mono ?_;rintro e w1 ⟨rfl,hb⟩;have hx1:BoxAt w1 w.heap.size fa fd fn fu fb:=(by first | exact hBk.below ⟨hb.os,hb.tape,hb.output,hb.size,hb.block⟩ | fail)) | fail))
   all_goals
    have hb':Below wr.heap.size wr w1:=⟨hb.os,hb.tape,hb.output,hb.size,hb.block⟩
    have R1:=HR.out.below hb'
    have B1:=hbel.trans (hb'.mono hbel.size)
    clear hb hb' b0 b1 b2 b3 b4 b5
    go_wp2_with fail
    obtain ⟨c0,c1,c2,c3,c4,c5⟩:=id hx1
    by_cases h10:(s[m].toNat:Int) = 10
    ·go_quiet (fail)
     all_goals
      go_wp2
      go_ret
      exact ⟨k,by rw [HK.out];rfl,hg.out,below_drewN B1 _⟩
    have b10:((s[m].toNat:Int) == 10) = false:=by simpa using h10
    have d1:room < z:=by omega
    go_region_with (go_at_call 99;go_fit (WI _);rintro e w2 ⟨rfl,hc⟩)
    all_goals
     have hc':Below w1.heap.size w1 w2:=⟨hc.os,hc.tape,hc.output,hc.size,hc.block⟩
     have B2:=(B1).trans (hc'.mono (B1).size)
     clear hc hc'
     go_wp2
     go_ret
     exact ⟨k,by rw [HK.out];rfl,hg.out,B2⟩
end Go.Proofs.YtjnmloaopnbpgaaGreatDoor
