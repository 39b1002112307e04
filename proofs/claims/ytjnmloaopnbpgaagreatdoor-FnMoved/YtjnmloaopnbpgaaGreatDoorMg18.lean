/-
 The model's place of a float, and its small functions on lengths, whatever the numbers are.
-/
import Derived.Test.YtjnmloaopnbpgaaGreatDoorMg17
namespace Go.Proofs.YtjnmloaopnbpgaaGreatDoor
open Go.ChangeShapes Go.WideShapes Go.ChangeAt Go.RowKit
set_option linter.unusedVariables false
def lowN (l:List Asd) (y:Int):Nat:=(l.filter fun x=>decide (y < botB x)).length
theorem low_lt {l:List Asd} {y o:Int} {x:Asd} (hx:x ∈ l) (ho:o = botB x) (hy:y < o):lowN l o < lowN l y:=by
 unfold lowN
 induction l with
 | nil=>cases hx
 | cons z zs ih =>
  have hmono:(zs.filter fun x=>decide (o < botB x)).length ≤ (zs.filter fun x=>decide (y < botB x)).length:=by
   clear ih hx
   induction zs with
   | nil=>simp
   | cons a t ih2 =>
    simp only [List.filter_cons]
    by_cases h1:o < botB a
    ·have h2:y < botB a:=by omega
     simp [h1,h2]
     exact ih2
    ·by_cases h2:y < botB a
     ·simp [h1,h2]
      omega
     ·simp [h1,h2]
      exact ih2
  rcases List.mem_cons.1 hx with rfl | hx
  ·have h1:¬ o < botB x:=by omega
   have h2:y < botB x:=by omega
   simp only [List.filter_cons]
   simp [h1,h2]
   omega
  ·have:=ih hx
   simp only [List.filter_cons]
   by_cases h1:o < botB z
   ·have h2:y < botB z:=by omega
    simp [h1,h2]
    exact this
   ·by_cases h2:y < botB z
    ·simp [h1,h2]
     omega
    ·simp [h1,h2]
     exact this
theorem low_le (l:List Asd) (y:Int):lowN l y ≤ l.length:=List.length_filter_le _ _
/-- Some float is answered. -/
def AsdRet (e:Ending):Prop:=∃ x:Asd,e = .returned (.agg #[.int .i64 x.sd,.int .i64 x.x,.int .i64 x.y,.int .i64 x.w,.int .i64 x.h])
theorem asdRet (a b c d f:Int):AsdRet (.returned (.agg #[.int .i64 a,.int .i64 b,.int .i64 c,.int .i64 d,.int .i64 f])):=⟨⟨a,b,c,d,f⟩,rfl⟩
set_option maxHeartbeats 8000000 in
theorem put_some (a:Option Addr) (n cap:Nat) (l:List Asd) (side wide high y left right:Int) (w:World) (hn:n = l.length) (hr:AsRow w a l) (hl:n ≤ 1000) :
  Calls Tryz.prog 94 #[.slice a n cap,.int .i64 side,.int .i64 wide,.int .i64 high,.int .i64 y,.int .i64 left,.int .i64 right] w fun e w'=>AsdRet e ∧ Below w.heap.size w w':=by
 have HN:Hid (n = l.length):=hn
 have HR:Hid (AsRow w a l):=hr
 have HL0:Hid ((w.alloc (.cells #[.int .i64 0,.int .i64 0,.int .i64 0,.int .i64 0,.int .i64 0] 61)).heap[w.heap.size]? = some (.cells #[.int .i64 0,.int .i64 0,.int .i64 0,.int .i64 0,.int .i64 0] 61 (0,0))):=heap_alloc_new w _
 have HB0:Hid (Below w.heap.size w (w.alloc (.cells #[.int .i64 0,.int .i64 0,.int .i64 0,.int .i64 0,.int .i64 0] 61))):=(Below.refl _ _).alloc (Nat.le_refl _) _
 clear hn hr
 go_enter Tryz.func94,Tryz.ntmps94
 go_wp2_with fail
 go_loopw [4,22] (fun u i wr=>∃ (k:Nat) (Y:Int),k ≤ n ∧ i = .int .i64 k ∧ u = .int .i64 Y ∧ wr.heap[w.heap.size]? = some (.cells #[.int .i64 0,.int .i64 0,.int .i64 0,.int .i64 0,.int .i64 0] 61 (0,0)) ∧ Below w.heap.size w wr) (fun _ i _=>n - (intOf i).toNat)
 case atStart=>exact ⟨0,_,Nat.zero_le _,rfl,rfl,HL0.out,HB0.out⟩
 case round =>
  obtain ⟨k,m,hk,rfl,rfl,hl2,hbw⟩:=hrel
  clear HL0 HB0
  by_cases hlt:k < n
  ·obtain ⟨x,hx⟩:∃ x,l[k]? = some x:=⟨_,List.getElem?_eq_getElem (by have:=HN.out;omega)⟩
   obtain ⟨b,off,rfl,hc⟩:=as_some HR.out hx
   have hr:=as_below (hc k x hx) hbw (as_lt (hc k x hx))
   obtain ⟨q0,q1,q2,q3,q4⟩:=as_cells hr
   have b2:∀ o,Below w.heap.size w (wr.alloc o):=fun o=>hbw.alloc hbw.size _
   have l2:∀ o,(wr.alloc o).heap[w.heap.size]? = some (.cells #[.int .i64 0,.int .i64 0,.int .i64 0,.int .i64 0,.int .i64 0] 61 (0,0)):=fun o=>heap_in hl2
   clear hc hx hr hl2 hbw
   by_cases h:m < x.y
   all_goals
    go_wp2
    go_roundw
    case rel=>exact ⟨k + 1,_,by omega,by go_num,rfl,l2 _,b2 _⟩
    case measure=>simp [intOf];omega
  have HL2:Hid (wr.heap[w.heap.size]? = some (.cells #[.int .i64 0,.int .i64 0,.int .i64 0,.int .i64 0,.int .i64 0] 61 (0,0))):=hl2
  have HBW:Hid (Below w.heap.size w wr):=hbw
  clear hl2 hbw
  go_wp2_with fail
  go_loopw [4] (fun u wr=>∃ (Y:Int),u = .int .i64 Y ∧ wr.heap[w.heap.size]? = some (.cells #[.int .i64 0,.int .i64 0,.int .i64 0,.int .i64 0,.int .i64 0] 61 (0,0)) ∧ Below w.heap.size w wr) (fun u _=>lowN l (intOf u))
  case atStart=>exact ⟨_,rfl,HL2.out,HBW.out⟩
  case round =>
   clear HL2 HBW
   obtain ⟨Y,rfl,hl2,hbw⟩:=hrel
   go_wp2_with fail
   refine (room_some a n cap l Y high left right _ HN.out (HR.out.below hbw) hl).mono ?_
   rintro e w2 ⟨A,C,rfl,c2⟩
   have b2:=hbw.trans (c2.mono hbw.size)
   have l2:=below_lies c2 hl2 (lies_lt hl2)
   clear c2 hbw hl2
   go_wp2_with fail
   refine (any_some a n cap l Y high _ HN.out (HR.out.below b2) hl).mono ?_
   rintro e w3 ⟨⟨bo,rfl,hbo⟩,c3⟩
   have b3:=b2.trans (c3.mono b2.size)
   have l3:=below_lies c3 l2 (lies_lt l2)
   have s3:=b3.size
   have t3:=lies_lt l3
   clear c3 b2 l2
   by_cases hok:bo = false ∨ wide ≤ wrap64 (C - A)
   ·have HBO:Hid (bo = false ∨ wide ≤ wrap64 (C - A)):=hok
    clear hbo hok
    have pass:bo = false ∨ (bo = true ∧ wide ≤ wrap64 (C - A)):=by
     rcases HBO.out with h | h
     ·exact .inl h
     ·cases bo
      ·exact .inl rfl
      ·exact .inr ⟨rfl,h⟩
    by_cases hs:side = 2
    ·subst hs
     rcases pass with rfl | ⟨rfl,hw⟩
     all_goals
      go_wp2_with ((with_reducible show wpList _ _ _ (⟨none,Op.store 61 (Operand.tmp 14) (Operand.tmp 66),_,_,_,_⟩ :: _) _ _);refine wpList_putA rfl _ _ _ rfl rfl w.heap.size 0 5 [.int .i64 2,.int .i64 (wrap64 (C - wide)),.int .i64 Y,.int .i64 wide,.int .i64 high] #[.int .i64 0,.int .i64 0,.int .i64 0,.int .i64 0,.int .i64 0] 61 rfl (by go_simp) (heap_in l3) rfl (by kernel_rfl) (by kernel_rfl) (by kernel_rfl) ?_;intro w9 p9 l9 n9)
      exact bodyPost_ret (v:=.agg #[.int .i64 2,.int .i64 (wrap64 (C - wide)),.int .i64 Y,.int .i64 wide,.int .i64 high]) (results_cell_row Tryz.results94 _ _ _ _ _ _ _ rfl l9 Tryz.underlying61 rfl (by kernel_rfl)) rfl ⟨asdRet _ _ _ _ _,p9.below (b3.alloc b3.size _) (Nat.le_refl _)⟩
    ·have bs:(side == 2) = false:=by simpa using hs
     rcases pass with rfl | ⟨rfl,hw⟩
     all_goals
      go_wp2_with ((with_reducible show wpList _ _ _ (⟨none,Op.store 61 (Operand.tmp 14) (Operand.tmp 66),_,_,_,_⟩ :: _) _ _);refine wpList_putA rfl _ _ _ rfl rfl w.heap.size 0 5 [.int .i64 side,.int .i64 A,.int .i64 Y,.int .i64 wide,.int .i64 high] #[.int .i64 0,.int .i64 0,.int .i64 0,.int .i64 0,.int .i64 0] 61 rfl (by go_simp) (heap_in l3) rfl (by kernel_rfl) (by kernel_rfl) (by kernel_rfl) ?_;intro w9 p9 l9 n9)
      exact bodyPost_ret (v:=.agg #[.int .i64 side,.int .i64 A,.int .i64 Y,.int .i64 wide,.int .i64 high]) (results_cell_row Tryz.results94 _ _ _ _ _ _ _ rfl l9 Tryz.underlying61 rfl (by kernel_rfl)) rfl ⟨asdRet _ _ _ _ _,p9.below (b3.alloc b3.size _) (Nat.le_refl _)⟩
   ·have hb1:bo = true:=by cases bo <;> simp_all
    subst hb1
    have hw:¬ wide ≤ wrap64 (C - A):=fun h=>hok (.inr h)
    obtain ⟨z,hz,hzb⟩:=hbo rfl
    have HZ:Hid (z ∈ l ∧ Y < botB z):=⟨hz,hzb⟩
    clear hok hbo hz hzb
    go_wp2_with fail
    refine (next_some a n cap l Y _ HN.out (HR.out.below b3) hl).mono ?_
    rintro e w4 ⟨⟨o,f,rfl,hf1,hf2⟩,c4⟩
    have b4:=b3.trans (c4.mono b3.size)
    have l4:=below_lies c4 l3 (lies_lt l3)
    have hft:f = true:=by
     cases f
     ·exact absurd HZ.out.2 (hf2 rfl z HZ.out.1)
     ·rfl
    obtain ⟨z',hz',ho,hlt'⟩:=hf1 hft
    have HM:Hid (lowN l o < lowN l Y):=low_lt hz' ho hlt'
    clear c4 b3 l3 hf1 hf2 hz' ho hlt' hft
    go_wp2
    go_roundw
    case rel=>exact ⟨_,rfl,l4,b4⟩
    case measure=>simpa [intOf] using HM.out
/-- Some number is answered. -/
def IntRet (e:Ending):Prop:=∃ z:Int,e = .returned (.int .i64 z)
theorem intRet (z:Int):IntRet (.returned (.int .i64 z)):=⟨z,rfl⟩
set_option maxHeartbeats 2000000 in
theorem clamp_ret (a b d:Int) (w:World):Calls Tryz.prog 61 #[.int .i64 a,.int .i64 b,.int .i64 d] w fun e w'=>IntRet e ∧ w' = w:=by
 by_cases h1:0 ≤ d
 all_goals by_cases h2:d < a
 all_goals by_cases h3:a < b
 all_goals by_cases h4:d < b
 all_goals
  go_enter Tryz.func61,Tryz.ntmps61
  go_wp2
  go_ret
  exact ⟨intRet _,rfl⟩
theorem clamp_some:ClampOk:=fun a b d w=>(clamp_ret a b d w).mono fun e w' ⟨⟨z,h⟩,hw⟩=>⟨z,h,hw⟩
set_option maxHeartbeats 2000000 in
theorem down2_some (a:Int) (w:World):Calls Tryz.prog 80 #[.int .i64 a,.int .i64 2] w fun e w'=>IntRet e ∧ w' = w:=by
 by_cases h:a.tmod 2 < 0
 all_goals
  go_enter Tryz.func80,Tryz.ntmps80
  go_wp2
  go_ret
  exact ⟨intRet _,rfl⟩
set_option maxHeartbeats 2000000 in
theorem down10_some (a:Int) (w:World):Calls Tryz.prog 80 #[.int .i64 a,.int .i64 10000] w fun e w'=>IntRet e ∧ w' = w:=by
 by_cases h:a.tmod 10000 < 0
 all_goals
  go_enter Tryz.func80,Tryz.ntmps80
  go_wp2
  go_ret
  exact ⟨intRet _,rfl⟩
set_option maxHeartbeats 2000000 in
theorem percent_some (a b:Int) (w:World):Calls Tryz.prog 91 #[.int .i64 a,.int .i64 b] w fun e w'=>IntRet e ∧ w' = w:=by
 go_enter Tryz.func91,Tryz.ntmps91
 go_wp2_with fail
 refine (down10_some _ _).mono ?_
 rintro e w' ⟨⟨z,rfl⟩,rfl⟩
 go_wp2
 go_ret
 exact ⟨intRet _,rfl⟩
set_option maxHeartbeats 2000000 in
theorem size_some (a p:Bool) (n b:Int) (w:World):Calls Tryz.prog 78 #[.agg #[.bool a,.bool p,.int .i64 n],.int .i64 b] w fun e w'=>IntRet e ∧ Below w.heap.size w w':=by
 have bel:=(Below.refl w.heap.size w).alloc (Nat.le_refl _) (.cells #[.bool a,.bool p,.int .i64 n] 71)
 have HB:Hid (_):=bel
 clear bel
 cases p
 ·go_enter Tryz.func78,Tryz.ntmps78
  go_wp2
  go_ret
  exact ⟨intRet _,HB.out⟩
 ·go_enter Tryz.func78,Tryz.ntmps78
  go_wp2_with fail
  refine (percent_some _ _ _).mono ?_
  rintro e w' ⟨⟨z,rfl⟩,rfl⟩
  go_wp2
  go_ret
  exact ⟨intRet _,HB.out⟩
set_option maxHeartbeats 2000000 in
theorem edge_some (s:St) (w:World):Calls Tryz.prog 79 #[.agg (stCells s)] w fun e w'=>IntRet e ∧ Below w.heap.size w w':=by
 have l0:(w.alloc (.cells (stCells s) 73)).heap[w.heap.size]? = some (.cells (stCells s) 73 (0,0)):=heap_at _ _ _ rfl
 have bel:Below w.heap.size w (w.alloc (.cells (stCells s) 73)):=(Below.refl _ _).alloc (Nat.le_refl _) _
 have s19:(w.alloc (.cells (stCells s) 73)).cell? ⟨w.heap.size,19,none⟩ = some (.int .i64 s.bo):=(lies_cell l0 19).trans rfl
 have s20:(w.alloc (.cells (stCells s) 73)).cell? ⟨w.heap.size,20,none⟩ = some (.int .i64 s.pa):=(lies_cell l0 20).trans rfl
 have HB:Hid (_):=bel
 clear bel l0
 go_enter Tryz.func79,Tryz.ntmps79
 go_wp2
 go_ret
 exact ⟨intRet _,HB.out⟩
set_option maxHeartbeats 4000000 in
theorem parts_some (fa fd fn fu fb:Int) (h:Int) (w:World):Calls Tryz.prog 96 #[.agg #[.int .i64 fa,.int .i64 fd,.int .i64 fn,.int .i64 fu,.int .i64 fb],.int .i64 h] w fun e w'=>∃ p q:Int,e = .returned (.tuple #[.int .i64 p,.int .i64 q]) ∧ Below w.heap.size w w':=by
 have bel:=(Below.refl w.heap.size w).alloc (Nat.le_refl _) (.cells #[.int .i64 fa,.int .i64 fd,.int .i64 fn,.int .i64 fu,.int .i64 fb] 48)
 have HB:Hid (_):=bel
 clear bel
 by_cases h0:h = 0
 ·subst h0
  go_enter Tryz.func96,Tryz.ntmps96
  go_wp2_with fail
  go_region_with (go_at_call 80;go_fit (down2_some _ _);rintro e w1 ⟨⟨z,rfl⟩,rfl⟩)
  all_goals
   go_wp2
   go_ret2
   exact ⟨_,_,rfl,HB.out.drew⟩
 ·have b0:(h == 0) = false:=by simpa using h0
  go_enter Tryz.func96,Tryz.ntmps96
  go_wp2_with fail
  go_region_with (go_at_call 80;go_fit (down2_some _ _);rintro e w1 ⟨⟨z,rfl⟩,rfl⟩)
  all_goals
   go_wp2
   go_ret2
   exact ⟨_,_,rfl,HB.out.drew⟩
end Go.Proofs.YtjnmloaopnbpgaaGreatDoor
