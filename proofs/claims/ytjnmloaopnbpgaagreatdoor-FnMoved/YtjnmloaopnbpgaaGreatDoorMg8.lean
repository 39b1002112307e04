/-
 The program's method 'good' on one thing of a style: a number between its limits; a size by its own rule.
 The model's GoodStyle, for every style.
 The things of a style, by number; the program's checkStyle and GoodStyle, for every style.
 The program's GoodStyle, for every style; its eighteen things are good just where the model's tests are met.
 The program's test of one node in itself.
 slices.Index over a row of ints: the first place, or -1.
 The program's GoodTree, for every row of nodes: it says just what treeB says.
-/
import Derived.Test.YtjnmloaopnbpgaaGreatDoorMg2
import Derived.Test.YtjnmloaopnbpgaaGreatDoorMg7
namespace Go.Proofs.YtjnmloaopnbpgaaGreatDoor
open Go.ChangeShapes Go.WideShapes Go.ChangeAt Go.RowKit
set_option linter.unusedVariables false
theorem inB_is {lo hi n:Int} (h:lo ≤ n ∧ n ≤ hi):true = inB lo hi n:=(decide_eq_true h).symm
theorem inB_not {lo hi n:Int} (h:¬ (lo ≤ n ∧ n ≤ hi)):false = inB lo hi n:=(decide_eq_false h).symm
def szT (lo hi:Int) (np a p:Bool) (n:Int):Bool:=if a then (decide (n = 0) && !p) else if p then (!np && decide (max lo (-100000) ≤ n) && decide (n ≤ 100000)) else inB lo hi n
set_option maxHeartbeats 2000000 in
theorem goodN_any (nm:ByteArray) (b o:Nat) (lo hi n:Int) (np:Bool) (w:World) (hc:w.cell? ⟨b,o,none⟩ = some (.int .i64 n)) :
  Calls Tryz.prog 115 #[.agg #[.string nm,.pointer (some ⟨b,o,none⟩),.pointer none,.int .i64 lo,.int .i64 hi,.bool np]] w fun e w'=>e = .returned (.bool (inB lo hi n)) ∧ Below w.heap.size w w':=by
 have hb:b < w.heap.size:=World.block_lt_of_cell? _ ⟨b,o,none⟩ hc
 by_cases h1:lo ≤ n
 ·by_cases h2:n ≤ hi
  ·go_enter Tryz.func115,Tryz.ntmps115
   go_wp2
   go_quiet (fail)
   all_goals
    go_wp2
    go_ret
    exact ⟨ret_bool (inB_is (by omega)),below_drewN ((Below.refl _ _).alloc (Nat.le_refl _) _) _⟩
  ·have hd:decide (n ≤ hi) = false:=by simpa using h2
   go_enter Tryz.func115,Tryz.ntmps115
   go_wp2
   go_quiet (fail)
   all_goals
    go_wp2
    go_ret
    exact ⟨ret_bool (inB_not (by omega)),below_drewN ((Below.refl _ _).alloc (Nat.le_refl _) _) _⟩
 ·have hd:decide (lo ≤ n) = false:=by simpa using h1
  go_enter Tryz.func115,Tryz.ntmps115
  go_wp2
  go_quiet (fail)
  all_goals
   go_wp2
   go_ret
   exact ⟨ret_bool (inB_not (by omega)),below_drewN ((Below.refl _ _).alloc (Nat.le_refl _) _) _⟩
set_option maxHeartbeats 2000000 in
theorem goodS_any (nm:ByteArray) (b o:Nat) (lo hi n:Int) (np a p:Bool) (w:World) (hc0:w.cell? ⟨b,o,none⟩ = some (.bool a)) (hc1:w.cell? ⟨b,o + 1,none⟩ = some (.bool p)) (hc2:w.cell? ⟨b,o + 2,none⟩ = some (.int .i64 n)) :
  Calls Tryz.prog 115 #[.agg #[.string nm,.pointer none,.pointer (some ⟨b,o,none⟩),.int .i64 lo,.int .i64 hi,.bool np]] w fun e w'=>e = .returned (.bool (szT lo hi np a p n)) ∧ Below w.heap.size w w':=by
 have hb:b < w.heap.size:=World.block_lt_of_cell? _ ⟨b,o,none⟩ hc0
 cases a
 ·cases p
  ·by_cases h1:lo ≤ n
   ·by_cases h2:n ≤ hi
    ·go_enter Tryz.func115,Tryz.ntmps115
     go_wp2
     go_ret
     exact ⟨ret_bool (inB_is (by omega)),(Below.refl _ _).alloc (Nat.le_refl _) _⟩
    ·go_enter Tryz.func115,Tryz.ntmps115
     go_wp2
     go_ret
     exact ⟨ret_bool (inB_not (by omega)),(Below.refl _ _).alloc (Nat.le_refl _) _⟩
   ·have hd:decide (lo ≤ n) = false:=by simpa using h1
    go_enter Tryz.func115,Tryz.ntmps115
    go_wp2
    go_ret
    exact ⟨ret_bool (inB_not (by omega)),(Below.refl _ _).alloc (Nat.le_refl _) _⟩
  ·cases np
   ·by_cases hlo:-100000 ≤ lo
    ·have hm:max lo (-100000) = lo:=by omega
     by_cases h1:lo ≤ n
     ·by_cases h2:n ≤ 100000
      ·go_enter Tryz.func115,Tryz.ntmps115
       go_wp2
       go_ret
       exact ⟨ret_bool (by simp [szT];omega),(Below.refl _ _).alloc (Nat.le_refl _) _⟩
      ·go_enter Tryz.func115,Tryz.ntmps115
       go_wp2
       go_ret
       exact ⟨ret_bool (by simp [szT];omega),(Below.refl _ _).alloc (Nat.le_refl _) _⟩
     ·go_enter Tryz.func115,Tryz.ntmps115
      go_wp2
      go_ret
      exact ⟨ret_bool (by simp [szT];omega),(Below.refl _ _).alloc (Nat.le_refl _) _⟩
    ·have hm:max lo (-100000) = -100000:=by omega
     by_cases h1:-100000 ≤ n
     ·by_cases h2:n ≤ 100000
      ·go_enter Tryz.func115,Tryz.ntmps115
       go_wp2
       go_ret
       exact ⟨ret_bool (by simp [szT];omega),(Below.refl _ _).alloc (Nat.le_refl _) _⟩
      ·go_enter Tryz.func115,Tryz.ntmps115
       go_wp2
       go_ret
       exact ⟨ret_bool (by simp [szT];omega),(Below.refl _ _).alloc (Nat.le_refl _) _⟩
     ·go_enter Tryz.func115,Tryz.ntmps115
      go_wp2
      go_ret
      exact ⟨ret_bool (by simp [szT];omega),(Below.refl _ _).alloc (Nat.le_refl _) _⟩
   ·go_enter Tryz.func115,Tryz.ntmps115
    go_wp2
    go_ret
    exact ⟨rfl,(Below.refl _ _).alloc (Nat.le_refl _) _⟩
 ·by_cases hn:n = 0
  ·subst hn
   cases p
   ·go_enter Tryz.func115,Tryz.ntmps115
    go_wp2
    go_ret
    exact ⟨rfl,(Below.refl _ _).alloc (Nat.le_refl _) _⟩
   ·go_enter Tryz.func115,Tryz.ntmps115
    go_wp2
    go_ret
    exact ⟨rfl,(Below.refl _ _).alloc (Nat.le_refl _) _⟩
  ·go_enter Tryz.func115,Tryz.ntmps115
   go_wp2
   go_ret
   exact ⟨ret_bool (by simp [szT,hn]),(Below.refl _ _).alloc (Nat.le_refl _) _⟩
def gA (s:St):Bool:=inB 1 3 s.sh && inB 0 2 s.fl && inB 0 3 s.cl && inB 1 5 s.wh && inB 1 3 s.al
def gB (s:St):Bool:=szB s.w.a s.w.p s.w.n && szB s.h.a s.h.p s.h.n && szB s.ml.a s.ml.p s.ml.n && szB s.mr.a s.mr.p s.mr.n
def gC (s:St):Bool:=!decide (s.w.n < 0) && !decide (s.h.n < 0) && !s.h.p && inB 0 1000000 s.mn && inB (-1) 1000000 s.mx
def gD (s:St):Bool:=inB (-1000000) 1000000 s.mt && inB (-1000000) 1000000 s.mb && inB (-1000000) 1000000 s.ri && inB (-1000000) 1000000 s.dn
def gE (s:St):Bool:=inB 0 64000 s.bo && inB 0 64000 s.pa && inB 0 64000 s.lh
def styleB (s:St):Bool:=gA s && gB s && gC s && gD s && gE s
/-- The first k sizes are good. -/
def okS (s:St) (k:Nat):Prop:=(0 < k → szB s.w.a s.w.p s.w.n = true) ∧ (1 < k → szB s.h.a s.h.p s.h.n = true) ∧ (2 < k → szB s.ml.a s.ml.p s.ml.n = true) ∧ (3 < k → szB s.mr.a s.mr.p s.mr.n = true)
set_option maxHeartbeats 4000000 in
theorem specGood_A (s:St) (w:World) (h:gA s = false) :
  Calls Tryz.prog 53 #[.agg #[.int .i64 s.sh,.int .i64 s.fl,.int .i64 s.cl,.bool s.w.a,.bool s.w.p,.int .i64 s.w.n,.bool s.h.a,.bool s.h.p,.int .i64 s.h.n,.int .i64 s.mn,.int .i64 s.mx,.int .i64 s.mt,.bool s.mr.a,.bool s.mr.p,.int .i64 s.mr.n,.int .i64 s.mb,.bool s.ml.a,.bool s.ml.p,.int .i64 s.ml.n,.int .i64 s.bo,.int .i64 s.pa,.int .i64 s.wh,.int .i64 s.al,.int .i64 s.lh,.int .i64 s.ri,.int .i64 s.dn]] w fun e w'=>e = .returned (.bool false) ∧ Below w.heap.size w w':=by
 unfold gA at h
 cases h1:inB 1 3 s.sh
 ·go_enter Tryz.func53,Tryz.ntmps53
  go_wp2_with (first | (go_at_call 21;refine (l1In_any _ _ _ _).mono ?_;rintro e w' ⟨rfl,rfl⟩) | (go_at_call 73;refine (l3White_any _ _).mono ?_;rintro e w' ⟨rfl,rfl⟩))
  go_ret
  exact ⟨rfl,(Below.refl _ _).alloc (Nat.le_refl _) _⟩
 cases h2:inB 0 2 s.fl
 ·go_enter Tryz.func53,Tryz.ntmps53
  go_wp2_with (first | (go_at_call 21;refine (l1In_any _ _ _ _).mono ?_;rintro e w' ⟨rfl,rfl⟩) | (go_at_call 73;refine (l3White_any _ _).mono ?_;rintro e w' ⟨rfl,rfl⟩))
  go_ret
  exact ⟨rfl,(Below.refl _ _).alloc (Nat.le_refl _) _⟩
 cases h3:inB 0 3 s.cl
 ·go_enter Tryz.func53,Tryz.ntmps53
  go_wp2_with (first | (go_at_call 21;refine (l1In_any _ _ _ _).mono ?_;rintro e w' ⟨rfl,rfl⟩) | (go_at_call 73;refine (l3White_any _ _).mono ?_;rintro e w' ⟨rfl,rfl⟩))
  go_ret
  exact ⟨rfl,(Below.refl _ _).alloc (Nat.le_refl _) _⟩
 cases h4:inB 1 5 s.wh
 ·go_enter Tryz.func53,Tryz.ntmps53
  go_wp2_with (first | (go_at_call 21;refine (l1In_any _ _ _ _).mono ?_;rintro e w' ⟨rfl,rfl⟩) | (go_at_call 73;refine (l3White_any _ _).mono ?_;rintro e w' ⟨rfl,rfl⟩))
  go_ret
  exact ⟨rfl,(Below.refl _ _).alloc (Nat.le_refl _) _⟩
 cases h5:inB 1 3 s.al
 ·go_enter Tryz.func53,Tryz.ntmps53
  go_wp2_with (first | (go_at_call 21;refine (l1In_any _ _ _ _).mono ?_;rintro e w' ⟨rfl,rfl⟩) | (go_at_call 73;refine (l3White_any _ _).mono ?_;rintro e w' ⟨rfl,rfl⟩))
  go_ret
  exact ⟨rfl,(Below.refl _ _).alloc (Nat.le_refl _) _⟩
 ·simp [h1,h2,h3,h4,h5] at h
def nmT (k:Nat):ByteArray:=([⟨#[115,104,111,119]⟩,⟨#[102,108,111,97,116]⟩,⟨#[99,108,101,97,114]⟩,⟨#[119,105,100,116,104]⟩,⟨#[104,101,105,103,104,116]⟩,⟨#[109,105,110,45,119,105,100,116,104]⟩,⟨#[109,97,120,45,119,105,100,116,104]⟩,⟨#[109,97,114,103,105,110,45,116,111,112]⟩,⟨#[109,97,114,103,105,110,45,114,105,103,104,116]⟩,⟨#[109,97,114,103,105,110,45,98,111,116,116,111,109]⟩,⟨#[109,97,114,103,105,110,45,108,101,102,116]⟩,⟨#[98,111,114,100,101,114]⟩,⟨#[112,97,100,100,105,110,103]⟩,⟨#[119,104,105,116,101]⟩,⟨#[97,108,105,103,110]⟩,⟨#[108,105,110,101,45,104,101,105,103,104,116]⟩,⟨#[114,105,103,104,116]⟩,⟨#[100,111,119,110]⟩]:List ByteArray).getD k ByteArray.empty
def p1T (b k:Nat):Option Addr:=([some ⟨b,0,none⟩,some ⟨b,1,none⟩,some ⟨b,2,none⟩,none,none,some ⟨b,9,none⟩,some ⟨b,10,none⟩,some ⟨b,11,none⟩,none,some ⟨b,15,none⟩,none,some ⟨b,19,none⟩,some ⟨b,20,none⟩,some ⟨b,21,none⟩,some ⟨b,22,none⟩,some ⟨b,23,none⟩,some ⟨b,24,none⟩,some ⟨b,25,none⟩]:List (Option Addr)).getD k none
def p2T (b k:Nat):Option Addr:=([none,none,none,some ⟨b,3,none⟩,some ⟨b,6,none⟩,none,none,none,some ⟨b,12,none⟩,none,some ⟨b,16,none⟩,none,none,none,none,none,none,none]:List (Option Addr)).getD k none
def loT (k:Nat):Int:=([1,0,0,0,0,0,-1,-1000000,-1000000,-1000000,-1000000,0,0,1,1,0,-1000000,-1000000]:List Int).getD k 0
def hiT (k:Nat):Int:=([3,2,3,1000000,1000000,1000000,1000000,1000000,1000000,1000000,1000000,64000,64000,5,3,64000,1000000,1000000]:List Int).getD k 0
def npT (k:Nat):Bool:=([false,false,false,false,true,false,false,false,false,false,false,false,false,false,false,false,false,false]:List Bool).getD k false
def goodT (s:St) (k:Nat):Bool:=([inB 1 3 s.sh,inB 0 2 s.fl,inB 0 3 s.cl,szT 0 1000000 false s.w.a s.w.p s.w.n,szT 0 1000000 true s.h.a s.h.p s.h.n,inB 0 1000000 s.mn,inB (-1) 1000000 s.mx,inB (-1000000) 1000000 s.mt,szT (-1000000) 1000000 false s.mr.a s.mr.p s.mr.n,inB (-1000000) 1000000 s.mb,szT (-1000000) 1000000 false s.ml.a s.ml.p s.ml.n,inB 0 64000 s.bo,inB 0 64000 s.pa,inB 1 5 s.wh,inB 1 3 s.al,inB 0 64000 s.lh,inB (-1000000) 1000000 s.ri,inB (-1000000) 1000000 s.dn]:List Bool).getD k true
theorem lt18 {k:Nat} (h:k < 18):k = 0 ∨ k = 1 ∨ k = 2 ∨ k = 3 ∨ k = 4 ∨ k = 5 ∨ k = 6 ∨ k = 7 ∨ k = 8 ∨ k = 9 ∨ k = 10 ∨ k = 11 ∨ k = 12 ∨ k = 13 ∨ k = 14 ∨ k = 15 ∨ k = 16 ∨ k = 17:=by omega
theorem thing_cells (b:Nat) {k:Nat} (h:k < 18):(thingCells b)[k * 6]? = some (.string (nmT k)) ∧ (thingCells b)[k * 6 + 1]? = some (.pointer (p1T b k)) ∧ (thingCells b)[k * 6 + 2]? = some (.pointer (p2T b k)) ∧ (thingCells b)[k * 6 + 3]? = some (.int .i64 (loT k)) ∧ (thingCells b)[k * 6 + 4]? = some (.int .i64 (hiT k)) ∧ (thingCells b)[k * 6 + 5]? = some (.bool (npT k)):=by
 rcases lt18 h with rfl | rfl | rfl | rfl | rfl | rfl | rfl | rfl | rfl | rfl | rfl | rfl | rfl | rfl | rfl | rfl | rfl | rfl <;> exact ⟨rfl,rfl,rfl,rfl,rfl,rfl⟩
theorem good_k (s:St) (b k:Nat) (h:k < 18) (w:World) (l0:w.heap[b]? = some (.cells (#[.int .i64 s.sh,.int .i64 s.fl,.int .i64 s.cl,.bool s.w.a,.bool s.w.p,.int .i64 s.w.n,.bool s.h.a,.bool s.h.p,.int .i64 s.h.n,.int .i64 s.mn,.int .i64 s.mx,.int .i64 s.mt,.bool s.mr.a,.bool s.mr.p,.int .i64 s.mr.n,.int .i64 s.mb,.bool s.ml.a,.bool s.ml.p,.int .i64 s.ml.n,.int .i64 s.bo,.int .i64 s.pa,.int .i64 s.wh,.int .i64 s.al,.int .i64 s.lh,.int .i64 s.ri,.int .i64 s.dn]) 73 (0,0))) :
  Calls Tryz.prog 115 #[.agg #[.string (nmT k),.pointer (p1T b k),.pointer (p2T b k),.int .i64 (loT k),.int .i64 (hiT k),.bool (npT k)]] w fun e w'=>e = .returned (.bool (goodT s k)) ∧ Below w.heap.size w w':=by
 have hc:=lies_cell l0
 clear l0
 rcases lt18 h with rfl | rfl | rfl | rfl | rfl | rfl | rfl | rfl | rfl | rfl | rfl | rfl | rfl | rfl | rfl | rfl | rfl | rfl
 ·exact goodN_any _ _ _ _ _ _ _ _ (hc 0)
 ·exact goodN_any _ _ _ _ _ _ _ _ (hc 1)
 ·exact goodN_any _ _ _ _ _ _ _ _ (hc 2)
 ·exact goodS_any _ _ _ _ _ _ _ _ _ _ (hc 3) (hc 4) (hc 5)
 ·exact goodS_any _ _ _ _ _ _ _ _ _ _ (hc 6) (hc 7) (hc 8)
 ·exact goodN_any _ _ _ _ _ _ _ _ (hc 9)
 ·exact goodN_any _ _ _ _ _ _ _ _ (hc 10)
 ·exact goodN_any _ _ _ _ _ _ _ _ (hc 11)
 ·exact goodS_any _ _ _ _ _ _ _ _ _ _ (hc 12) (hc 13) (hc 14)
 ·exact goodN_any _ _ _ _ _ _ _ _ (hc 15)
 ·exact goodS_any _ _ _ _ _ _ _ _ _ _ (hc 16) (hc 17) (hc 18)
 ·exact goodN_any _ _ _ _ _ _ _ _ (hc 19)
 ·exact goodN_any _ _ _ _ _ _ _ _ (hc 20)
 ·exact goodN_any _ _ _ _ _ _ _ _ (hc 21)
 ·exact goodN_any _ _ _ _ _ _ _ _ (hc 22)
 ·exact goodN_any _ _ _ _ _ _ _ _ (hc 23)
 ·exact goodN_any _ _ _ _ _ _ _ _ (hc 24)
 ·exact goodN_any _ _ _ _ _ _ _ _ (hc 25)
def allT (s:St):Bool:=(List.range 18).all (goodT s)
theorem allT_no {s:St} {k:Nat} (h:k < 18) (hk:goodT s k = false):allT s = false:=by
 unfold allT
 rw [List.all_eq_false]
 exact ⟨k,List.mem_range.2 h,by simp [hk]⟩
theorem allT_yes {s:St} (h:∀ j,j < 18 → goodT s j = true):allT s = true:=by
 unfold allT
 rw [List.all_eq_true]
 exact fun j hj=>h j (List.mem_range.1 hj)
set_option maxHeartbeats 4000000 in
theorem checkStyle_any (s:St) (w:World) (et:TypeId) (ev:Value) (he:w.cell? ⟨0,0,none⟩ = some (.iface et ev)) :
  Calls Tryz.prog 103 #[.agg #[.int .i64 s.sh,.int .i64 s.fl,.int .i64 s.cl,.bool s.w.a,.bool s.w.p,.int .i64 s.w.n,.bool s.h.a,.bool s.h.p,.int .i64 s.h.n,.int .i64 s.mn,.int .i64 s.mx,.int .i64 s.mt,.bool s.mr.a,.bool s.mr.p,.int .i64 s.mr.n,.int .i64 s.mb,.bool s.ml.a,.bool s.ml.p,.int .i64 s.ml.n,.int .i64 s.bo,.int .i64 s.pa,.int .i64 s.wh,.int .i64 s.al,.int .i64 s.lh,.int .i64 s.ri,.int .i64 s.dn]] w fun e w'=>∃ v,e = .returned v ∧ ((allT s = true ∧ v = .nilIface) ∨ (allT s = false ∧ ∃ a,v = .iface 166 (.pointer (some a)))) ∧ Below w.heap.size w w':=by
 have lte:0 < w.heap.size:=World.block_lt_of_cell? _ ⟨0,0,none⟩ he
 have HE:Hid (w.cell? ⟨0,0,none⟩ = some (.iface et ev)):=he
 clear he
 go_enter Tryz.func103,Tryz.ntmps103
 go_wp2_with (go_at_call 114;refine (thingsOf_at _ _).mono ?_;rintro e w1 ⟨rfl,rfl⟩)
 go_loopw [7] (fun i wr=>∃ k:Nat,k ≤ 18 ∧ i = .int .i64 k ∧ (∀ j,j < k → goodT s j = true) ∧ wr.heap[w.heap.size]? = some (.cells (#[.int .i64 s.sh,.int .i64 s.fl,.int .i64 s.cl,.bool s.w.a,.bool s.w.p,.int .i64 s.w.n,.bool s.h.a,.bool s.h.p,.int .i64 s.h.n,.int .i64 s.mn,.int .i64 s.mx,.int .i64 s.mt,.bool s.mr.a,.bool s.mr.p,.int .i64 s.mr.n,.int .i64 s.mb,.bool s.ml.a,.bool s.ml.p,.int .i64 s.ml.n,.int .i64 s.bo,.int .i64 s.pa,.int .i64 s.wh,.int .i64 s.al,.int .i64 s.lh,.int .i64 s.ri,.int .i64 s.dn]) 73 (0,0)) ∧ wr.heap[w.heap.size + 1]? = some (.cells (thingCells w.heap.size) 165 (0,0)) ∧ Below w.heap.size w wr) (fun i _=>18 - (intOf i).toNat)
 case atStart=>exact ⟨0,by omega,rfl,fun j hj=>absurd hj (by omega),heap_in (heap_at _ _ _ rfl),heap_at _ _ _ (by simp),(((Below.refl _ _).alloc (Nat.le_refl _) _).alloc (by simp) _).drew⟩
 case round =>
  obtain ⟨k,hk,rfl,hp,l0,l1,bel⟩:=hrel
  have HP:Hid (∀ j,j < k → goodT s j = true):=hp
  clear hp
  have lt1:=lies_lt l1
  have lt0:=lies_lt l0
  have L0:Hid (wr.heap[w.heap.size]? = some (.cells (#[.int .i64 s.sh,.int .i64 s.fl,.int .i64 s.cl,.bool s.w.a,.bool s.w.p,.int .i64 s.w.n,.bool s.h.a,.bool s.h.p,.int .i64 s.h.n,.int .i64 s.mn,.int .i64 s.mx,.int .i64 s.mt,.bool s.mr.a,.bool s.mr.p,.int .i64 s.mr.n,.int .i64 s.mb,.bool s.ml.a,.bool s.ml.p,.int .i64 s.ml.n,.int .i64 s.bo,.int .i64 s.pa,.int .i64 s.wh,.int .i64 s.al,.int .i64 s.lh,.int .i64 s.ri,.int .i64 s.dn]) 73 (0,0))):=l0
  have L1:Hid (wr.heap[w.heap.size + 1]? = some (.cells (thingCells w.heap.size) 165 (0,0))):=l1
  clear l0
  by_cases hlt:k < 18
  ·have GK:=fun (W:World) (o:Obj) (h:wr.alloc o = W)=>good_k s w.heap.size k hlt (wr.alloc o) (heap_in L0.out)
   obtain ⟨t0,t1,t2,t3,t4,t5⟩:=thing_cells w.heap.size hlt
   have c0:=(lies_cell l1 _).trans t0
   have c1:=(lies_cell l1 _).trans t1
   have c2:=(lies_cell l1 _).trans t2
   have c3:=(lies_cell l1 _).trans t3
   have c4:=(lies_cell l1 _).trans t4
   have c5:=(lies_cell l1 _).trans t5
   clear t0 t1 t2 t3 t4 t5 l1
   cases hg:goodT s k
   ·go_wp2_with (go_at_call 115;refine (GK _ _ rfl).mono ?_;rintro e w1 ⟨rfl,hb⟩;have ce:w1.cell? ⟨0,0,none⟩ = some (.iface et ev):=((bel.alloc (Nat.le_of_lt lt0) _).trans (hb.mono (by simp;omega))).cell (p:=⟨0,0,none⟩) lte |>.trans HE.out;have cs:w1.cell? ⟨wr.heap.size,0,none⟩ = some (.string (nmT k)):=(hb.cell (p:=⟨wr.heap.size,0,none⟩) (by simp)).trans (by simp [go_sem]))
    go_ret
    exact ⟨_,rfl,.inr ⟨allT_no hlt hg,_,rfl⟩,((bel.alloc (Nat.le_of_lt lt0) _).trans (hb.mono (by simp;omega))).alloc (by have:=hb.size;simp at this;omega) _⟩
   ·go_wp2_with (go_at_call 115;refine (GK _ _ rfl).mono ?_;rintro e w1 ⟨rfl,hb⟩)
    go_roundw
    case rel=>exact ⟨k + 1,by omega,by go_num,fun j hj=>by (rcases Nat.lt_succ_iff_lt_or_eq.1 hj with h | rfl;exact HP.out j h;exact hg),below_lies hb (heap_in L0.out) (by simp;omega),below_lies hb (heap_in L1.out) (by simp;omega),(bel.alloc (Nat.le_of_lt lt0) _).trans (hb.mono (by simp;omega))⟩
    case measure=>simp [intOf];omega
  ·have e:k = 18:=by omega
   subst e
   go_wp2
   go_ret
   exact ⟨_,rfl,.inl ⟨allT_yes HP.out,rfl⟩,bel⟩
theorem szT_len (a p:Bool) (n:Int):szT (-1000000) 1000000 false a p n = szB a p n:=by
 rw [Bool.eq_iff_iff]
 cases a <;> cases p <;> simp [szT,szB,inB] <;> omega
theorem szT_width (a p:Bool) (n:Int):szT 0 1000000 false a p n = (szB a p n && !decide (n < 0)):=by
 rw [Bool.eq_iff_iff]
 cases a <;> cases p <;> simp [szT,szB,inB] <;> omega
theorem szT_height (a p:Bool) (n:Int):szT 0 1000000 true a p n = (szB a p n && !decide (n < 0) && !p):=by
 rw [Bool.eq_iff_iff]
 cases a <;> cases p <;> simp [szT,szB,inB] <;> omega
theorem allT_eq (s:St):allT s = styleB s:=by
 have e:allT s = (goodT s 0 && (goodT s 1 && (goodT s 2 && (goodT s 3 && (goodT s 4 && (goodT s 5 && (goodT s 6 && (goodT s 7 && (goodT s 8 && (goodT s 9 && (goodT s 10 && (goodT s 11 && (goodT s 12 && (goodT s 13 && (goodT s 14 && (goodT s 15 && (goodT s 16 && (goodT s 17 && true)))))))))))))))))):=rfl
 rw [e]
 simp only [goodT,List.getD_cons_zero,List.getD_cons_succ]
 rw [szT_len,szT_len,szT_width,szT_height]
 unfold styleB gA gB gC gD gE
 rw [Bool.eq_iff_iff]
 simp only [Bool.and_eq_true]
 constructor
 ·rintro ⟨h0,h1,h2,⟨h3,h3'⟩,⟨⟨h4,h4'⟩,h4''⟩,h5,h6,h7,h8,h9,h10,h11,h12,h13,h14,h15,h16,h17,_⟩
  exact ⟨⟨⟨⟨⟨⟨⟨⟨h0,h1⟩,h2⟩,h13⟩,h14⟩,⟨⟨h3,h4⟩,h10⟩,h8⟩,⟨⟨⟨h3',h4'⟩,h4''⟩,h5⟩,h6⟩,⟨⟨h7,h9⟩,h16⟩,h17⟩,⟨h11,h12⟩,h15⟩
 ·rintro ⟨⟨⟨⟨⟨⟨⟨⟨h0,h1⟩,h2⟩,h13⟩,h14⟩,⟨⟨h3,h4⟩,h10⟩,h8⟩,⟨⟨⟨h3',h4'⟩,h4''⟩,h5⟩,h6⟩,⟨⟨h7,h9⟩,h16⟩,h17⟩,⟨h11,h12⟩,h15⟩
  exact ⟨h0,h1,h2,⟨h3,h3'⟩,⟨⟨h4,h4'⟩,h4''⟩,h5,h6,h7,h8,h9,h10,h11,h12,h13,h14,h15,h16,h17,trivial⟩
set_option maxRecDepth 100000 in
set_option maxHeartbeats 4000000 in
theorem implGoodStyle_any (s:St) (w:World) (et:TypeId) (ev:Value) (he:w.cell? ⟨0,0,none⟩ = some (.iface et ev)) :
  Calls Tryz.prog 85 #[.agg #[.int .i64 s.sh,.int .i64 s.fl,.int .i64 s.cl,.bool s.w.a,.bool s.w.p,.int .i64 s.w.n,.bool s.h.a,.bool s.h.p,.int .i64 s.h.n,.int .i64 s.mn,.int .i64 s.mx,.int .i64 s.mt,.bool s.mr.a,.bool s.mr.p,.int .i64 s.mr.n,.int .i64 s.mb,.bool s.ml.a,.bool s.ml.p,.int .i64 s.ml.n,.int .i64 s.bo,.int .i64 s.pa,.int .i64 s.wh,.int .i64 s.al,.int .i64 s.lh,.int .i64 s.ri,.int .i64 s.dn]] w fun e w'=>e = .returned (.bool (styleB s)) ∧ Below w.heap.size w w':=by
 rw [← allT_eq]
 have lte:0 < w.heap.size:=World.block_lt_of_cell? _ ⟨0,0,none⟩ he
 have CK:=checkStyle_any s (w.alloc (.cells (#[.int .i64 s.sh,.int .i64 s.fl,.int .i64 s.cl,.bool s.w.a,.bool s.w.p,.int .i64 s.w.n,.bool s.h.a,.bool s.h.p,.int .i64 s.h.n,.int .i64 s.mn,.int .i64 s.mx,.int .i64 s.mt,.bool s.mr.a,.bool s.mr.p,.int .i64 s.mr.n,.int .i64 s.mb,.bool s.ml.a,.bool s.ml.p,.int .i64 s.ml.n,.int .i64 s.bo,.int .i64 s.pa,.int .i64 s.wh,.int .i64 s.al,.int .i64 s.lh,.int .i64 s.ri,.int .i64 s.dn]) 73)) et ev (by rw [← he];exact ((Below.refl w.heap.size w).alloc (Nat.le_refl _) _).cell (p:=⟨0,0,none⟩) lte)
 clear he
 go_enter Tryz.func85,Tryz.ntmps85
 go_wp2_with (first
  | (show wpList _ _ _ (⟨some 3,Op.load 73 _,_,_,_,_⟩ :: _) _ _;refine wpList_load_row rfl 73 _ rfl w.heap.size rfl _ (#[.int .i64 s.sh,.int .i64 s.fl,.int .i64 s.cl,.bool s.w.a,.bool s.w.p,.int .i64 s.w.n,.bool s.h.a,.bool s.h.p,.int .i64 s.h.n,.int .i64 s.mn,.int .i64 s.mx,.int .i64 s.mt,.bool s.mr.a,.bool s.mr.p,.int .i64 s.mr.n,.int .i64 s.mb,.bool s.ml.a,.bool s.ml.p,.int .i64 s.ml.n,.int .i64 s.bo,.int .i64 s.pa,.int .i64 s.wh,.int .i64 s.al,.int .i64 s.lh,.int .i64 s.ri,.int .i64 s.dn]) _ _ (heap_at _ _ _ rfl) Tryz.underlying73 rfl (by kernel_rfl) ?_)
  | (go_at_call 103;refine CK.mono ?_;rintro e w1 ⟨v,rfl,hv,hb⟩;rcases hv with ⟨ha,rfl⟩ | ⟨ha,a,rfl⟩))
 all_goals
  go_wp2
  go_ret
  exact ⟨ret_bool ha.symm,((Below.refl _ _).alloc (Nat.le_refl _) _).trans (hb.mono (by simp))⟩
theorem tx_nil {s:ByteArray} (h:s.size = 0):s.toList = []:=by
 rw [ByteArray.toList_eq]
 exact List.eq_nil_of_length_eq_zero (by simpa using h)
theorem tx_not_nil {s:ByteArray} (h:¬ s.size = 0):s.toList ≠ []:=by
 rw [ByteArray.toList_eq]
 exact fun e=>h (by have:=congrArg List.length e;simpa using this)
theorem wpList_load_midG {P:Program} {ops:Array Oper} {rest:List Oper} {op:Oper} {a:Act} {w:World} {Q:Exit → Act → World → Prop} (hw:Region.wanted op (yielded ops a.tmps) = true) (ty:TypeId) (x:Operand) (ho:op.op = .load ty x)
  (b o:Nat) (hx:a.eval x = .pointer (some ⟨b,o,none⟩)) (cs:List Value) (d:TypeDesc) (hc:w.rangeAt b o cs)
  (hu:P.underlying ty = some d) (hd:d.isRow = true) (hi:(P.info? ty).map (·.size) = some cs.length)
  (h:wpList P ops Q rest (a.put op.dst (.agg cs.toArray)) w):wpList P ops Q (op :: rest) a w :=
 wpList_step fun K hK=>by rw [if_pos hw];exact wp_load_mid ty x ho b o hx cs d hc hu hd hi (hK _ _ h)
set_option maxRecDepth 100000 in
set_option maxHeartbeats 4000000 in
theorem goodNode_any (n:Nd) (w:World) (hs:n.tx.size ≤ maxLen) (et:TypeId) (ev:Value) (he:w.cell? ⟨0,0,none⟩ = some (.iface et ev)) :
  Calls Tryz.prog 66 #[.agg #[.int .i64 n.up,.string n.tx,.int .i64 n.st.sh,.int .i64 n.st.fl,.int .i64 n.st.cl,.bool n.st.w.a,.bool n.st.w.p,.int .i64 n.st.w.n,.bool n.st.h.a,.bool n.st.h.p,.int .i64 n.st.h.n,.int .i64 n.st.mn,.int .i64 n.st.mx,.int .i64 n.st.mt,.bool n.st.mr.a,.bool n.st.mr.p,.int .i64 n.st.mr.n,.int .i64 n.st.mb,.bool n.st.ml.a,.bool n.st.ml.p,.int .i64 n.st.ml.n,.int .i64 n.st.bo,.int .i64 n.st.pa,.int .i64 n.st.wh,.int .i64 n.st.al,.int .i64 n.st.lh,.int .i64 n.st.ri,.int .i64 n.st.dn]] w fun e w'=>e = .returned (.bool (okN (okB true) styleB n)) ∧ Below w.heap.size w w':=by
 have lte:0 < w.heap.size:=World.block_lt_of_cell? _ ⟨0,0,none⟩ he
 have IT:=fun W=>implIsText_any n W
 have TX:=fun W=>isText_any n.tx W hs
 have GS:=fun (W:World) (h:Below w.heap.size w W)=>implGoodStyle_any n.st W et ev ((h.cell (p:=⟨0,0,none⟩) lte).trans he)
 clear he
 cases hz:zeroS n.st
 ·rw [hz] at IT
  by_cases h0:n.tx.size = 0
  ·have HF:Hid (okN (okB true) styleB n = styleB n.st):=by show _ = _;simp [okN,hz,h0]
   have e1:=tx_nil h0
   clear h0
   generalize styleB n.st = r at GS HF
   go_enter Tryz.func66,Tryz.ntmps66
   iterate 12 go_step
   refine wp_gen1 ?_
   intro W bel l0 hsz
   go_wp2_with (with_reducible show wpList _ _ _ (⟨some 3,Op.load 75 _,_,_,_,_⟩ :: _) _ _;refine wpList_load_row rfl 75 _ rfl w.heap.size rfl _ (#[.int .i64 n.up,.string n.tx,.int .i64 n.st.sh,.int .i64 n.st.fl,.int .i64 n.st.cl,.bool n.st.w.a,.bool n.st.w.p,.int .i64 n.st.w.n,.bool n.st.h.a,.bool n.st.h.p,.int .i64 n.st.h.n,.int .i64 n.st.mn,.int .i64 n.st.mx,.int .i64 n.st.mt,.bool n.st.mr.a,.bool n.st.mr.p,.int .i64 n.st.mr.n,.int .i64 n.st.mb,.bool n.st.ml.a,.bool n.st.ml.p,.int .i64 n.st.ml.n,.int .i64 n.st.bo,.int .i64 n.st.pa,.int .i64 n.st.wh,.int .i64 n.st.al,.int .i64 n.st.lh,.int .i64 n.st.ri,.int .i64 n.st.dn]) _ _ l0 Tryz.underlying75 rfl (by kernel_rfl) ?_)
   refine (IT _).mono ?_
   rintro e w1 ⟨rfl,hb⟩
   have l1:=below_lies hb l0 (lies_lt l0)
   have b1:=bel.trans (hb.mono (by omega))
   have hc1:w1.cell? ⟨w.heap.size,1,none⟩ = some (.string n.tx):=(lies_cell l1 1).trans rfl
   have R1:w1.rangeAt w.heap.size 2 (#[.int .i64 n.st.sh,.int .i64 n.st.fl,.int .i64 n.st.cl,.bool n.st.w.a,.bool n.st.w.p,.int .i64 n.st.w.n,.bool n.st.h.a,.bool n.st.h.p,.int .i64 n.st.h.n,.int .i64 n.st.mn,.int .i64 n.st.mx,.int .i64 n.st.mt,.bool n.st.mr.a,.bool n.st.mr.p,.int .i64 n.st.mr.n,.int .i64 n.st.mb,.bool n.st.ml.a,.bool n.st.ml.p,.int .i64 n.st.ml.n,.int .i64 n.st.bo,.int .i64 n.st.pa,.int .i64 n.st.wh,.int .i64 n.st.al,.int .i64 n.st.lh,.int .i64 n.st.ri,.int .i64 n.st.dn]:Array Value).toList:=fun j v hj=>(lies_cell l1 (2 + j)).trans (by rw [← hj,show (#[.int .i64 n.st.sh,.int .i64 n.st.fl,.int .i64 n.st.cl,.bool n.st.w.a,.bool n.st.w.p,.int .i64 n.st.w.n,.bool n.st.h.a,.bool n.st.h.p,.int .i64 n.st.h.n,.int .i64 n.st.mn,.int .i64 n.st.mx,.int .i64 n.st.mt,.bool n.st.mr.a,.bool n.st.mr.p,.int .i64 n.st.mr.n,.int .i64 n.st.mb,.bool n.st.ml.a,.bool n.st.ml.p,.int .i64 n.st.ml.n,.int .i64 n.st.bo,.int .i64 n.st.pa,.int .i64 n.st.wh,.int .i64 n.st.al,.int .i64 n.st.lh,.int .i64 n.st.ri,.int .i64 n.st.dn]:Array Value).toList = (#[.int .i64 n.up,.string n.tx,.int .i64 n.st.sh,.int .i64 n.st.fl,.int .i64 n.st.cl,.bool n.st.w.a,.bool n.st.w.p,.int .i64 n.st.w.n,.bool n.st.h.a,.bool n.st.h.p,.int .i64 n.st.h.n,.int .i64 n.st.mn,.int .i64 n.st.mx,.int .i64 n.st.mt,.bool n.st.mr.a,.bool n.st.mr.p,.int .i64 n.st.mr.n,.int .i64 n.st.mb,.bool n.st.ml.a,.bool n.st.ml.p,.int .i64 n.st.ml.n,.int .i64 n.st.bo,.int .i64 n.st.pa,.int .i64 n.st.wh,.int .i64 n.st.al,.int .i64 n.st.lh,.int .i64 n.st.ri,.int .i64 n.st.dn]:Array Value).toList.drop 2 from rfl,List.getElem?_drop];simp)
   have G1:=GS w1 b1
   clear l0 l1 hb bel hsz IT TX GS
   go_wp2_with (with_reducible show wpList _ _ _ (⟨some 18,Op.load 73 _,_,_,_,_⟩ :: _) _ _;refine wpList_load_midG ?q0 73 _ rfl w.heap.size 2 ?q1 (#[.int .i64 n.st.sh,.int .i64 n.st.fl,.int .i64 n.st.cl,.bool n.st.w.a,.bool n.st.w.p,.int .i64 n.st.w.n,.bool n.st.h.a,.bool n.st.h.p,.int .i64 n.st.h.n,.int .i64 n.st.mn,.int .i64 n.st.mx,.int .i64 n.st.mt,.bool n.st.mr.a,.bool n.st.mr.p,.int .i64 n.st.mr.n,.int .i64 n.st.mb,.bool n.st.ml.a,.bool n.st.ml.p,.int .i64 n.st.ml.n,.int .i64 n.st.bo,.int .i64 n.st.pa,.int .i64 n.st.wh,.int .i64 n.st.al,.int .i64 n.st.lh,.int .i64 n.st.ri,.int .i64 n.st.dn]:Array Value).toList _ R1 Tryz.underlying73 rfl (by kernel_rfl) ?_)
   case q1=>rfl
   go_wp2_with fail
   refine G1.mono ?_
   rintro e w2 ⟨rfl,hb2⟩
   go_wp2
   go_ret
   exact ⟨ret_bool HF.out.symm,b1.trans (hb2.mono b1.size)⟩
  ·have HF:Hid (okN (okB true) styleB n = false):=by show _ = _;simp [okN,hz,h0]
   have e1:=tx_not_nil h0
   clear h0 GS TX
   go_enter Tryz.func66,Tryz.ntmps66
   iterate 12 go_step
   refine wp_gen1 ?_
   intro W bel l0 hsz
   go_wp2_with (with_reducible show wpList _ _ _ (⟨some 3,Op.load 75 _,_,_,_,_⟩ :: _) _ _;refine wpList_load_row rfl 75 _ rfl w.heap.size rfl _ (#[.int .i64 n.up,.string n.tx,.int .i64 n.st.sh,.int .i64 n.st.fl,.int .i64 n.st.cl,.bool n.st.w.a,.bool n.st.w.p,.int .i64 n.st.w.n,.bool n.st.h.a,.bool n.st.h.p,.int .i64 n.st.h.n,.int .i64 n.st.mn,.int .i64 n.st.mx,.int .i64 n.st.mt,.bool n.st.mr.a,.bool n.st.mr.p,.int .i64 n.st.mr.n,.int .i64 n.st.mb,.bool n.st.ml.a,.bool n.st.ml.p,.int .i64 n.st.ml.n,.int .i64 n.st.bo,.int .i64 n.st.pa,.int .i64 n.st.wh,.int .i64 n.st.al,.int .i64 n.st.lh,.int .i64 n.st.ri,.int .i64 n.st.dn]) _ _ l0 Tryz.underlying75 rfl (by kernel_rfl) ?_)
   refine (IT _).mono ?_
   rintro e w1 ⟨rfl,hb⟩
   have l1:=below_lies hb l0 (lies_lt l0)
   have b1:=bel.trans (hb.mono (by omega))
   have hc1:w1.cell? ⟨w.heap.size,1,none⟩ = some (.string n.tx):=(lies_cell l1 1).trans rfl
   clear l0 l1 hb bel hsz IT
   go_wp2
   go_ret
   exact ⟨ret_bool HF.out.symm,b1⟩
 ·rw [hz] at IT
  by_cases h0:n.tx.size = 0
  ·have HF:Hid (okN (okB true) styleB n = false):=by show _ = _;simp [okN,hz,h0]
   have e1:=tx_nil h0
   clear h0 GS TX
   go_enter Tryz.func66,Tryz.ntmps66
   iterate 12 go_step
   refine wp_gen1 ?_
   intro W bel l0 hsz
   go_wp2_with (with_reducible show wpList _ _ _ (⟨some 3,Op.load 75 _,_,_,_,_⟩ :: _) _ _;refine wpList_load_row rfl 75 _ rfl w.heap.size rfl _ (#[.int .i64 n.up,.string n.tx,.int .i64 n.st.sh,.int .i64 n.st.fl,.int .i64 n.st.cl,.bool n.st.w.a,.bool n.st.w.p,.int .i64 n.st.w.n,.bool n.st.h.a,.bool n.st.h.p,.int .i64 n.st.h.n,.int .i64 n.st.mn,.int .i64 n.st.mx,.int .i64 n.st.mt,.bool n.st.mr.a,.bool n.st.mr.p,.int .i64 n.st.mr.n,.int .i64 n.st.mb,.bool n.st.ml.a,.bool n.st.ml.p,.int .i64 n.st.ml.n,.int .i64 n.st.bo,.int .i64 n.st.pa,.int .i64 n.st.wh,.int .i64 n.st.al,.int .i64 n.st.lh,.int .i64 n.st.ri,.int .i64 n.st.dn]) _ _ l0 Tryz.underlying75 rfl (by kernel_rfl) ?_)
   refine (IT _).mono ?_
   rintro e w1 ⟨rfl,hb⟩
   have l1:=below_lies hb l0 (lies_lt l0)
   have b1:=bel.trans (hb.mono (by omega))
   have hc1:w1.cell? ⟨w.heap.size,1,none⟩ = some (.string n.tx):=(lies_cell l1 1).trans rfl
   clear l0 l1 hb bel hsz IT
   go_wp2
   go_ret
   exact ⟨ret_bool HF.out.symm,b1⟩
  ·have HF:Hid (okN (okB true) styleB n = okB true n.tx):=by show _ = _;simp [okN,hz,h0]
   have e1:=tx_not_nil h0
   clear h0 GS
   generalize okB true n.tx = r at TX HF
   go_enter Tryz.func66,Tryz.ntmps66
   iterate 12 go_step
   refine wp_gen1 ?_
   intro W bel l0 hsz
   go_wp2_with (with_reducible show wpList _ _ _ (⟨some 3,Op.load 75 _,_,_,_,_⟩ :: _) _ _;refine wpList_load_row rfl 75 _ rfl w.heap.size rfl _ (#[.int .i64 n.up,.string n.tx,.int .i64 n.st.sh,.int .i64 n.st.fl,.int .i64 n.st.cl,.bool n.st.w.a,.bool n.st.w.p,.int .i64 n.st.w.n,.bool n.st.h.a,.bool n.st.h.p,.int .i64 n.st.h.n,.int .i64 n.st.mn,.int .i64 n.st.mx,.int .i64 n.st.mt,.bool n.st.mr.a,.bool n.st.mr.p,.int .i64 n.st.mr.n,.int .i64 n.st.mb,.bool n.st.ml.a,.bool n.st.ml.p,.int .i64 n.st.ml.n,.int .i64 n.st.bo,.int .i64 n.st.pa,.int .i64 n.st.wh,.int .i64 n.st.al,.int .i64 n.st.lh,.int .i64 n.st.ri,.int .i64 n.st.dn]) _ _ l0 Tryz.underlying75 rfl (by kernel_rfl) ?_)
   refine (IT _).mono ?_
   rintro e w1 ⟨rfl,hb⟩
   have l1:=below_lies hb l0 (lies_lt l0)
   have b1:=bel.trans (hb.mono (by omega))
   have hc1:w1.cell? ⟨w.heap.size,1,none⟩ = some (.string n.tx):=(lies_cell l1 1).trans rfl
   clear l0 l1 hb bel hsz IT
   go_wp2_with (go_at_call 84;refine (TX _).mono ?_;rintro e w' ⟨rfl,hw⟩;have hw:=hw.symm;subst hw)
   go_ret
   exact ⟨ret_bool (by rw [HF.out];simp [e1]),b1⟩
def ixI (x:Int) (zs:List Int):Int:=if x ∈ zs then (idxL x zs:Int) else -1
theorem ixI_in {x:Int} {zs:List Int} (h:x ∈ zs):ixI x zs = (idxL x zs:Int):=if_pos h
theorem ixI_out {x:Int} {zs:List Int} (h:x ∉ zs):ixI x zs = -1:=if_neg h
theorem idx_of {x:Int}:∀ {zs:List Int} {k:Nat},k < zs.length → (∀ j,j < k → zs.getD j 0 ≠ x) → zs.getD k 0 = x → x ∈ zs ∧ idxL x zs = k
 | y :: ys,0,_,_,e=>by
  have e':y = x:=by simpa using e
  exact ⟨by simp [e'],by rw [idxL,if_pos e']⟩
 | y :: ys,k + 1,h,hb,e=>by
  have h0:y ≠ x:=by simpa using hb 0 (by omega)
  obtain ⟨h1,h2⟩:=idx_of (zs:=ys) (k:=k) (by simpa using h) (fun j hj=>by simpa using hb (j + 1) (by omega)) (by simpa using e)
  exact ⟨List.mem_cons_of_mem _ h1,by rw [idxL,if_neg h0,h2]⟩
theorem not_in_of {x:Int} {zs:List Int} (h:∀ j,j < zs.length → zs.getD j 0 ≠ x):x ∉ zs:=fun hx=>h _ (idx_lt hx) (idx_at hx)
set_option maxHeartbeats 1000000 in
theorem index_any (a:Option Addr) (n cap:Nat) (x:Int) (zs:List Int) (w:World) (hn:n = zs.length) (hl:n ≤ 1048576) (hr:Row w a zs) :
  Calls Tryz.prog 65 #[.slice a n cap,.int .i64 x] w fun e w'=>e = .returned (.int .i64 (ixI x zs)) ∧ w' = w:=by
 have HN:Hid (n = zs.length):=hn
 clear hn
 go_enter Tryz.func65,Tryz.ntmps65
 go_wp2_with fail
 go_loop [8] (fun i=>∃ k:Nat,k ≤ n ∧ i = .int .i64 k ∧ (∀ j,j < k → zs.getD j 0 ≠ x)) (fun i=>n - (intOf i).toNat)
 case atStart=>exact ⟨0,Nat.zero_le _,rfl,fun j hj=>absurd hj (by omega)⟩
 case round =>
  obtain ⟨k,hk,rfl,hp⟩:=hrel
  have HP:Hid (∀ j,j < k → zs.getD j 0 ≠ x):=hp
  clear hp
  by_cases hlt:k < n
  ·obtain ⟨b,off,rfl,hc⟩:∃ b off,a = some ⟨b,off,none⟩ ∧ ∀ i,i < zs.length → w.cell? ⟨b,off + i,none⟩ = some (.int .i64 (zs.getD i 0)):=by
    rcases hr with h | h
    ·have:=HN.out;rw [h] at this;simp at this;omega
    ·exact h
   have hck:=hc k (by rw [← HN.out];exact hlt)
   obtain ⟨z,hz⟩:∃ z,z = zs.getD k 0:=⟨_,rfl⟩
   rw [← hz] at hck
   have HZ:Hid (z = zs.getD k 0):=hz
   clear hc hz hr
   by_cases hxz:x = z
   ·subst hxz
    go_wp2
    go_ret
    obtain ⟨q1,q2⟩:=idx_of (by rw [← HN.out];exact hlt) HP.out HZ.out.symm
    exact ⟨by rw [ixI_in q1,q2];rfl,rfl⟩
   ·have hq:(x == z) = false:=by simpa using hxz
    go_wp2
    go_round
    case rel=>exact ⟨k + 1,by omega,by go_num,fun j hj=>by
     by_cases e:j = k
     ·rw [e,← HZ.out];exact fun h=>hxz h.symm
     ·exact HP.out j (by omega)⟩
    case measure=>simp [intOf];omega
  ·go_wp2
   go_ret
   have e:k = n:=by omega
   exact ⟨by rw [ixI_out (not_in_of fun j hj=>HP.out j (by rw [e,HN.out];exact hj))];rfl,rfl⟩
/-- Here the walk stands still. -/
def Stay (p:Prop):Prop:=p
theorem stay {p:Prop} (h:Stay p):p:=h
theorem wpList_gen1 {P:Program} {ops:Array Oper} {rest:List Oper} {Q:Exit → Act → World → Prop} {a:Act} {w:World} {A:Obj}
  (h:∀ W,Below w.heap.size w W → W.heap[w.heap.size]? = some A → W.heap.size = w.heap.size + 1 → wpList P ops Q rest a W):wpList P ops Q rest a (w.alloc A) :=
 h _ ((Below.refl _ _).alloc (Nat.le_refl _) _) (heap_at _ _ _ rfl) (by simp)
/-- A whole struct stored into the block that was laid last: the world is a new letter. -/
theorem wpList_store_box {P:Program} {ops:Array Oper} {rest:List Oper} {o:Oper} {a:Act} {w:World} {Q:Exit → Act → World → Prop} {t:TypeId} {old:Array Value} (hgd:o.guard = none) (ty:TypeId) (x y:Operand) (ho:o.op = .store ty x y)
  (hd:o.dst = none) (cells:Array Value) (hx:a.eval x = .pointer (some ⟨w.heap.size,0,none⟩)) (hy:a.eval y = .agg cells)
  (hi:(P.info? ty).map (·.size) = some cells.size) (hold:old.size = cells.size) (h1:cells.all (·.oneCell') = true)
  (h:∀ W,Below w.heap.size w W → W.heap[w.heap.size]? = some (.cells cells t (0,0)) → W.heap.size = w.heap.size + 1 → wpList P ops Q rest a W):wpList P ops Q (o :: rest) a (w.alloc (.cells old t)) :=
 wpList_store_new hgd ty x y ho hd cells t old w.heap.size rfl hx hy hi hold h1 (wpList_gen1 h)
theorem OwnI.cut {w:World} {B n cap:Nat} {a:Option Addr} {zs:List Int} (h:OwnI w B (.slice a n cap) zs) (m:Nat) (hm:m ≤ n) (hn:n = zs.length):OwnI w B (.slice a m cap) (zs.take m):=by
 have h':w.ownsRow B 3 1 (.slice a n cap) zs.length (zs.map (Value.int .i64)):=h
 have hl:(zs.take m).length = m:=by rw [List.length_take];omega
 unfold OwnI
 rw [hl]
 refine ⟨by rw [List.length_map,hl];omega,?_⟩
 rcases h'.2 with ⟨hv,h0⟩ | ⟨g,c,cur,hv,hb,hg,h1,h2,h3,h4⟩
 ·left
  simp only [Value.slice.injEq] at hv
  obtain ⟨rfl,h5,rfl⟩:=hv
  have:m = 0:=by omega
  subst this
  exact ⟨rfl,rfl⟩
 ·right
  simp only [Value.slice.injEq] at hv
  obtain ⟨rfl,h5,rfl⟩:=hv
  refine ⟨g,_,cur,rfl,hb,hg,by omega,h2,h3,?_⟩
  have:cur.toList.take (m * 1) = (cur.toList.take (zs.length * 1)).take (m * 1):=by rw [List.take_take];congr 1;omega
  rw [this,h4,Nat.mul_one,List.map_take]
/-- What one round does to what is around. -/
def cutL (ns:List Nd) (k:Nat):List Int:=(aroundL ns k).take (ixI (upL ns k) (aroundL ns k) + 1).toNat
theorem cut_next {ns:List Nd} {k:Nat} (h:okUp ns k = true) (hs:∀ j,j < k → okUp ns j = true):aroundL ns (k + 1) = if isT ns k = true then cutL ns k else cutL ns k ++ [(k:Int)]:=by
 rw [aroundL]
 by_cases h0:k = 0
 ·subst h0
  rw [okUp,if_pos rfl,Bool.and_eq_true] at h
  have hT:isT ns 0 = false:=by simpa using h.2
  have hu:=of_decide_eq_true h.1
  have hc:chainL ns 0 = [(0:Int)]:=chain_top (k:=0) (by omega)
  simp [hT,hc,cutL,aroundL]
 ·rw [okUp,if_neg h0,Bool.and_eq_true] at h
  have hin:=of_decide_eq_true h.1
  have hT0:isT ns 0 = false:=by
   have:=hs 0 (by omega)
   rw [okUp,if_pos rfl,Bool.and_eq_true] at this
   simpa using this.2
  obtain ⟨u,hu,e,hc,ht⟩:=(around_in (by omega) hT0 (stands_of k hs) _).1 hin
  have hcut:cutL ns k = chainL ns u:=by
   rw [cutL,ixI_in hin,show ((idxL (upL ns k) (aroundL ns k):Int) + 1).toNat = idxL (upL ns k) (aroundL ns k) + 1 by omega]
   rw [e] at hin ⊢
   exact around_take u hin
  rw [hcut,if_neg h0,e,chain_in e hu]
  rfl
theorem cut_len {ns:List Nd} {k:Nat} (h0:0 < k) (hin:upL ns k ∈ aroundL ns k):(cutL ns k).length = idxL (upL ns k) (aroundL ns k) + 1:=by
 rw [cutL,ixI_in hin,List.length_take]
 have:=idx_lt hin
 omega
theorem around_len {ns:List Nd}:∀ (k:Nat),(∀ j,j < k → okUp ns j = true) → (aroundL ns k).length ≤ 8
 | 0,_=>by simp [aroundL]
 | k + 1,hs=>by
  have hk:=hs k (by omega)
  rw [cut_next hk (fun j hj=>hs j (by omega))]
  have:(cutL ns k).length < 8:=by
   by_cases h0:k = 0
   ·subst h0;simp [cutL,aroundL]
   ·rw [okUp,if_neg h0,Bool.and_eq_true] at hk
    rw [cut_len (by omega) (of_decide_eq_true hk.1)]
    exact of_decide_eq_true hk.2
  split
  ·omega
  ·rw [List.length_append,List.length_singleton];omega
theorem getD_of {ns:List Nd} {k:Nat} {x:Nd} (h:ns[k]? = some x):ns.getD k nd0 = x:=by rw [List.getD_eq_getElem?_getD,h];rfl
theorem snocB {ns:List Nd} {f:List Nd → Nat → Bool} {k:Nat} (h:∀ j,j < k → f ns j = true) (hk:f ns k = true):∀ j,j < k + 1 → f ns j = true:=fun j hj=>by
 by_cases e:j = k
 ·rw [e];exact hk
 ·exact h j (by omega)
theorem okAt_up {tB:ByteArray → Bool} {sB:St → Bool} {ns:List Nd} {j:Nat} (h:okAt tB sB ns j = true):okUp ns j = true:=by
 rw [okAt,Bool.and_eq_true] at h
 exact h.1
end Go.Proofs.YtjnmloaopnbpgaaGreatDoor
