/-
 Places where a text may break, counted: each text that is drawn has a cost, costs do not grow when texts are put together, and the breaks of what is kept of a text are paid by its cost and its length.
 The plain mathematics of a text's width: the kind of a letter, its width, the sum over a list of letters, and how many letters fit.
 Contracts of a letter's width and of a plain text, of the program and of its model.
 Contracts of a plain text and of a text's width, of the program and of its model.
 Contracts of chapter 3's tests of a white and of a text, of the program and of its model: a white of the five; a text of at most 200 bytes, each plain, a line break, or a tab where tabs may be.
 Rows of ints in memory: what it is that a slice reads as some numbers, and what keeps it so.
 Contracts of the laws' own copies of int slices: toIntS hands back a new row of the same numbers and leaves all older memory alone, for slices of at most 1048576 elements.
 Rows of ints that a call has made: what keeps them, and the contracts of the laws' own marking and looking again.
 Contracts of the places behind line breaks, of the program and of its model: both hand back a new row of the places that forcedL names.
 Contracts of the model's places where a line may end, of where its first line ends, and of what those rest on.
-/
import Derived.Test.YtjnmloaopnbpgaaGreatDoorMg1
import Derived.Test.YtjnmloaopnbpgaaGreatDoorShelf
import Derived.Deep.RegionWith
import Derived.Deep.DeepFit
import Derived.WalkSmall
import Derived.Laws.OwnMore
import Derived.Maps.AppendAt
namespace Go.Proofs.YtjnmloaopnbpgaaGreatDoor
open Go.ChangeShapes Go.WideShapes Go.ChangeAt Go.RowKit
set_option linter.unusedVariables false
def letN (b:Nat):Bool:=decide ((97 ≤ b ∧ b ≤ 122) ∨ (65 ≤ b ∧ b ≤ 90) ∨ (48 ≤ b ∧ b ≤ 57))
def blkN (p:Nat):Bool:=decide (p = 32 ∨ p = 9)
def hardN (c:Nat):Bool:=!(blkN c) && !(decide (c = 10))
def b2n (b:Bool):Nat:=if b then 1 else 0
theorem b2n_le (b:Bool):b2n b ≤ 1:=by cases b <;> decide
/-- What a byte c behind a byte p pays. -/
def adv2 (p c:Nat):Nat:=b2n (decide (c = 10)) + b2n (blkN p && hardN c) + b2n (decide (p = 45) && letN c)
def totN:Nat → List UInt8 → Nat
 | _,[]=>0
 | p,c :: r=>adv2 p c.toNat + totN c.toNat r
def lstN:Nat → List UInt8 → Nat
 | p,[]=>p
 | _,c :: r=>lstN c.toNat r
def headB:List UInt8 → Bool
 | []=>false
 | c :: _=>hardN c.toNat
theorem tot_app:∀ (l1 l2:List UInt8) (p:Nat),totN p (l1 ++ l2) = totN p l1 + totN (lstN p l1) l2
 | [],l2,p=>by simp [totN,lstN]
 | c :: r,l2,p=>by
  rw [List.cons_append,totN,totN,tot_app r l2 c.toNat,lstN]
  omega
theorem lst_app:∀ (l1 l2:List UInt8) (p:Nat),lstN p (l1 ++ l2) = lstN (lstN p l1) l2
 | [],l2,p=>rfl
 | c :: r,l2,p=>by rw [List.cons_append,lstN,lstN,lst_app r l2]
theorem adv2_le (p c : Nat) : adv2 p c ≤ adv2 0 c + b2n (blkN p && hardN c) + b2n (decide (p = 45)) := by
  unfold adv2
  have h1 : b2n (blkN 0 && hardN c) = 0 := by have : blkN 0 = false := by decide
                                              rw [this]; rfl
  have h2 : b2n (decide (p = 45) && letN c) ≤ b2n (decide (p = 45)) := by
    cases decide (p = 45) <;> cases letN c <;> decide
  omega
def costN (l:List UInt8):Int :=
 100 * (totN 0 l:Int) + 100 * (b2n (decide (lstN 0 l = 45)):Int) - 2 * (l.length:Int) + 43 * (b2n (blkN (lstN 0 l)):Int) + 57 * (b2n (headB l):Int)
theorem cost_nil:costN [] = 0:=by decide
theorem cost_app (l1 l2:List UInt8):costN (l1 ++ l2) ≤ costN l1 + costN l2:=by
 cases l2 with
 | nil=>simp [cost_nil]
 | cons c r =>
  cases l1 with
  | nil=>simp [cost_nil]
  | cons d t =>
   have e1:=tot_app (d :: t) (c :: r) 0
   have e2:=lst_app (d :: t) (c :: r) 0
   have e3:totN (lstN 0 (d :: t)) (c :: r) = adv2 (lstN 0 (d :: t)) c.toNat + totN c.toNat r:=rfl
   have e4:totN 0 (c :: r) = adv2 0 c.toNat + totN c.toNat r:=rfl
   have e5:lstN (lstN 0 (d :: t)) (c :: r) = lstN 0 (c :: r):=rfl
   have h:=adv2_le (lstN 0 (d :: t)) c.toNat
   have e6:headB ((d :: t) ++ (c :: r)) = headB (d :: t):=rfl
   have e7:headB (c :: r) = hardN c.toNat:=rfl
   have hj:b2n (blkN (lstN 0 (d :: t)) && hardN c.toNat) ≤ 1:=b2n_le _
   have h8:(100:Int) * (b2n (blkN (lstN 0 (d :: t)) && hardN c.toNat):Int) ≤ 43 * (b2n (blkN (lstN 0 (d :: t))):Int) + 57 * (b2n (hardN c.toNat):Int):=by
    cases blkN (lstN 0 (d :: t)) <;> cases hardN c.toNat <;> decide
   unfold costN
   rw [e1,e2,e3,e4,e5,e6,e7,List.length_append]
   generalize lstN 0 (d :: t) = L1 at *
   generalize lstN 0 (c :: r) = L2 at *
   generalize adv2 L1 c.toNat = A1 at *
   generalize adv2 0 c.toNat = A0 at *
   generalize b2n (blkN L1 && hardN c.toNat) = J at *
   generalize b2n (decide (L1 = 45)) = K1 at *
   generalize b2n (decide (L2 = 45)) = K2 at *
   generalize b2n (blkN L1) = M1 at *
   generalize b2n (blkN L2) = M2 at *
   generalize b2n (hardN c.toNat) = H at *
   generalize b2n (headB (d :: t)) = H1 at *
   omega
theorem tot_cost (l:List UInt8):100 * (totN 0 l:Int) ≤ costN l + 2 * (l.length:Int):=by
 unfold costN
 omega
/-- Whether a line may end at place i of a text. -/
def mayB (soft:Bool) (t:List UInt8) (i:Nat):Bool :=
 decide (i = t.length) || decide ((t.getD (i - 1) 0).toNat = 10) ||
  (soft && decide (i < t.length) && ((decide ((t.getD (i - 1) 0).toNat = 32) && decide ((t.getD i 0).toNat ≠ 32) && decide ((t.getD i 0).toNat ≠ 10)) ||
   (decide ((t.getD (i - 1) 0).toNat = 45) && decide (1 < i) && letN (t.getD (i - 2) 0).toNat && letN (t.getD i 0).toNat)))
/-- How many such places are among 1 .. k. -/
def cntN (p:Nat → Bool):Nat → Nat
 | 0=>0
 | k + 1=>cntN p k + b2n (p (k + 1))
def nbN (soft:Bool) (t:List UInt8):Nat:=cntN (mayB soft t) t.length
theorem cnt_le (p q:Nat → Bool):∀ k,(∀ i,1 ≤ i → i ≤ k → p i = true → q i = true) → cntN p k ≤ cntN q k
 | 0,_=>Nat.le_refl _
 | k + 1,h=>by
  have ih:=cnt_le p q k (fun i h1 h2=>h i h1 (by omega))
  have h3:=h (k + 1) (by omega) (Nat.le_refl _)
  unfold cntN
  cases hp:p (k + 1) with
  | false=>simp [b2n];omega
  | true=>rw [h3 hp];omega
theorem cnt_shift (p q:Nat → Bool) (n:Nat):∀ k,(∀ i,1 ≤ i → i ≤ k → p i = true → q (n + i) = true) → cntN p k + cntN q n ≤ cntN q (n + k)
 | 0,_=>by simp [cntN]
 | k + 1,h=>by
  have ih:=cnt_shift p q n k (fun i h1 h2=>h i h1 (by omega))
  have h3:=h (k + 1) (by omega) (Nat.le_refl _)
  have e:cntN q (n + (k + 1)) = cntN q (n + k) + b2n (q (n + (k + 1))):=rfl
  have e2:cntN p (k + 1) = cntN p k + b2n (p (k + 1)):=rfl
  rw [e,e2]
  cases hp:p (k + 1) with
  | false=>rw [show b2n false = 0 from rfl];omega
  | true=>rw [h3 hp];omega
theorem cnt_pos (p:Nat → Bool) (n:Nat) (h:1 ≤ n) (hp:p n = true):1 ≤ cntN p n:=by
 obtain ⟨k,rfl⟩:∃ k,n = k + 1:=⟨n - 1,by omega⟩
 unfold cntN
 rw [hp]
 simp [b2n]
theorem may_drop (soft:Bool) (t:List UInt8) (n i:Nat) (h:1 ≤ i) (hn:n ≤ t.length) (hi:i ≤ t.length - n) (hm:mayB soft (t.drop n) i = true):mayB soft t (n + i) = true:=by
 have hl:(t.drop n).length = t.length - n:=by simp
 have e1:(t.drop n).getD (i - 1) 0 = t.getD (n + i - 1) 0:=by
  simp only [List.getD_eq_getElem?_getD,List.getElem?_drop]
  rw [show n + (i - 1) = n + i - 1 by omega]
 have e2:(t.drop n).getD i 0 = t.getD (n + i) 0:=by
  simp only [List.getD_eq_getElem?_getD,List.getElem?_drop]
 have e3:1 < i → (t.drop n).getD (i - 2) 0 = t.getD (n + i - 2) 0:=fun h=>by
  simp only [List.getD_eq_getElem?_getD,List.getElem?_drop]
  rw [show n + (i - 2) = n + i - 2 by omega]
 unfold mayB at hm ⊢
 rw [hl,e1,e2] at hm
 simp only [Bool.or_eq_true,Bool.and_eq_true,decide_eq_true_eq] at hm ⊢
 rcases hm with (hm | hm) | ⟨⟨hs,hlt⟩,hm | ⟨⟨⟨h4,h5⟩,h6⟩,h7⟩⟩
 ·exact .inl (.inl (by omega))
 ·exact .inl (.inr hm)
 ·exact .inr ⟨⟨hs,by omega⟩,.inl hm⟩
 ·refine .inr ⟨⟨hs,by omega⟩,.inr ⟨⟨⟨h4,by omega⟩,?_⟩,h7⟩⟩
  rw [← e3 h5]
  exact h6
/-- A line that is cut at a break leaves fewer breaks. -/
theorem nb_drop (soft:Bool) (t:List UInt8) (n:Nat) (h:1 ≤ n) (hn:n ≤ t.length) (hm:mayB soft t n = true):nbN soft (t.drop n) + 1 ≤ nbN soft t:=by
 have hl:(t.drop n).length = t.length - n:=by simp
 have:=cnt_shift (mayB soft (t.drop n)) (mayB soft t) n (t.length - n) (fun i h1 h2 h3=>may_drop soft t n i h1 hn h2 h3)
 have hp:=cnt_pos (mayB soft t) n h hm
 unfold nbN
 rw [hl]
 rw [show n + (t.length - n) = t.length by omega] at this
 omega
theorem may_end (soft:Bool) (t:List UInt8):mayB soft t t.length = true:=by simp [mayB]
theorem take_one (t:List UInt8) (k:Nat) (h:k < t.length):t.take (k + 1) = t.take k ++ [t.getD k 0]:=by
 rw [List.take_add_one,List.getElem?_eq_getElem h,List.getD_eq_getElem?_getD,List.getElem?_eq_getElem h]
 rfl
theorem lst_take (t:List UInt8) (p k:Nat) (h:k < t.length):lstN p (t.take (k + 1)) = (t.getD k 0).toNat:=by
 rw [take_one t k h,lst_app]
 rfl
theorem tot_take (t:List UInt8) (k:Nat) (h:k + 1 < t.length):totN 0 (t.take (k + 1 + 1)) = totN 0 (t.take (k + 1)) + adv2 (t.getD k 0).toNat (t.getD (k + 1) 0).toNat:=by
 rw [take_one t (k + 1) h,tot_app,lst_take t 0 k (by omega)]
 rfl
theorem may_pay (soft lt one:Bool) (a b z:Nat) (hb:b ≠ 9) :
  b2n (decide (a = 10) || (soft && lt && ((decide (a = 32) && decide (b ≠ 32) && decide (b ≠ 10)) || (decide (a = 45) && one && letN z && letN b)))) ≤ b2n (decide (a = 10)) + b2n (blkN a && hardN b) + b2n (decide (a = 45) && letN b):=by
 by_cases h1:a = 10
 ·subst h1;simp [b2n]
 by_cases h2:a = 32
 ·subst h2
  have hb2:blkN 32 = true:=by decide
  by_cases h3:b = 32
  ·subst h3;simp [b2n]
  by_cases h4:b = 10
  ·subst h4;simp [b2n]
  have h5:hardN b = true:=by simp [hardN,blkN,h3,h4,hb]
  rw [hb2,h5]
  simp [b2n]
  split <;> omega
 by_cases h3:a = 45
 ·subst h3
  cases hl:letN b
  ·simp [b2n]
  ·have:b2n (decide (45 = 45) && true) = 1:=by decide
   rw [this]
   have:=b2n_le (decide (45 = 10) || (soft && lt && ((decide (45 = 32) && decide (b ≠ 32) && decide (b ≠ 10)) || (decide (45 = 45) && one && letN z && true))))
   omega
 simp [h1,h2,h3,b2n]
/-- The breaks ahead of place k + 1 are paid by the first k + 1 bytes. -/
theorem cnt_tot (soft:Bool) (t:List UInt8) (h9:∀ k,k < t.length → (t.getD k 0).toNat ≠ 9):∀ k,k < t.length → cntN (mayB soft t) k + b2n (decide ((t.getD k 0).toNat = 10)) ≤ totN 0 (t.take (k + 1))
 | 0,h=>by
  rw [take_one t 0 h]
  simp only [List.take_zero,List.nil_append,totN,adv2,cntN]
  omega
 | k + 1,h=>by
  have ih:=cnt_tot soft t h9 k (by omega)
  rw [tot_take t k h]
  have e:cntN (mayB soft t) (k + 1) = cntN (mayB soft t) k + b2n (mayB soft t (k + 1)):=rfl
  rw [e]
  have hm:=may_pay soft (decide (k + 1 < t.length)) (decide (1 < k + 1)) (t.getD k 0).toNat (t.getD (k + 1) 0).toNat (t.getD (k + 1 - 2) 0).toNat (h9 _ h)
  have e2:mayB soft t (k + 1) = (decide ((t.getD k 0).toNat = 10) || (soft && decide (k + 1 < t.length) && ((decide ((t.getD k 0).toNat = 32) && decide ((t.getD (k + 1) 0).toNat ≠ 32) && decide ((t.getD (k + 1) 0).toNat ≠ 10)) || (decide ((t.getD k 0).toNat = 45) && decide (1 < k + 1) && letN (t.getD (k + 1 - 2) 0).toNat && letN (t.getD (k + 1) 0).toNat)))):=by
   unfold mayB
   rw [show k + 1 - 1 = k by omega,decide_eq_false (show ¬ k + 1 = t.length by omega),Bool.false_or]
  rw [e2]
  unfold adv2
  omega
theorem nb_tot (soft:Bool) (t:List UInt8) (h9:∀ k,k < t.length → (t.getD k 0).toNat ≠ 9):nbN soft t ≤ totN 0 t + 1:=by
 unfold nbN
 cases hl:t.length with
 | zero=>simp [cntN]
 | succ k =>
  have h:=cnt_tot soft t h9 k (by omega)
  rw [← hl,List.take_length] at h
  have e:cntN (mayB soft t) (k + 1) = cntN (mayB soft t) k + b2n (mayB soft t (k + 1)):=rfl
  have:=b2n_le (mayB soft t (k + 1))
  rw [e]
  omega
/-- The kind of a letter: 1 narrow, 2 broad, 0 usual. -/
def kindOf (z:Int):Int :=
 if z = 32 ∨ z = 33 ∨ z = 39 ∨ z = 44 ∨ z = 46 ∨ z = 58 ∨ z = 59 ∨ z = 105 ∨ z = 106 ∨ z = 108 ∨ z = 124 then 1
 else if z = 109 ∨ z = 119 ∨ z = 77 ∨ z = 87 ∨ z = 64 then 2 else 0
/-- The width of a letter. -/
def wid (fn fu fb z:Int):Int:=if kindOf z = 1 then fn else if kindOf z = 2 then fb else fu
theorem wid_0 {fn fu fb z:Int} (h:kindOf z = 0):fu = wid fn fu fb z:=by simp [wid,h]
theorem wid_bd {fn fu fb:Int} (z:Int) (h:1 ≤ fn ∧ fn ≤ 6400 ∧ 1 ≤ fu ∧ fu ≤ 6400 ∧ 1 ≤ fb ∧ fb ≤ 6400):1 ≤ wid fn fu fb z ∧ wid fn fu fb z ≤ 6400:=by
 unfold wid;split
 ·omega
 ·split <;> omega
/-- The width of a row of letters. -/
def adv (fn fu fb:Int) (l:List UInt8):Int:=(l.map fun c=>wid fn fu fb (c.toNat:Int)).sum
theorem adv_snoc (fn fu fb:Int) (l:List UInt8) (c:UInt8):adv fn fu fb (l ++ [c]) = adv fn fu fb l + wid fn fu fb (c.toNat:Int):=by
 simp [adv]
theorem adv_bd {fn fu fb:Int} (h:1 ≤ fn ∧ fn ≤ 6400 ∧ 1 ≤ fu ∧ fu ≤ 6400 ∧ 1 ≤ fb ∧ fb ≤ 6400) (l:List UInt8):0 ≤ adv fn fu fb l ∧ adv fn fu fb l ≤ 6400 * (l.length:Int):=by
 induction l with
 | nil=>simp [adv]
 | cons c r ih =>
  have e:adv fn fu fb (c :: r) = wid fn fu fb (c.toNat:Int) + adv fn fu fb r:=by simp [adv]
  have w:=wid_bd (c.toNat:Int) h
  rw [e,List.length_cons]
  omega
theorem take_snoc (s:ByteArray) (k:Nat) (h:k < s.size):s.data.toList.take (k + 1) = s.data.toList.take k ++ [s[k]]:=by
 rw [List.take_succ_eq_append_getElem (by simpa using h)];rfl
/-- The width of a text's first k letters. -/
def advK (fn fu fb:Int) (s:ByteArray) (k:Nat):Int:=adv fn fu fb (s.data.toList.take k)
theorem advK_next (fn fu fb:Int) (s:ByteArray) (k:Nat) (h:k < s.size):advK fn fu fb s (k + 1) = advK fn fu fb s k + wid fn fu fb (s[k].toNat:Int):=by
 unfold advK;rw [take_snoc s k h,adv_snoc]
theorem advK_bd {fn fu fb:Int} (h:1 ≤ fn ∧ fn ≤ 6400 ∧ 1 ≤ fu ∧ fu ≤ 6400 ∧ 1 ≤ fb ∧ fb ≤ 6400) (s:ByteArray) (k:Nat):0 ≤ advK fn fu fb s k ∧ advK fn fu fb s k ≤ 6400 * (k:Int):=by
 have b:=adv_bd h (s.data.toList.take k)
 have l:=List.length_take_le k s.data.toList
 unfold advK
 omega
theorem ret_i {a b:Int} (h:a = b):Ending.returned (.int .i64 a) = .returned (.int .i64 b):=by rw [h]
set_option maxHeartbeats 4000000 in
theorem specOne_any (fa fd fn fu fb z:Int) (w:World) :
  Calls Tryz.prog 118 #[.agg #[.int .i64 fa,.int .i64 fd,.int .i64 fn,.int .i64 fu,.int .i64 fb],.int .u8 z] w fun e w'=>e = .returned (.int .i64 (wid fn fu fb z)) ∧ Below w.heap.size w w':=by
 have hz:z = 105 ∨ z = 106 ∨ z = 108 ∨ z = 46 ∨ z = 44 ∨ z = 59 ∨ z = 58 ∨ z = 39 ∨ z = 33 ∨ z = 124 ∨ z = 32 ∨ z = 109 ∨ z = 119 ∨ z = 77 ∨ z = 87 ∨ z = 64 ∨
   (z ≠ 105 ∧ z ≠ 106 ∧ z ≠ 108 ∧ z ≠ 46 ∧ z ≠ 44 ∧ z ≠ 59 ∧ z ≠ 58 ∧ z ≠ 39 ∧ z ≠ 33 ∧ z ≠ 124 ∧ z ≠ 32 ∧ z ≠ 109 ∧ z ≠ 119 ∧ z ≠ 77 ∧ z ≠ 87 ∧ z ≠ 64):=by omega
 rcases hz with rfl | rfl | rfl | rfl | rfl | rfl | rfl | rfl | rfl | rfl | rfl | rfl | rfl | rfl | rfl | rfl | ⟨n1,n2,n3,n4,n5,n6,n7,n8,n9,n10,n11,n12,n13,n14,n15,n16⟩
 rotate_right
 ·have hk:wid fn fu fb z = fu:=(wid_0 (by unfold kindOf;rw [if_neg (by omega),if_neg (by omega)])).symm
  have HK:Hid (wid fn fu fb z = fu):=hk
  clear hk
  go_enter Tryz.func118,Tryz.ntmps118
  go_wp2
  go_ret
  exact ⟨ret_i HK.out.symm,(Below.refl _ _).alloc (Nat.le_refl _) _⟩
 all_goals
  go_enter Tryz.func118,Tryz.ntmps118
  go_wp2
  go_ret
  exact ⟨ret_i rfl,(Below.refl _ _).alloc (Nat.le_refl _) _⟩
theorem plainByte_any (z:Int) (w:World):Calls Tryz.prog 112 #[.int .u8 z] w fun e w'=>e = .returned (.bool (inB 32 126 z)) ∧ w' = w:=by
 by_cases h1:32 ≤ z <;> by_cases h2:z ≤ 126 <;>
 ·go_enter Tryz.func112,Tryz.ntmps112
  go_wp2
  go_ret
  exact ⟨ret_bool (by simp [inB,h1,h2]),rfl⟩
/-- What a font's box holds. -/
def BoxAt (w:World) (b:Nat) (fa fd fn fu fb:Int):Prop :=
 b < w.heap.size ∧ w.cell? ⟨b,0,none⟩ = some (.int .i64 fa) ∧ w.cell? ⟨b,1,none⟩ = some (.int .i64 fd) ∧ w.cell? ⟨b,2,none⟩ = some (.int .i64 fn) ∧ w.cell? ⟨b,3,none⟩ = some (.int .i64 fu) ∧ w.cell? ⟨b,4,none⟩ = some (.int .i64 fb)
theorem BoxAt.below {w w':World} {b:Nat} {fa fd fn fu fb:Int} (h:BoxAt w b fa fd fn fu fb) (hb:Below w.heap.size w w'):BoxAt w' b fa fd fn fu fb:=by
 obtain ⟨h0,h1,h2,h3,h4,h5⟩:=h
 exact ⟨Nat.lt_of_lt_of_le h0 hb.size,(hb.cell h0).trans h1,(hb.cell h0).trans h2,(hb.cell h0).trans h3,(hb.cell h0).trans h4,(hb.cell h0).trans h5⟩
theorem box_new (w:World) (fa fd fn fu fb:Int):BoxAt (w.alloc (.cells #[.int .i64 fa,.int .i64 fd,.int .i64 fn,.int .i64 fu,.int .i64 fb] 48)) w.heap.size fa fd fn fu fb :=
 ⟨by simp,by simp,by simp,by simp,by simp,by simp⟩
theorem wrapIA (x:Int) (h0:-9223372036854775808 ≤ x) (h1:x ≤ 9223372036854775807):IntKind.i64.wrap x = x:=by
 rw [IntKind.wrap_i64];omega
set_option maxHeartbeats 4000000 in
theorem specAdv_any (fa fd fn fu fb:Int) (s:ByteArray) (w:World) (hs:s.size ≤ 400) (hf:1 ≤ fn ∧ fn ≤ 6400 ∧ 1 ≤ fu ∧ fu ≤ 6400 ∧ 1 ≤ fb ∧ fb ≤ 6400) :
  Calls Tryz.prog 110 #[.agg #[.int .i64 fa,.int .i64 fd,.int .i64 fn,.int .i64 fu,.int .i64 fb],.string s] w fun e w'=>e = .returned (.int .i64 (advK fn fu fb s s.size)) ∧ Below w.heap.size w w':=by
 go_enter Tryz.func110,Tryz.ntmps110
 go_wp2
 go_loopw [5,6] (fun n i wr=>∃ k:Nat,k ≤ s.size ∧ i = .int .i64 k ∧ n = .int .i64 (advK fn fu fb s k) ∧ BoxAt wr w.heap.size fa fd fn fu fb ∧ Below w.heap.size w wr) (fun _ i _=>s.size - (intOf i).toNat)
 case atStart=>exact ⟨0,Nat.zero_le _,rfl,rfl,box_new w fa fd fn fu fb,(Below.refl _ _).alloc (Nat.le_refl _) _⟩
 case round =>
  obtain ⟨k,hk,rfl,rfl,hB,hbel⟩:=hrel
  have hBk:=hB
  obtain ⟨b0,b1,b2,b3,b4,b5⟩:=hB
  by_cases hlt:k < s.size
  ·have hd:=advK_bd hf s k
   have hw:=wid_bd (s[k].toNat:Int) hf
   have F1:IntKind.i64.wrap (advK fn fu fb s k + wid fn fu fb (s[k].toNat:Int)) = advK fn fu fb s k + wid fn fu fb (s[k].toNat:Int):=wrapIA _ (by omega) (by omega)
   have HN:Hid (advK fn fu fb s (k + 1) = advK fn fu fb s k + wid fn fu fb (s[k].toNat:Int)):=advK_next fn fu fb s k hlt
   go_wp2
   go_region_with (go_at_call 118;go_fit (specOne_any _ _ _ _ _ _ _);rintro e w1 ⟨rfl,hb⟩)
   all_goals
    go_wp2
    go_roundw
    case rel=>exact ⟨k + 1,by omega,by go_num,by rw [HN.out],hBk.below ⟨hb.os,hb.tape,hb.output,hb.size,hb.block⟩,hbel.trans (Below.mono (B:=wr.heap.size) ⟨hb.os,hb.tape,hb.output,hb.size,hb.block⟩ hbel.size)⟩
    case measure=>simp [intOf];omega
  ·have e:k = s.size:=by omega
   subst e
   go_wp2
   go_ret
   exact ⟨rfl,hbel⟩
/-- A byte of such a text. -/
def okZ (tab:Bool) (z:Int):Bool:=decide ((32 ≤ z ∧ z ≤ 126) ∨ z = 10 ∨ (tab = true ∧ z = 9))
theorem okZ_mk {tab:Bool} {z:Int} (h:(32 ≤ z ∧ z ≤ 126) ∨ z = 10 ∨ (tab = true ∧ z = 9)):okZ tab z = true:=decide_eq_true h
theorem okZ_not {tab:Bool} {z:Int} (h:¬ ((32 ≤ z ∧ z ≤ 126) ∨ z = 10 ∨ (tab = true ∧ z = 9))):okZ tab z = false:=decide_eq_false h
def textB (tab:Bool) (s:ByteArray):Bool:=decide (∀ j,(h:j < s.size) → okZ tab (s[j].toNat:Int) = true)
theorem textB_at {tab:Bool} {s:ByteArray} (h:textB tab s = true) (j:Nat) (hj:j < s.size):okZ tab (s[j].toNat:Int) = true:=of_decide_eq_true h j hj
theorem textB_mk {tab:Bool} {s:ByteArray} {k:Nat} (hk:¬ k < s.size) (h:∀ j,(hj:j < s.size) → j < k → okZ tab (s[j].toNat:Int) = true):textB tab s = true :=
 decide_eq_true (fun j hj=>h j hj (by omega))
theorem textB_not {tab:Bool} {s:ByteArray} {k:Nat} (hk:k < s.size) (h:okZ tab (s[k].toNat:Int) = false):textB tab s = false :=
 decide_eq_false (fun g=>by rw [g k hk] at h;cases h)
/-- A text of this chapter. -/
def okB (tab:Bool) (s:ByteArray):Bool:=decide (s.size ≤ 200) && textB tab s
theorem okB_long {tab:Bool} {s:ByteArray} (h:¬ s.size ≤ 200):false = okB tab s:=by simp [okB,h]
theorem okB_bad {tab:Bool} {s:ByteArray} (h:textB tab s = false):false = okB tab s:=by simp [okB,h]
theorem okB_good {tab:Bool} {s:ByteArray} (h:textB tab s = true):decide ((s.size:Int) ≤ 200) = okB tab s:=by
 by_cases g:s.size ≤ 200
 ·have g':(s.size:Int) ≤ 200:=by omega
  simp [okB,h,g,g']
 ·have g':¬ (s.size:Int) ≤ 200:=by omega
  simp [okB,h,g,g']
theorem okB_yes {tab:Bool} {s:ByteArray} (h:okB tab s = true):s.size ≤ 200 ∧ textB tab s = true:=by
 simpa [okB] using h
set_option maxHeartbeats 2000000 in
theorem spec3Text_any (tab:Bool) (s:ByteArray) (w:World) (hs:s.size ≤ maxLen) :
  Calls Tryz.prog 52 #[.string s,.bool tab] w fun e w'=>e = .returned (.bool (okB tab s)) ∧ w' = w:=by
 unfold maxLen at hs
 go_enter Tryz.func52,Tryz.ntmps52
 go_wp2
 go_loop [5] (fun i=>∃ k:Nat,k ≤ s.size ∧ i = .int .i64 k ∧ ∀ j,(hj:j < s.size) → j < k → okZ tab (s[j].toNat:Int) = true) (fun i=>s.size - (intOf i).toNat)
 case atStart=>exact ⟨0,Nat.zero_le _,rfl,fun j _ h=>absurd h (by omega)⟩
 case round =>
  obtain ⟨k,hk,rfl,hall⟩:=hrel
  by_cases hlt:k < s.size
  ·have HA:okZ tab (s[k].toNat:Int) = true → Hid (∀ j,(hj:j < s.size) → j < k + 1 → okZ tab (s[j].toNat:Int) = true):=fun h j hj hjk=>by
    by_cases e:j = k
    ·subst e;exact h
    ·exact hall j hj (by omega)
   have HN:okZ tab (s[k].toNat:Int) = false → Hid (false = okB tab s):=fun h=>okB_bad (textB_not hlt h)
   clear hall
   by_cases h1:(s[k].toNat:Int) < 32
   ·by_cases h3:(s[k].toNat:Int) = 10
    ·have HA:=HA (okZ_mk (by omega))
     clear HN
     go_wp2
     go_round
     case rel=>exact ⟨k + 1,by omega,by go_num,HA.out⟩
     case measure=>simp [intOf];omega
    ·cases tab
     ·have HN:=HN (okZ_not (by simp;omega))
      have b3:((s[k].toNat:Int) == 10) = false:=by simpa using h3
      have c3:((s[k].toNat:Int) != 10) = true:=by simpa using h3
      clear HA
      go_wp2
      go_ret
      exact ⟨ret_bool HN.out,rfl⟩
     ·by_cases h4:(s[k].toNat:Int) = 9
      ·have HA:=HA (okZ_mk (by simp;omega))
       clear HN
       go_wp2
       go_round
       case rel=>exact ⟨k + 1,by omega,by go_num,HA.out⟩
       case measure=>simp [intOf];omega
      ·have HN:=HN (okZ_not (by simp;omega))
       have b3:((s[k].toNat:Int) == 10) = false:=by simpa using h3
       have c3:((s[k].toNat:Int) != 10) = true:=by simpa using h3
       have b4:((s[k].toNat:Int) == 9) = false:=by simpa using h4
       clear HA
       go_wp2
       go_ret
       exact ⟨ret_bool HN.out,rfl⟩
   ·by_cases h2:(s[k].toNat:Int) ≤ 126
    ·have HA:=HA (okZ_mk (by omega))
     clear HN
     go_wp2
     go_round
     case rel=>exact ⟨k + 1,by omega,by go_num,HA.out⟩
     case measure=>simp [intOf];omega
    ·have HN:=HN (okZ_not (by simp;omega))
     have h3:¬ (s[k].toNat:Int) = 10:=by omega
     have h4:¬ (s[k].toNat:Int) = 9:=by omega
     have b3:((s[k].toNat:Int) == 10) = false:=by simpa using h3
     have c3:((s[k].toNat:Int) != 10) = true:=by simpa using h3
     have b4:((s[k].toNat:Int) == 9) = false:=by simpa using h4
     clear HA
     cases tab
     ·go_wp2
      go_ret
      exact ⟨ret_bool HN.out,rfl⟩
     ·go_wp2
      go_ret
      exact ⟨ret_bool HN.out,rfl⟩
  ·have HN:Hid (decide ((s.size:Int) ≤ 200) = okB tab s):=okB_good (textB_mk hlt hall)
   clear hall
   go_wp2
   go_ret
   exact ⟨ret_bool HN.out,rfl⟩
/-- The others of a text with tabs and of one without. -/
def othersOf (tab:Bool):ByteArray:=if tab then ⟨#[9,10]⟩ else ⟨#[10]⟩
theorem others_at (tab:Bool) (c:UInt8):(0 ≤ Lib.indexByte (othersOf tab).data.toList c) ↔ (c.toNat = 10 ∨ (tab = true ∧ c.toNat = 9)):=by
 have e9:((9:UInt8) = c) ↔ c.toNat = 9:=⟨fun h=>by rw [← h];rfl,fun h=>by apply UInt8.toNat_inj.1;rw [h];rfl⟩
 have e10:((10:UInt8) = c) ↔ c.toNat = 10:=⟨fun h=>by rw [← h];rfl,fun h=>by apply UInt8.toNat_inj.1;rw [h];rfl⟩
 cases tab
 ·by_cases h:c.toNat = 10
  ·simp [othersOf,Lib.indexByte,e10,h]
  ·simp [othersOf,Lib.indexByte,e10,h]
 ·by_cases h:c.toNat = 10
  ·by_cases g:c.toNat = 9
   ·omega
   ·simp [othersOf,Lib.indexByte,e9,e10,h]
  ·by_cases g:c.toNat = 9
   ·simp [othersOf,Lib.indexByte,e9,g]
   ·simp [othersOf,Lib.indexByte,e9,e10,h,g]
set_option maxHeartbeats 2000000 in
theorem plainOr_any (tab:Bool) (s:ByteArray) (w:World) (hs:s.size ≤ maxLen) :
  Calls Tryz.prog 102 #[.string (othersOf tab),.string s] w fun e w'=>e = .returned (.bool (okB tab s)) ∧ w' = w:=by
 unfold maxLen at hs
 by_cases h4:s.size ≤ 200
 rotate_left
 ·have h4':(200:Int) < (s.size:Int):=by omega
  have HN:Hid (false = okB tab s):=okB_long h4
  go_enter Tryz.func102,Tryz.ntmps102
  go_wp2
  go_ret
  exact ⟨ret_bool HN.out,rfl⟩
 have h4':(s.size:Int) ≤ 200:=by omega
 have hO:=others_at tab
 generalize othersOf tab = O at hO
 go_enter Tryz.func102,Tryz.ntmps102
 go_wp2
 go_loop [11] (fun i=>∃ k:Nat,k ≤ s.size ∧ i = .int .i64 k ∧ ∀ j,(hj:j < s.size) → j < k → okZ tab (s[j].toNat:Int) = true) (fun i=>s.size - (intOf i).toNat)
 case atStart=>exact ⟨0,Nat.zero_le _,rfl,fun j _ h=>absurd h (by omega)⟩
 case round =>
  obtain ⟨k,hk,rfl,hall⟩:=hrel
  by_cases hlt:k < s.size
  ·have HA:okZ tab (s[k].toNat:Int) = true → Hid (∀ j,(hj:j < s.size) → j < k + 1 → okZ tab (s[j].toNat:Int) = true):=fun h j hj hjk=>by
    by_cases e:j = k
    ·subst e;exact h
    ·exact hall j hj (by omega)
   have HN:okZ tab (s[k].toNat:Int) = false → Hid (false = okB tab s):=fun h=>okB_bad (textB_not hlt h)
   have hOk:=hO s[k]
   have IB:=fun w=>Tryz.strings_IndexByte O (s[k].toNat:Int) w
   have e1:(s[k].toNat:Int).toNat.toUInt8 = s[k]:=by simp
   rw [e1] at IB
   clear hall e1 hO
   cases hB:inB 32 126 (s[k].toNat:Int)
   ·have hB':=inB_no hB
    by_cases hI:0 ≤ Lib.indexByte O.data.toList s[k]
    ·have HA:=HA (okZ_mk (by
      rcases hOk.1 hI with h | h
      ·exact .inr (.inl (by omega))
      ·exact .inr (.inr ⟨h.1,by omega⟩)))
     generalize Lib.indexByte O.data.toList s[k] = x at IB hI hOk
     have hI':¬ x < 0:=by omega
     clear HN hOk hB'
     go_wp2_with (first | (go_at_call 112;refine (plainByte_any _ _).mono ?_;rintro e w' ⟨rfl,rfl⟩) | (go_at_call 113;refine (IB _).mono ?_;rintro e w' ⟨rfl,rfl⟩))
     go_round
     case rel=>exact ⟨k + 1,by omega,by go_num,HA.out⟩
     case measure=>simp [intOf];omega
    ·have HN:=HN (okZ_not (by
      intro h
      apply hI
      apply hOk.2
      rcases h with h | h | h
      ·exact absurd h hB'
      ·left;omega
      ·right;exact ⟨h.1,by omega⟩))
     generalize Lib.indexByte O.data.toList s[k] = x at IB hI hOk
     have hI':x < 0:=by omega
     clear HA hOk hB'
     go_wp2_with (first | (go_at_call 112;refine (plainByte_any _ _).mono ?_;rintro e w' ⟨rfl,rfl⟩) | (go_at_call 113;refine (IB _).mono ?_;rintro e w' ⟨rfl,rfl⟩))
     go_ret
     exact ⟨ret_bool HN.out,rfl⟩
   ·have HA:=HA (okZ_mk (.inl (inB_yes hB)))
    clear HN hOk IB
    go_wp2_with (go_at_call 112;refine (plainByte_any _ _).mono ?_;rintro e w' ⟨rfl,rfl⟩)
    go_round
    case rel=>exact ⟨k + 1,by omega,by go_num,HA.out⟩
    case measure=>simp [intOf];omega
  ·have HN:Hid (true = okB tab s):=by show _ = _;simp [okB,h4,textB_mk hlt hall]
   clear hall
   go_wp2
   go_ret
   exact ⟨ret_bool HN.out,rfl⟩
theorem isText_any (s:ByteArray) (w:World) (hs:s.size ≤ maxLen) :
  Calls Tryz.prog 84 #[.string s] w fun e w'=>e = .returned (.bool (okB true s)) ∧ w' = w:=by
 have PO:=fun w=>plainOr_any true s w hs
 unfold othersOf at PO
 go_enter Tryz.func84,Tryz.ntmps84
 go_wp2_with (go_at_call 102;refine (PO _).mono ?_;rintro e w' ⟨rfl,rfl⟩)
 go_ret
 exact ⟨rfl,rfl⟩
/-- A slice value at address a reads as the numbers zs. -/
def Row (w:World) (a:Option Addr) (zs:List Int):Prop :=
 zs = [] ∨ ∃ b off,a = some ⟨b,off,none⟩ ∧ ∀ i,i < zs.length → w.cell? ⟨b,off + i,none⟩ = some (.int .i64 (zs.getD i 0))
theorem block_lt {w:World} {b o:Nat} {v:Value} (h:w.cell? ⟨b,o,none⟩ = some v):b < w.heap.size:=by
 by_cases hb:b < w.heap.size
 ·exact hb
 ·have:w.heap[b]? = none:=Array.getElem?_eq_none (by omega)
  simp [World.cell?,this] at h
theorem Row.below {w w':World} {a:Option Addr} {zs:List Int} (h:Row w a zs) (hb:Below w.heap.size w w'):Row w' a zs:=by
 rcases h with h | ⟨b,off,rfl,hc⟩
 ·exact .inl h
 ·exact .inr ⟨b,off,rfl,fun i hi=>(hb.cell (block_lt (hc i hi))).trans (hc i hi)⟩
theorem Tryz.infoInt:(Tryz.prog.info? 3).map (fun i=>(i.zero,i.size,i.bytes)) = some (some (.int .i64 0),1,8):=by kernel_rfl
/-- The slice v owns the numbers zs, in a block from B on. -/
def OwnI (w:World) (B:Nat) (v:Value) (zs:List Int):Prop:=w.ownsRow B 3 1 v zs.length (zs.map (Value.int .i64))
theorem ownI_nil (w:World) (B:Nat):OwnI w B (.slice none 0 0) []:=World.ownsRow_nil w B 3 1
theorem OwnI.base {w:World} {B:Nat} {v:Value} {zs:List Int} (h:OwnI w B v zs) (k:Nat) (hk:v.ownBlock = some k):B ≤ k:=(h.lt k hk).1
theorem OwnI.row {w:World} {B:Nat} {v:Value} {zs:List Int} (h:OwnI w B v zs):∃ (a:Option Addr) (cap:Nat),v = .slice a zs.length cap ∧ Row w a zs:=by
 have h':w.ownsRow B 3 1 v zs.length (zs.map (Value.int .i64)):=h
 rcases h.2 with ⟨rfl,hn⟩ | ⟨g,cap,cur,rfl,_,_,_,_,_,_⟩
 ·have:zs = []:=List.eq_nil_of_length_eq_zero hn
  subst this
  exact ⟨none,0,rfl,.inl rfl⟩
 ·refine ⟨some ⟨g,0,none⟩,cap,rfl,.inr ⟨g,0,rfl,fun i hi=>?_⟩⟩
  rw [Nat.zero_add,h'.cellAt i (by omega),List.getElem?_map,List.getD_eq_getElem?_getD,List.getElem?_eq_getElem hi]
  rfl
theorem OwnI.below {w w':World} {B C:Nat} {v:Value} {zs:List Int} (h:OwnI w B v zs) (hb:Below C w w') (hlt:∀ k,v.ownBlock = some k → k < C):OwnI w' B v zs:=by
 refine ⟨h.1,?_⟩
 rcases h.2 with hn | ⟨g,cap,cur,rfl,hbg,hg,rest⟩
 ·exact .inl hn
 ·exact .inr ⟨g,cap,cur,rfl,hbg,(hb.block g (hlt g rfl)).trans hg,rest⟩
theorem OwnI.keep {w w':World} {B:Nat} {v:Value} {zs:List Int} (h:OwnI w B v zs) (hb:Below w.heap.size w w'):OwnI w' B v zs:=h.below hb fun k hk=>(h.lt k hk).2
theorem OwnI.snoc {w:World} {B n:Nat} {v:Value} {zs:List Int} {z:Int} (hn:n = zs.length) (h:w.ownsRow B 3 1 v (n + 1) (zs.map (Value.int .i64) ++ [.int .i64 z])):OwnI w B v (zs ++ [z]):=by
 subst hn
 unfold OwnI
 rw [List.length_append,List.map_append]
 exact h
theorem one_i64 (z:Int):∀ u ∈ [Value.int .i64 z],u.oneCell' = true:=by
 intro u hu
 rw [List.mem_singleton] at hu
 subst hu
 rfl
/-- The places 1 .. k at which p holds. -/
def placesL (p:Nat → Bool):Nat → List Int
 | 0=>[]
 | k + 1=>if p (k + 1) = true then placesL p k ++ [((k + 1:Nat):Int)] else placesL p k
theorem placesL_len (p:Nat → Bool) (k:Nat):(placesL p k).length ≤ k:=by
 induction k with
 | zero=>simp [placesL]
 | succ k ih =>
  unfold placesL
  split
  ·rw [List.length_append,List.length_singleton];omega
  ·omega
theorem placesL_yes {p:Nat → Bool} {k:Nat} (h:p (k + 1) = true):placesL p (k + 1) = placesL p k ++ [((k + 1:Nat):Int)]:=by rw [placesL,if_pos h]
theorem placesL_no {p:Nat → Bool} {k:Nat} (h:p (k + 1) = false):placesL p (k + 1) = placesL p k:=by rw [placesL,if_neg (by rw [h];decide)]
/-- A line break stands ahead of place i. -/
def tenB (s:ByteArray) (i:Nat):Bool:=decide ((s.data.toList.getD (i - 1) 0).toNat = 10)
theorem at_listF (s:ByteArray) (k:Nat) (h:k < s.size):s.data.toList.getD k 0 = s[k]:=by
 rw [List.getD_eq_getElem?_getD,List.getElem?_eq_getElem (by simpa using h)];rfl
theorem tenB_yes {s:ByteArray} {k:Nat} (h:k < s.size) (hz:(s[k].toNat:Int) = 10):tenB s (k + 1) = true:=by
 simp only [tenB,Nat.add_sub_cancel];rw [at_listF s k h];exact decide_eq_true (by omega)
theorem tenB_no {s:ByteArray} {k:Nat} (h:k < s.size) (hz:¬ (s[k].toNat:Int) = 10):tenB s (k + 1) = false:=by
 simp only [tenB,Nat.add_sub_cancel];rw [at_listF s k h];exact decide_eq_false (by omega)
set_option maxRecDepth 100000 in
set_option maxHeartbeats 2000000 in
theorem specForcedL_any (s:ByteArray) (w:World) (hs:s.size ≤ 200) :
  Calls Tryz.prog 116 #[.string s] w fun e w'=>∃ v,e = .returned v ∧ OwnI w' w.heap.size v (placesL (tenB s) s.size) ∧ Below w.heap.size w w':=by
 obtain ⟨i0,hi,hz0,hz1,hz2⟩:=info_parts Tryz.infoInt
 have h00:=ownI_nil w w.heap.size
 go_enter Tryz.func116,Tryz.ntmps116
 go_wp2_with fail
 go_loopw [3,4] (fun v i wr=>∃ k:Nat,k ≤ s.size ∧ i = .int .i64 ((k:Int) + 1) ∧ OwnI wr w.heap.size v (placesL (tenB s) k) ∧ Below w.heap.size w wr) (fun _ i _=>s.size + 1 - (intOf i).toNat)
 case atStart=>exact ⟨0,Nat.zero_le _,rfl,h00,Below.refl _ _⟩
 case round =>
  obtain ⟨k,hk,rfl,hown,hbw⟩:=hrel
  clear h00
  by_cases hlt:k < s.size
  ·have q1:(k:Int) + 1 ≤ (s.size:Int):=by omega
   have hle:=placesL_len (tenB s) k
   by_cases h10:(s[k].toNat:Int) = 10
   ·have HP:Hid (placesL (tenB s) (k + 1) = placesL (tenB s) k ++ [((k + 1:Nat):Int)]):=placesL_yes (tenB_yes hlt h10)
    generalize placesL (tenB s) k = zs at hown HP hle
    have hown':wr.ownsRow w.heap.size 3 1 _ zs.length (zs.map (Value.int .i64)):=hown
    go_wp2_with (at_builtin;refine wpList_append_own _ rfl (.tmp 16) (.tmp 18) 69 rfl w.heap.size 3 i0 (.int .i64 0) 1 8 Tryz.underlying69 hi hz0 hz1 hz2 rfl (by decide) _ _ _ rfl (hown'.alloc _) ⟨wr.heap.size,0,none⟩ 1 1 [.int .i64 ((k:Int) + 1)] rfl rfl (cell_one_new _ _ _) (one_i64 _) (by unfold maxLen;omega) (by omega) (by have:=hbw.size;simp;omega) ?_)
    intro v' w2 hown2 hgrow2 _
    have R1:OwnI w2 w.heap.size v' (placesL (tenB s) (k + 1)):=by rw [HP.out];exact OwnI.snoc rfl hown2
    have R2:Below w.heap.size w w2:=(hbw.alloc hbw.size _).grown hgrow2 (by have:=hbw.size;simp;omega) (fun j hj=>hown.base j hj)
    clear hown2 hgrow2 hown hbw hown'
    go_wp2
    go_roundw
    case rel=>exact ⟨k + 1,by omega,by go_num,R1,R2⟩
    case measure=>simp [intOf];omega
   ·have R1:=hown
    rw [← placesL_no (tenB_no hlt h10)] at R1
    have b10:((s[k].toNat:Int) == 10) = false:=by simpa using h10
    clear hown hle
    go_wp2
    go_roundw
    case rel=>exact ⟨k + 1,by omega,by go_num,R1,hbw⟩
    case measure=>simp [intOf];omega
  ·have e:k = s.size:=by omega
   subst e
   go_wp2
   go_ret
   exact ⟨_,rfl,hown,hbw⟩
theorem places_cnt (p:Nat → Bool):∀ k,(placesL p k).length = cntN p k
 | 0=>rfl
 | k + 1=>by
  unfold placesL cntN
  cases h:p (k + 1)
  ·simpa [b2n] using places_cnt p k
  ·simpa [b2n] using places_cnt p k
theorem places_mem (p:Nat → Bool):∀ (k i:Nat),i < (placesL p k).length → ∃ m:Nat,(placesL p k).getD i 0 = (m:Int) ∧ 1 ≤ m ∧ m ≤ k ∧ p m = true
 | 0,i,h=>by simp [placesL] at h
 | k + 1,i,h=>by
  unfold placesL at h ⊢
  by_cases hp:p (k + 1) = true
  ·rw [if_pos hp] at h ⊢
   rw [List.length_append,List.length_singleton] at h
   by_cases hi:i < (placesL p k).length
   ·obtain ⟨m,h1,h2,h3,h4⟩:=places_mem p k i hi
    refine ⟨m,?_,h2,by omega,h4⟩
    rw [List.getD_eq_getElem?_getD,List.getElem?_append_left hi,← List.getD_eq_getElem?_getD]
    exact h1
   ·have e:i = (placesL p k).length:=by omega
    subst e
    exact ⟨k + 1,by simp,by omega,by omega,hp⟩
  ·rw [if_neg hp] at h ⊢
   obtain ⟨m,h1,h2,h3,h4⟩:=places_mem p k i h
   exact ⟨m,h1,h2,by omega,h4⟩
def softW (white:Int):Bool:=decide (white ≠ 3) && decide (white ≠ 2)
def letZ (z:Int):Bool:=decide ((97 ≤ z ∧ z ≤ 122) ∨ (65 ≤ z ∧ z ≤ 90) ∨ (48 ≤ z ∧ z ≤ 57))
theorem letZ_nat (n:Nat):letZ (n:Int) = letN n:=by
 unfold letZ letN
 congr 1
 apply propext
 omega
set_option maxHeartbeats 1000000 in
theorem letter_any (c : UInt8) (w : World) : Calls Tryz.prog 117 #[.int .u8 (c.toNat : Int)] w fun e w' => e = .returned (.bool (letN c.toNat)) ∧ w' = w := by
  rw [← letZ_nat]
  have h0 : (0 : Int) ≤ (c.toNat : Int) := by omega
  generalize (c.toNat : Int) = z at h0 ⊢
  have HZ : Hid (∀ b : Bool, (b = true ↔ ((97 ≤ z ∧ z ≤ 122) ∨ (65 ≤ z ∧ z ≤ 90) ∨ (48 ≤ z ∧ z ≤ 57))) → b = letZ z) := fun b h => by
    unfold letZ
    rw [Bool.eq_iff_iff, decide_eq_true_eq]
    exact h
  by_cases h1 : 97 ≤ z
  all_goals by_cases h2 : z ≤ 122
  all_goals by_cases h3 : 65 ≤ z
  all_goals by_cases h4 : z ≤ 90
  all_goals by_cases h5 : 48 ≤ z
  all_goals by_cases h6 : z ≤ 57
  all_goals first
    | omega
    | (go_enter Tryz.func117, Tryz.ntmps117
       go_wp2
       go_ret
       refine ⟨?_, rfl⟩
       rw [← HZ.out _ ?_]
       all_goals (first | rfl | (simp; omega)))
end Go.Proofs.YtjnmloaopnbpgaaGreatDoor
