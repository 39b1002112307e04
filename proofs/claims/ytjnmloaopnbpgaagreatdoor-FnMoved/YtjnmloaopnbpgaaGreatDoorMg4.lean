/-
 Contract of the model's places where a line may end.
-/
import Derived.Test.YtjnmloaopnbpgaaGreatDoorMg3
namespace Go.Proofs.YtjnmloaopnbpgaaGreatDoor
open Go.ChangeShapes Go.WideShapes Go.ChangeAt Go.RowKit
set_option linter.unusedVariables false
/-- What decides whether a line may end behind byte k. -/
theorem may_at (soft:Bool) (s:ByteArray) (k:Nat) (hk:k + 1 < s.size):mayB soft s.data.toList (k + 1) = (decide ((s[k]'(by omega)).toNat = 10) || (soft && ((decide ((s[k]'(by omega)).toNat = 32) && decide (s[k + 1].toNat ≠ 32) && decide (s[k + 1].toNat ≠ 10)) || (decide ((s[k]'(by omega)).toNat = 45) && decide (1 < k + 1) && letN (s.data.toList.getD (k + 1 - 2) 0).toNat && letN s[k + 1].toNat)))):=by
 have hl:s.data.toList.length = s.size:=by simp
 unfold mayB
 rw [hl,Nat.add_sub_cancel,at_listF s k (by omega),at_listF s (k + 1) hk,decide_eq_false (show ¬ k + 1 = s.size by omega),decide_eq_true hk,Bool.false_or,Bool.and_true]
theorem may_last (soft:Bool) (s:ByteArray) (k:Nat) (hk:k + 1 = s.size):mayB soft s.data.toList (k + 1) = true:=by
 have hl:s.data.toList.length = s.size:=by simp
 unfold mayB
 rw [hl,decide_eq_true hk]
 rfl
set_option maxRecDepth 100000 in
set_option maxHeartbeats 40000000 in
theorem breaks_pre (white:Int) (s:ByteArray) (w:World) (hs:s.size ≤ 200) (hw3:white = 3) :
  Calls Tryz.prog 107 #[.int .i64 white,.string s] w fun e w'=>∃ v,e = .returned v ∧ OwnI w' w.heap.size v (placesL (mayB (softW white) s.data.toList) s.size) ∧ Below w.heap.size w w':=by
 obtain ⟨i0,hi,hz0,hz1,hz2⟩:=info_parts Tryz.infoInt
 have h00:=ownI_nil w w.heap.size
 subst hw3
 have HSO:Hid (softW 3 = false):=by show softW 3 = _;simp [softW, *]
 go_enter Tryz.func107,Tryz.ntmps107
 go_wp2_with fail
 go_loopw [6,7] (fun v i wr=>∃ k:Nat,k ≤ s.size ∧ i = .int .i64 ((k:Int) + 1) ∧ OwnI wr w.heap.size v (placesL (mayB (softW 3) s.data.toList) k) ∧ Below w.heap.size w wr) (fun _ i _=>s.size + 1 - (intOf i).toNat)
 case atStart=>exact ⟨0,Nat.zero_le _,rfl,h00,Below.refl _ _⟩
 case round =>
  obtain ⟨k,hk,rfl,hown,hbw⟩:=hrel
  clear h00
  by_cases hlt:k < s.size
  rotate_left
  ·have e:k = s.size:=by omega
   subst e
   go_wp2
   go_ret
   exact ⟨_,rfl,hown,hbw⟩
  have q1:(k:Int) + 1 ≤ (s.size:Int):=by omega
  have hle:=placesL_len (mayB (softW 3) s.data.toList) k
  by_cases hla:k + 1 = s.size
  ·have q2:(k:Int) + 1 = (s.size:Int):=by omega
   have q4:(1:Int) ≤ (s.size:Int):=by omega
   have HM:mayB (softW 3) s.data.toList (k + 1) = true:=by exact may_last _ s k hla
   have HP:Hid (placesL (mayB (softW 3) s.data.toList) (k + 1) = placesL (mayB (softW 3) s.data.toList) k ++ [((k + 1:Nat):Int)]):=placesL_yes HM
   clear HM
   generalize placesL (mayB (softW 3) s.data.toList) k = zs at hown HP hle
   have hown':wr.ownsRow w.heap.size 3 1 _ zs.length (zs.map (Value.int .i64)):=hown
   go_wp2_with (first | (go_at_call 117;refine (letter_any _ _).mono ?_;rintro e w' ⟨rfl,hw⟩;have hw:=hw.symm;subst hw) | (at_builtin;refine wpList_append_own _ rfl (.tmp 81) (.tmp 83) 69 rfl w.heap.size 3 i0 (.int .i64 0) 1 8 Tryz.underlying69 hi hz0 hz1 hz2 rfl (by decide) _ _ _ rfl (hown'.alloc _) ⟨wr.heap.size,0,none⟩ 1 1 [.int .i64 (s.size:Int)] rfl rfl (cell_one_new _ _ _) (one_i64 _) (by unfold maxLen;omega) (by omega) (by have:=hbw.size;simp;omega) ?_))
   intro v' w2 hown2 hgrow2 _
   have R1:OwnI w2 w.heap.size v' (placesL (mayB (softW 3) s.data.toList) (k + 1)):=by rw [HP.out,show ((k + 1:Nat):Int) = (s.size:Int) by omega];exact OwnI.snoc rfl hown2
   have R2:Below w.heap.size w w2:=(hbw.alloc hbw.size _).grown hgrow2 (by have:=hbw.size;simp;omega) (fun j hj=>hown.base j hj)
   clear hown2 hgrow2 hown hbw hown'
   go_wp2
   go_roundw
   case rel=>exact ⟨k + 1,by omega,by go_num,R1,R2⟩
   case measure=>simp [intOf];omega
  have hlt2:k + 1 < s.size:=by omega
  have q2:¬ (k:Int) + 1 = (s.size:Int):=by omega
  have q3:(k:Int) + 1 < (s.size:Int):=by omega
  have HMA:Hid _:=may_at (softW 3) s k hlt2
  by_cases h10:(s[k].toNat:Int) = 10
  ·have hx:=h10
   have HM:mayB (softW 3) s.data.toList (k + 1) = true:=by rw [HMA.out,decide_eq_true (show s[k].toNat = 10 by omega)];rfl
   have HP:Hid (placesL (mayB (softW 3) s.data.toList) (k + 1) = placesL (mayB (softW 3) s.data.toList) k ++ [((k + 1:Nat):Int)]):=placesL_yes HM
   clear HM
   generalize placesL (mayB (softW 3) s.data.toList) k = zs at hown HP hle
   have hown':wr.ownsRow w.heap.size 3 1 _ zs.length (zs.map (Value.int .i64)):=hown
   go_wp2_with (first | (go_at_call 117;refine (letter_any _ _).mono ?_;rintro e w' ⟨rfl,hw⟩;have hw:=hw.symm;subst hw) | (at_builtin;refine wpList_append_own _ rfl (.tmp 81) (.tmp 83) 69 rfl w.heap.size 3 i0 (.int .i64 0) 1 8 Tryz.underlying69 hi hz0 hz1 hz2 rfl (by decide) _ _ _ rfl (hown'.alloc _) ⟨wr.heap.size,0,none⟩ 1 1 [.int .i64 ((k:Int) + 1)] rfl rfl (cell_one_new _ _ _) (one_i64 _) (by unfold maxLen;omega) (by omega) (by have:=hbw.size;simp;omega) ?_))
   intro v' w2 hown2 hgrow2 _
   have R1:OwnI w2 w.heap.size v' (placesL (mayB (softW 3) s.data.toList) (k + 1)):=by rw [HP.out];exact OwnI.snoc rfl hown2
   have R2:Below w.heap.size w w2:=(hbw.alloc hbw.size _).grown hgrow2 (by have:=hbw.size;simp;omega) (fun j hj=>hown.base j hj)
   clear hown2 hgrow2 hown hbw hown'
   go_wp2
   go_roundw
   case rel=>exact ⟨k + 1,by omega,by go_num,R1,R2⟩
   case measure=>simp [intOf];omega
  have b10:((s[k].toNat:Int) == 10) = false:=by simpa using h10
  have d10:decide (s[k].toNat = 10) = false:=decide_eq_false (by omega)
  have HM:mayB (softW 3) s.data.toList (k + 1) = false:=by rw [HMA.out,d10,HSO.out];rfl
  have R1:=hown
  rw [← placesL_no HM] at R1
  clear hown hle HM
  go_wp2_with (go_at_call 117;refine (letter_any _ _).mono ?_;rintro e w' ⟨rfl,hw⟩;have hw:=hw.symm;subst hw)
  go_roundw
  case rel=>exact ⟨k + 1,by omega,by go_num,R1,hbw⟩
  case measure=>simp [intOf];omega
set_option maxRecDepth 100000 in
set_option maxHeartbeats 40000000 in
theorem breaks_now (white:Int) (s:ByteArray) (w:World) (hs:s.size ≤ 200) (hw2:white = 2) :
  Calls Tryz.prog 107 #[.int .i64 white,.string s] w fun e w'=>∃ v,e = .returned v ∧ OwnI w' w.heap.size v (placesL (mayB (softW white) s.data.toList) s.size) ∧ Below w.heap.size w w':=by
 obtain ⟨i0,hi,hz0,hz1,hz2⟩:=info_parts Tryz.infoInt
 have h00:=ownI_nil w w.heap.size
 subst hw2
 have HSO:Hid (softW 2 = false):=by show softW 2 = _;simp [softW, *]
 go_enter Tryz.func107,Tryz.ntmps107
 go_wp2_with fail
 go_loopw [6,7] (fun v i wr=>∃ k:Nat,k ≤ s.size ∧ i = .int .i64 ((k:Int) + 1) ∧ OwnI wr w.heap.size v (placesL (mayB (softW 2) s.data.toList) k) ∧ Below w.heap.size w wr) (fun _ i _=>s.size + 1 - (intOf i).toNat)
 case atStart=>exact ⟨0,Nat.zero_le _,rfl,h00,Below.refl _ _⟩
 case round =>
  obtain ⟨k,hk,rfl,hown,hbw⟩:=hrel
  clear h00
  by_cases hlt:k < s.size
  rotate_left
  ·have e:k = s.size:=by omega
   subst e
   go_wp2
   go_ret
   exact ⟨_,rfl,hown,hbw⟩
  have q1:(k:Int) + 1 ≤ (s.size:Int):=by omega
  have hle:=placesL_len (mayB (softW 2) s.data.toList) k
  by_cases hla:k + 1 = s.size
  ·have q2:(k:Int) + 1 = (s.size:Int):=by omega
   have q4:(1:Int) ≤ (s.size:Int):=by omega
   have HM:mayB (softW 2) s.data.toList (k + 1) = true:=by exact may_last _ s k hla
   have HP:Hid (placesL (mayB (softW 2) s.data.toList) (k + 1) = placesL (mayB (softW 2) s.data.toList) k ++ [((k + 1:Nat):Int)]):=placesL_yes HM
   clear HM
   generalize placesL (mayB (softW 2) s.data.toList) k = zs at hown HP hle
   have hown':wr.ownsRow w.heap.size 3 1 _ zs.length (zs.map (Value.int .i64)):=hown
   go_wp2_with (first | (go_at_call 117;refine (letter_any _ _).mono ?_;rintro e w' ⟨rfl,hw⟩;have hw:=hw.symm;subst hw) | (at_builtin;refine wpList_append_own _ rfl (.tmp 81) (.tmp 83) 69 rfl w.heap.size 3 i0 (.int .i64 0) 1 8 Tryz.underlying69 hi hz0 hz1 hz2 rfl (by decide) _ _ _ rfl (hown'.alloc _) ⟨wr.heap.size,0,none⟩ 1 1 [.int .i64 (s.size:Int)] rfl rfl (cell_one_new _ _ _) (one_i64 _) (by unfold maxLen;omega) (by omega) (by have:=hbw.size;simp;omega) ?_))
   intro v' w2 hown2 hgrow2 _
   have R1:OwnI w2 w.heap.size v' (placesL (mayB (softW 2) s.data.toList) (k + 1)):=by rw [HP.out,show ((k + 1:Nat):Int) = (s.size:Int) by omega];exact OwnI.snoc rfl hown2
   have R2:Below w.heap.size w w2:=(hbw.alloc hbw.size _).grown hgrow2 (by have:=hbw.size;simp;omega) (fun j hj=>hown.base j hj)
   clear hown2 hgrow2 hown hbw hown'
   go_wp2
   go_roundw
   case rel=>exact ⟨k + 1,by omega,by go_num,R1,R2⟩
   case measure=>simp [intOf];omega
  have hlt2:k + 1 < s.size:=by omega
  have q2:¬ (k:Int) + 1 = (s.size:Int):=by omega
  have q3:(k:Int) + 1 < (s.size:Int):=by omega
  have HMA:Hid _:=may_at (softW 2) s k hlt2
  by_cases h10:(s[k].toNat:Int) = 10
  ·have hx:=h10
   have HM:mayB (softW 2) s.data.toList (k + 1) = true:=by rw [HMA.out,decide_eq_true (show s[k].toNat = 10 by omega)];rfl
   have HP:Hid (placesL (mayB (softW 2) s.data.toList) (k + 1) = placesL (mayB (softW 2) s.data.toList) k ++ [((k + 1:Nat):Int)]):=placesL_yes HM
   clear HM
   generalize placesL (mayB (softW 2) s.data.toList) k = zs at hown HP hle
   have hown':wr.ownsRow w.heap.size 3 1 _ zs.length (zs.map (Value.int .i64)):=hown
   go_wp2_with (first | (go_at_call 117;refine (letter_any _ _).mono ?_;rintro e w' ⟨rfl,hw⟩;have hw:=hw.symm;subst hw) | (at_builtin;refine wpList_append_own _ rfl (.tmp 81) (.tmp 83) 69 rfl w.heap.size 3 i0 (.int .i64 0) 1 8 Tryz.underlying69 hi hz0 hz1 hz2 rfl (by decide) _ _ _ rfl (hown'.alloc _) ⟨wr.heap.size,0,none⟩ 1 1 [.int .i64 ((k:Int) + 1)] rfl rfl (cell_one_new _ _ _) (one_i64 _) (by unfold maxLen;omega) (by omega) (by have:=hbw.size;simp;omega) ?_))
   intro v' w2 hown2 hgrow2 _
   have R1:OwnI w2 w.heap.size v' (placesL (mayB (softW 2) s.data.toList) (k + 1)):=by rw [HP.out];exact OwnI.snoc rfl hown2
   have R2:Below w.heap.size w w2:=(hbw.alloc hbw.size _).grown hgrow2 (by have:=hbw.size;simp;omega) (fun j hj=>hown.base j hj)
   clear hown2 hgrow2 hown hbw hown'
   go_wp2
   go_roundw
   case rel=>exact ⟨k + 1,by omega,by go_num,R1,R2⟩
   case measure=>simp [intOf];omega
  have b10:((s[k].toNat:Int) == 10) = false:=by simpa using h10
  have d10:decide (s[k].toNat = 10) = false:=decide_eq_false (by omega)
  have HM:mayB (softW 2) s.data.toList (k + 1) = false:=by rw [HMA.out,d10,HSO.out];rfl
  have R1:=hown
  rw [← placesL_no HM] at R1
  clear hown hle HM
  go_wp2_with (go_at_call 117;refine (letter_any _ _).mono ?_;rintro e w' ⟨rfl,hw⟩;have hw:=hw.symm;subst hw)
  go_roundw
  case rel=>exact ⟨k + 1,by omega,by go_num,R1,hbw⟩
  case measure=>simp [intOf];omega
set_option maxRecDepth 100000 in
set_option maxHeartbeats 40000000 in
theorem breaks_soft (white:Int) (s:ByteArray) (w:World) (hs:s.size ≤ 200) (hw3:¬ white = 3) (hw2:¬ white = 2) :
  Calls Tryz.prog 107 #[.int .i64 white,.string s] w fun e w'=>∃ v,e = .returned v ∧ OwnI w' w.heap.size v (placesL (mayB (softW white) s.data.toList) s.size) ∧ Below w.heap.size w w':=by
 obtain ⟨i0,hi,hz0,hz1,hz2⟩:=info_parts Tryz.infoInt
 have h00:=ownI_nil w w.heap.size
 have bw3:(white == 3) = false:=by simpa using hw3
 have bw2:(white == 2) = false:=by simpa using hw2
 have cw3:(white != 3) = true:=by simpa using hw3
 have cw2:(white != 2) = true:=by simpa using hw2
 have HSO:Hid (softW white = true):=by show softW white = _;simp [softW, *]
 go_enter Tryz.func107,Tryz.ntmps107
 go_wp2_with fail
 go_loopw [6,7] (fun v i wr=>∃ k:Nat,k ≤ s.size ∧ i = .int .i64 ((k:Int) + 1) ∧ OwnI wr w.heap.size v (placesL (mayB (softW white) s.data.toList) k) ∧ Below w.heap.size w wr) (fun _ i _=>s.size + 1 - (intOf i).toNat)
 case atStart=>exact ⟨0,Nat.zero_le _,rfl,h00,Below.refl _ _⟩
 case round =>
  obtain ⟨k,hk,rfl,hown,hbw⟩:=hrel
  clear h00
  by_cases hlt:k < s.size
  rotate_left
  ·have e:k = s.size:=by omega
   subst e
   go_wp2
   go_ret
   exact ⟨_,rfl,hown,hbw⟩
  have q1:(k:Int) + 1 ≤ (s.size:Int):=by omega
  have hle:=placesL_len (mayB (softW white) s.data.toList) k
  by_cases hla:k + 1 = s.size
  ·have q2:(k:Int) + 1 = (s.size:Int):=by omega
   have q4:(1:Int) ≤ (s.size:Int):=by omega
   have HM:mayB (softW white) s.data.toList (k + 1) = true:=by exact may_last _ s k hla
   have HP:Hid (placesL (mayB (softW white) s.data.toList) (k + 1) = placesL (mayB (softW white) s.data.toList) k ++ [((k + 1:Nat):Int)]):=placesL_yes HM
   clear HM
   generalize placesL (mayB (softW white) s.data.toList) k = zs at hown HP hle
   have hown':wr.ownsRow w.heap.size 3 1 _ zs.length (zs.map (Value.int .i64)):=hown
   go_wp2_with (first | (go_at_call 117;refine (letter_any _ _).mono ?_;rintro e w' ⟨rfl,hw⟩;have hw:=hw.symm;subst hw) | (at_builtin;refine wpList_append_own _ rfl (.tmp 81) (.tmp 83) 69 rfl w.heap.size 3 i0 (.int .i64 0) 1 8 Tryz.underlying69 hi hz0 hz1 hz2 rfl (by decide) _ _ _ rfl (hown'.alloc _) ⟨wr.heap.size,0,none⟩ 1 1 [.int .i64 (s.size:Int)] rfl rfl (cell_one_new _ _ _) (one_i64 _) (by unfold maxLen;omega) (by omega) (by have:=hbw.size;simp;omega) ?_))
   intro v' w2 hown2 hgrow2 _
   have R1:OwnI w2 w.heap.size v' (placesL (mayB (softW white) s.data.toList) (k + 1)):=by rw [HP.out,show ((k + 1:Nat):Int) = (s.size:Int) by omega];exact OwnI.snoc rfl hown2
   have R2:Below w.heap.size w w2:=(hbw.alloc hbw.size _).grown hgrow2 (by have:=hbw.size;simp;omega) (fun j hj=>hown.base j hj)
   clear hown2 hgrow2 hown hbw hown'
   go_wp2
   go_roundw
   case rel=>exact ⟨k + 1,by omega,by go_num,R1,R2⟩
   case measure=>simp [intOf];omega
  have hlt2:k + 1 < s.size:=by omega
  have q2:¬ (k:Int) + 1 = (s.size:Int):=by omega
  have q3:(k:Int) + 1 < (s.size:Int):=by omega
  have HMA:Hid _:=may_at (softW white) s k hlt2
  by_cases h10:(s[k].toNat:Int) = 10
  ·have hx:=h10
   have HM:mayB (softW white) s.data.toList (k + 1) = true:=by rw [HMA.out,decide_eq_true (show s[k].toNat = 10 by omega)];rfl
   have HP:Hid (placesL (mayB (softW white) s.data.toList) (k + 1) = placesL (mayB (softW white) s.data.toList) k ++ [((k + 1:Nat):Int)]):=placesL_yes HM
   clear HM
   generalize placesL (mayB (softW white) s.data.toList) k = zs at hown HP hle
   have hown':wr.ownsRow w.heap.size 3 1 _ zs.length (zs.map (Value.int .i64)):=hown
   go_wp2_with (first | (go_at_call 117;refine (letter_any _ _).mono ?_;rintro e w' ⟨rfl,hw⟩;have hw:=hw.symm;subst hw) | (at_builtin;refine wpList_append_own _ rfl (.tmp 81) (.tmp 83) 69 rfl w.heap.size 3 i0 (.int .i64 0) 1 8 Tryz.underlying69 hi hz0 hz1 hz2 rfl (by decide) _ _ _ rfl (hown'.alloc _) ⟨wr.heap.size,0,none⟩ 1 1 [.int .i64 ((k:Int) + 1)] rfl rfl (cell_one_new _ _ _) (one_i64 _) (by unfold maxLen;omega) (by omega) (by have:=hbw.size;simp;omega) ?_))
   intro v' w2 hown2 hgrow2 _
   have R1:OwnI w2 w.heap.size v' (placesL (mayB (softW white) s.data.toList) (k + 1)):=by rw [HP.out];exact OwnI.snoc rfl hown2
   have R2:Below w.heap.size w w2:=(hbw.alloc hbw.size _).grown hgrow2 (by have:=hbw.size;simp;omega) (fun j hj=>hown.base j hj)
   clear hown2 hgrow2 hown hbw hown'
   go_wp2
   go_roundw
   case rel=>exact ⟨k + 1,by omega,by go_num,R1,R2⟩
   case measure=>simp [intOf];omega
  have b10:((s[k].toNat:Int) == 10) = false:=by simpa using h10
  have d10:decide (s[k].toNat = 10) = false:=decide_eq_false (by omega)
  by_cases h32:(s[k].toNat:Int) = 32
  ·have d32:decide (s[k].toNat = 32) = true:=decide_eq_true (by omega)
   by_cases n32:(s[k + 1].toNat:Int) = 32
   ·have HM:mayB (softW white) s.data.toList (k + 1) = false:=by rw [HMA.out,d10,HSO.out,d32,decide_eq_false (show ¬ s[k + 1].toNat ≠ 32 by omega),decide_eq_false (show ¬ s[k].toNat = 45 by omega)];rfl
    have R1:=hown
    rw [← placesL_no HM] at R1
    clear hown hle HM
    go_wp2_with (go_at_call 117;refine (letter_any _ _).mono ?_;rintro e w' ⟨rfl,hw⟩;have hw:=hw.symm;subst hw)
    go_roundw
    case rel=>exact ⟨k + 1,by omega,by go_num,R1,hbw⟩
    case measure=>simp [intOf];omega
   have bn32:((s[k + 1].toNat:Int) == 32) = false:=by simpa using n32
   by_cases n10:(s[k + 1].toNat:Int) = 10
   ·have HM:mayB (softW white) s.data.toList (k + 1) = false:=by rw [HMA.out,d10,HSO.out,d32,decide_eq_true (show s[k + 1].toNat ≠ 32 by omega),decide_eq_false (show ¬ s[k + 1].toNat ≠ 10 by omega),decide_eq_false (show ¬ s[k].toNat = 45 by omega)];rfl
    have R1:=hown
    rw [← placesL_no HM] at R1
    clear hown hle HM
    go_wp2_with (go_at_call 117;refine (letter_any _ _).mono ?_;rintro e w' ⟨rfl,hw⟩;have hw:=hw.symm;subst hw)
    go_roundw
    case rel=>exact ⟨k + 1,by omega,by go_num,R1,hbw⟩
    case measure=>simp [intOf];omega
   have bn10:((s[k + 1].toNat:Int) == 10) = false:=by simpa using n10
   have HM:mayB (softW white) s.data.toList (k + 1) = true:=by rw [HMA.out,d10,HSO.out,d32,decide_eq_true (show s[k + 1].toNat ≠ 32 by omega),decide_eq_true (show s[k + 1].toNat ≠ 10 by omega)];rfl
   have HP:Hid (placesL (mayB (softW white) s.data.toList) (k + 1) = placesL (mayB (softW white) s.data.toList) k ++ [((k + 1:Nat):Int)]):=placesL_yes HM
   clear HM
   generalize placesL (mayB (softW white) s.data.toList) k = zs at hown HP hle
   have hown':wr.ownsRow w.heap.size 3 1 _ zs.length (zs.map (Value.int .i64)):=hown
   go_wp2_with (first | (go_at_call 117;refine (letter_any _ _).mono ?_;rintro e w' ⟨rfl,hw⟩;have hw:=hw.symm;subst hw) | (at_builtin;refine wpList_append_own _ rfl (.tmp 81) (.tmp 83) 69 rfl w.heap.size 3 i0 (.int .i64 0) 1 8 Tryz.underlying69 hi hz0 hz1 hz2 rfl (by decide) _ _ _ rfl (hown'.alloc _) ⟨wr.heap.size,0,none⟩ 1 1 [.int .i64 ((k:Int) + 1)] rfl rfl (cell_one_new _ _ _) (one_i64 _) (by unfold maxLen;omega) (by omega) (by have:=hbw.size;simp;omega) ?_))
   intro v' w2 hown2 hgrow2 _
   have R1:OwnI w2 w.heap.size v' (placesL (mayB (softW white) s.data.toList) (k + 1)):=by rw [HP.out];exact OwnI.snoc rfl hown2
   have R2:Below w.heap.size w w2:=(hbw.alloc hbw.size _).grown hgrow2 (by have:=hbw.size;simp;omega) (fun j hj=>hown.base j hj)
   clear hown2 hgrow2 hown hbw hown'
   go_wp2
   go_roundw
   case rel=>exact ⟨k + 1,by omega,by go_num,R1,R2⟩
   case measure=>simp [intOf];omega
  have b32:((s[k].toNat:Int) == 32) = false:=by simpa using h32
  have d32:decide (s[k].toNat = 32) = false:=decide_eq_false (by omega)
  by_cases h45:(s[k].toNat:Int) = 45
  rotate_left
  ·have b45:((s[k].toNat:Int) == 45) = false:=by simpa using h45
   have HM:mayB (softW white) s.data.toList (k + 1) = false:=by rw [HMA.out,d10,HSO.out,d32,decide_eq_false (show ¬ s[k].toNat = 45 by omega)];rfl
   have R1:=hown
   rw [← placesL_no HM] at R1
   clear hown hle HM
   go_wp2_with (go_at_call 117;refine (letter_any _ _).mono ?_;rintro e w' ⟨rfl,hw⟩;have hw:=hw.symm;subst hw)
   go_roundw
   case rel=>exact ⟨k + 1,by omega,by go_num,R1,hbw⟩
   case measure=>simp [intOf];omega
  have d45:decide (s[k].toNat = 45) = true:=decide_eq_true (by omega)
  by_cases h0:k = 0
  ·subst h0
   have HM:mayB (softW white) s.data.toList (0 + 1) = false:=by rw [HMA.out,d10,HSO.out,d32,d45];rfl
   have R1:=hown
   rw [← placesL_no HM] at R1
   clear hown hle HM
   go_wp2_with (go_at_call 117;refine (letter_any _ _).mono ?_;rintro e w' ⟨rfl,hw⟩;have hw:=hw.symm;subst hw)
   go_roundw
   case rel=>exact ⟨0 + 1,by omega,by go_num,R1,hbw⟩
   case measure=>simp [intOf];omega
  have g1:(1:Int) < (k:Int) + 1:=by omega
  have g2:k - 1 < s.size:=by omega
  have g3:IntKind.i64.wrap ((k:Int) + 1 - 2) = ((k - 1:Nat):Int):=by rw [IntKind.wrap_i64];omega
  have D1:decide (1 < k + 1) = true:=decide_eq_true (by omega)
  have E1:s.data.toList.getD (k + 1 - 2) 0 = s[k - 1]:=by rw [show k + 1 - 2 = k - 1 by omega];exact at_listF s _ g2
  cases hl1:letN s[k - 1].toNat
  ·have HM:mayB (softW white) s.data.toList (k + 1) = false:=by rw [HMA.out,d10,HSO.out,d32,d45,D1,E1,hl1];rfl
   have R1:=hown
   rw [← placesL_no HM] at R1
   clear hown hle HM
   go_wp2_with (go_at_call 117;refine (letter_any _ _).mono ?_;rintro e w' ⟨rfl,hw⟩;have hw:=hw.symm;subst hw)
   go_roundw
   case rel=>exact ⟨k + 1,by omega,by go_num,R1,hbw⟩
   case measure=>simp [intOf];omega
  cases hl2:letN s[k + 1].toNat
  ·have HM:mayB (softW white) s.data.toList (k + 1) = false:=by rw [HMA.out,d10,HSO.out,d32,d45,D1,E1,hl1,hl2];rfl
   have R1:=hown
   rw [← placesL_no HM] at R1
   clear hown hle HM
   go_wp2_with (go_at_call 117;refine (letter_any _ _).mono ?_;rintro e w' ⟨rfl,hw⟩;have hw:=hw.symm;subst hw)
   go_roundw
   case rel=>exact ⟨k + 1,by omega,by go_num,R1,hbw⟩
   case measure=>simp [intOf];omega
  ·have HM:mayB (softW white) s.data.toList (k + 1) = true:=by rw [HMA.out,d10,HSO.out,d32,d45,D1,E1,hl1,hl2];rfl
   have HP:Hid (placesL (mayB (softW white) s.data.toList) (k + 1) = placesL (mayB (softW white) s.data.toList) k ++ [((k + 1:Nat):Int)]):=placesL_yes HM
   clear HM
   generalize placesL (mayB (softW white) s.data.toList) k = zs at hown HP hle
   have hown':wr.ownsRow w.heap.size 3 1 _ zs.length (zs.map (Value.int .i64)):=hown
   go_wp2_with (first | (go_at_call 117;refine (letter_any _ _).mono ?_;rintro e w' ⟨rfl,hw⟩;have hw:=hw.symm;subst hw) | (at_builtin;refine wpList_append_own _ rfl (.tmp 81) (.tmp 83) 69 rfl w.heap.size 3 i0 (.int .i64 0) 1 8 Tryz.underlying69 hi hz0 hz1 hz2 rfl (by decide) _ _ _ rfl (hown'.alloc _) ⟨wr.heap.size,0,none⟩ 1 1 [.int .i64 ((k:Int) + 1)] rfl rfl (cell_one_new _ _ _) (one_i64 _) (by unfold maxLen;omega) (by omega) (by have:=hbw.size;simp;omega) ?_))
   intro v' w2 hown2 hgrow2 _
   have R1:OwnI w2 w.heap.size v' (placesL (mayB (softW white) s.data.toList) (k + 1)):=by rw [HP.out];exact OwnI.snoc rfl hown2
   have R2:Below w.heap.size w w2:=(hbw.alloc hbw.size _).grown hgrow2 (by have:=hbw.size;simp;omega) (fun j hj=>hown.base j hj)
   clear hown2 hgrow2 hown hbw hown'
   go_wp2
   go_roundw
   case rel=>exact ⟨k + 1,by omega,by go_num,R1,R2⟩
   case measure=>simp [intOf];omega
theorem breaks_any (white:Int) (s:ByteArray) (w:World) (hs:s.size ≤ 200) :
  Calls Tryz.prog 107 #[.int .i64 white,.string s] w fun e w'=>∃ v,e = .returned v ∧ OwnI w' w.heap.size v (placesL (mayB (softW white) s.data.toList) s.size) ∧ Below w.heap.size w w':=by
 by_cases hw3:white = 3
 ·exact breaks_pre white s w hs hw3
 by_cases hw2:white = 2
 ·exact breaks_now white s w hs hw2
 exact breaks_soft white s w hs hw3 hw2
end Go.Proofs.YtjnmloaopnbpgaaGreatDoor
