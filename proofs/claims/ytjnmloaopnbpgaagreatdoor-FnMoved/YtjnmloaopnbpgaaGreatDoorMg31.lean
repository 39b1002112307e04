/-
 What is kept of a text has at most as many breaks as the text pays for.
 The breaks of all boxes of a tree, bounded by its nodes.
 A budget along the boxes: what a box and all in it may make, and that the whole is the sum.
 The layout of all boxes, by induction from the last one on; what a float does is a premise here.
 The boxes of a tree as the layout wants them.
 Every box's content is reckoned.
 Rows of nodes that a call has made.
 Contracts of the cursor by which the laws draw their inputs: each method answers, within the bounds that are said, writes into nothing but its own cursor, and leaves it good; for cursors over byte slices that are apart from them.
 Contracts of the cursor's choices: pick, one and among, over its step.
 Contracts of the cursor's numbers: wide, sized and length answer some int.
 Contracts of the drawn lengths: DrawGoodLength, DrawPixelsText and DrawPercentOf answer some ints and leave all older memory alone, for every byte slice of at most 1048576 bytes.
 Contracts of the drawn font and of a drawn text: the cursor's font, of and plain answer some font and some short text, turn nothing but their cursor, and leave it good.
-/
import Derived.Test.YtjnmloaopnbpgaaGreatDoorMg22
import Derived.Test.YtjnmloaopnbpgaaGreatDoorMg29
import Derived.Laws.BitsAllLaws
namespace Go.Proofs.YtjnmloaopnbpgaaGreatDoor
open Go.ChangeShapes Go.WideShapes Go.ChangeAt Go.RowKit
set_option linter.unusedVariables false
theorem adv2_32 (p:Nat):adv2 p 32 = 0:=by simp [adv2,hardN,blkN,letN,b2n]
theorem adv2_10 (p:Nat):adv2 p 10 = 1:=by simp [adv2,hardN,blkN,letN,b2n]
theorem adv2_of32 (c:Nat):adv2 32 c = b2n (decide (c = 10)) + b2n (hardN c):=by simp [adv2,blkN,b2n]
theorem adv2_free (p c:Nat) (h1:blkN p = false) (h2:p ≠ 45):adv2 p c = b2n (decide (c = 10)):=by simp [adv2,h1,h2,b2n]
def fN (two:Bool) (p:Nat):Nat:=if p = 9 ∨ (p = 10 ∧ two = true) then 32 else p
theorem fN_blk (two:Bool) (c:UInt8):(blkS two c).toNat = fN two c.toNat:=by
 unfold blkS fN
 split <;> rfl
theorem adv_f (two:Bool) (p c:Nat):adv2 (fN two p) (fN two c) + b2n (decide (c = 10) && two) ≤ adv2 p c + b2n (decide (p = 10) && two):=by
 by_cases hc:c = 9 ∨ (c = 10 ∧ two = true)
 ·have e:fN two c = 32:=if_pos hc
  rw [e,adv2_32]
  rcases hc with rfl | ⟨rfl,rfl⟩
  ·simp [b2n]
  ·rw [adv2_10];simp [b2n]
 ·have e:fN two c = c:=if_neg hc
  have e2:b2n (decide (c = 10) && two) = 0:=by
   have:¬ (c = 10 ∧ two = true):=fun h=>hc (.inr h)
   cases two
   ·simp [b2n]
   ·have h:¬ c = 10:=fun h=>this ⟨h,rfl⟩
    simp [b2n,h]
  rw [e,e2]
  by_cases hp:p = 9 ∨ (p = 10 ∧ two = true)
  ·have e3:fN two p = 32:=if_pos hp
   rw [e3,adv2_of32]
   rcases hp with rfl | ⟨rfl,rfl⟩
   ·have:adv2 9 c = b2n (decide (c = 10)) + b2n (hardN c):=by simp [adv2,blkN,b2n]
    rw [this];omega
   ·have h1:=b2n_le (hardN c)
    have h2:adv2 10 c = b2n (decide (c = 10)):=adv2_free 10 c (by decide) (by decide)
    rw [h2]
    simp only [decide_true,Bool.and_self,show b2n true = 1 from rfl]
    omega
  ·have e3:fN two p = p:=if_neg hp
   rw [e3];omega
theorem tot_blk (two:Bool):∀ (l:List UInt8) (p:Nat),totN (fN two p) (l.map (blkS two)) ≤ totN p l + b2n (decide (p = 10) && two)
 | [],p=>by simp [totN]
 | c :: r,p=>by
  rw [List.map_cons,totN,totN,fN_blk]
  have h1:=tot_blk two r c.toNat
  have h2:=adv_f two p c.toNat
  omega
theorem tot_map (two:Bool) (l:List UInt8):totN 0 (l.map (blkS two)) ≤ totN 0 l:=by
 have h:=tot_blk two l 0
 have e:fN two 0 = 0:=if_neg (by omega)
 rw [e] at h
 have e2:b2n (decide ((0:Nat) = 10) && two) = 0:=by simp [b2n]
 omega
theorem lst_lastU (l:List UInt8):lstN 0 l = lastU l:=by
 cases hl:l.length with
 | zero=>rw [List.eq_nil_of_length_eq_zero hl];rfl
 | succ k =>
  have h:=lst_take l 0 k (by omega)
  rw [← hl,List.take_length] at h
  rw [h]
  unfold lastU
  rw [hl]
  rfl
theorem tot_one (l:List UInt8) (c:UInt8):totN 0 (l ++ [c]) = totN 0 l + adv2 (lstN 0 l) c.toNat:=by
 rw [tot_app];rfl
theorem lst_one (l:List UInt8) (c:UInt8):lstN 0 (l ++ [c]) = c.toNat:=by rw [lst_app];rfl
theorem tot_join (l:List UInt8):∀ (k:Nat),k ≤ l.length → totN 0 (joinK l k).1 ≤ totN 0 (l.take k) ∧ ((joinK l k).2 = false → lstN 0 (joinK l k).1 = lstN 0 (l.take k)) ∧ ((joinK l k).2 = true → lstN 0 (l.take k) = 32)
 | 0,_=>by
  rw [joinK_zero]
  refine ⟨Nat.le_refl _,fun _=>rfl,fun h=>by cases h⟩
 | k + 1,h=>by
  obtain ⟨h1,h2,h3⟩:=tot_join l k (by omega)
  rw [joinK_next l k (by omega),take_one l k (by omega),tot_one,lst_one]
  generalize l.getD k 0 = c
  generalize joinK l k = J at *
  obtain ⟨o,b⟩:=J
  simp only at h1 h2 h3
  unfold stepJ
  by_cases hc:c.toNat = 32
  ·rw [if_pos hc]
   refine ⟨by simp only;omega,fun h=>by simp at h,fun _=>hc⟩
  ·rw [if_neg hc]
   refine ⟨?_,fun _=>lst_one _ _,fun h=>by simp at h⟩
   simp only
   rw [tot_one]
   cases b with
   | false =>
    rw [if_neg (by simp),h2 rfl]
    omega
   | true =>
    rw [h3 rfl]
    by_cases hp:true = true ∧ c.toNat ≠ 10 ∧ begins o = false
    ·rw [if_pos hp,tot_one,lst_one]
     have:=adv2_32 (lstN 0 o)
     have e:(32:UInt8).toNat = 32:=rfl
     rw [e]
     omega
    ·rw [if_neg hp]
     have hp':c.toNat = 10 ∨ begins o = true:=by
      by_cases g:c.toNat = 10
      ·exact .inl g
      ·right
       cases hb:begins o with
       | true=>rfl
       | false=>exact absurd ⟨rfl,g,hb⟩ hp
     rcases hp' with g | g
     ·rw [g,adv2_10,adv2_10];omega
     ·have g2:lstN 0 o = 0 ∨ lstN 0 o = 10:=by
       unfold begins at g
       rw [decide_eq_true_eq] at g
       rcases g with g | g
       ·left;rw [List.eq_nil_of_length_eq_zero g];rfl
       ·right;rw [lst_lastU];exact g
      have g3:adv2 (lstN 0 o) c.toNat = b2n (decide (c.toNat = 10)):=by
       rcases g2 with g2 | g2
       ·rw [g2];exact adv2_free 0 _ (by decide) (by decide)
       ·rw [g2];exact adv2_free 10 _ (by decide) (by decide)
      rw [g3,adv2_of32]
      omega
theorem mem_join (l:List UInt8):∀ (k:Nat),k ≤ l.length → ∀ x ∈ (joinK l k).1,x = 32 ∨ x ∈ l
 | 0,_,x,hx=>by rw [joinK_zero] at hx;simp at hx
 | k + 1,h,x,hx=>by
  have ih:=mem_join l k (by omega)
  rw [joinK_next l k (by omega)] at hx
  have hm:l.getD k 0 ∈ l:=by
   rw [List.getD_eq_getElem?_getD,List.getElem?_eq_getElem (by omega)]
   exact List.getElem_mem _
  unfold stepJ at hx
  split at hx
  ·exact ih x hx
  ·simp only at hx
   rcases List.mem_append.1 hx with hx | hx
   ·split at hx
    ·rcases List.mem_append.1 hx with hx | hx
     ·exact ih x hx
     ·left;simpa using hx
    ·exact ih x hx
   ·right
    have:x = l.getD k 0:=by simpa using hx
    rw [this];exact hm
theorem map_no9 (two:Bool) (l:List UInt8):∀ x ∈ l.map (blkS two),x.toNat ≠ 9:=fun x hx=>by
 obtain ⟨c,-,rfl⟩:=List.mem_map.1 hx
 rw [fN_blk]
 unfold fN
 split <;> omega
theorem keep_no9 (white:Int) (l:List UInt8):∀ x ∈ keepL white l,x.toNat ≠ 9:=fun x hx=>by
 unfold keepL at hx
 split at hx
 ·exact map_no9 _ l x hx
 ·rcases mem_join _ _ (by simp) x hx with h | h
  ·subst h;decide
  ·exact map_no9 _ l x h
theorem tot_keep (white:Int) (l:List UInt8):totN 0 (keepL white l) ≤ totN 0 l:=by
 have h:=tot_map (decide (white ≤ 2)) l
 unfold keepL
 split
 ·exact h
 ·have h2:=(tot_join (l.map (blkS (decide (white ≤ 2)))) l.length (by simp)).1
  have e:(l.map (blkS (decide (white ≤ 2)))).take l.length = l.map (blkS (decide (white ≤ 2))):=List.take_of_length_le (by simp)
  rw [e] at h2
  omega
/-- The breaks of what is kept are paid by the text. -/
theorem nb_keep (soft:Bool) (white:Int) (l:List UInt8):nbN soft (keepL white l) ≤ totN 0 l + 1:=by
 have h:=nb_tot soft (keepL white l) (fun k hk=>by
  refine keep_no9 white l _ ?_
  rw [List.getD_eq_getElem?_getD,List.getElem?_eq_getElem hk]
  exact List.getElem_mem hk)
 have:=tot_keep white l
 omega
theorem cost_low (l:List UInt8):-2 * (l.length:Int) ≤ costN l:=by
 have:=tot_cost l
 omega
/-- The breaks of a box. -/
def wB (ns:List Nd) (x:Bx):Nat:=if x.kd = 1 ∨ x.kd = 3 then 0 else nbN (softW (ns.getD x.nd.toNat nd0).st.wh) x.tx.data.toList
def sumB (ns:List Nd):List Bx → Nat
 | []=>0
 | x :: r=>wB ns x + sumB ns r
theorem sumB_app (ns:List Nd):∀ (a b:List Bx),sumB ns (a ++ b) = sumB ns a + sumB ns b
 | [],b=>by simp [sumB]
 | x :: r,b=>by rw [List.cons_append,sumB,sumB,sumB_app ns r b];omega
theorem kindS_box {s:St} (h:¬ kindS s = 0):kindS s = 1 ∨ kindS s = 3:=by
 unfold kindS at h ⊢
 split at h
 ·exact absurd rfl h
 ·rename_i h1
  rw [if_neg h1]
  split at h
  ·rename_i h2;rw [if_pos h2];exact .inr rfl
  ·rename_i h2
   rw [if_neg h2]
   split at h
   ·rename_i h3;rw [if_pos h3];exact .inl rfl
   ·exact absurd rfl h
/-- What the text that has not ended costs. -/
def cosT (S:Ps):Int:=costN S.tx.data.toList
theorem tx_empty {S:Ps} (h:S.tx.size = 0):S.tx.data.toList = []:=by
 refine List.eq_nil_of_length_eq_zero ?_
 rw [Array.length_toList]
 exact h
theorem cosT_empty {S:Ps} (h:S.tx.size = 0):cosT S = 0:=by
 unfold cosT
 rw [tx_empty h]
 exact cost_nil
/-- A text that ends: its breaks are paid by its cost and 500. -/
theorem end_pay (ns:List Nd) (S:Ps) (h0:S.tx.size ≠ 0) (h:S.tx.size ≤ 200):100 * (sumB ns (endB ns S):Int) ≤ 100 * (sumB ns S.bs:Int) + cosT S + 500:=by
 have hl:S.tx.data.toList.length = S.tx.size:=by rw [Array.length_toList];rfl
 have h1:=tot_cost S.tx.data.toList
 have h2:=cost_low S.tx.data.toList
 unfold endB
 rw [if_neg h0,if_pos h,sumB_app]
 unfold cosT
 unfold lineOf
 split
 ·simp only [sumB]
  omega
 ·have h3:=nb_keep (softW (ns.getD (nodeOf S).toNat nd0).st.wh) (ns.getD (nodeOf S).toNat nd0).st.wh S.tx.data.toList
  have e:wB ns ⟨2,nodeOf S,S.ti,keepT (ns.getD (nodeOf S).toNat nd0).st.wh S.tx⟩ = nbN (softW (ns.getD (nodeOf S).toNat nd0).st.wh) (keepL (ns.getD (nodeOf S).toNat nd0).st.wh S.tx.data.toList):=by
   unfold wB
   rw [if_neg (by simp)]
   rfl
  simp only [sumB]
  rw [e]
  omega
theorem end_none (ns:List Nd) (S:Ps) (h0:S.tx.size = 0):endB ns S = S.bs:=by unfold endB;rw [if_pos h0]
/-- What stands along the pass, behind node k. -/
structure Pt (ns:List Nd) (k:Nat) (S:Ps) (σ:List Int) (z:Int):Prop where
 chain:∀ x:Nat,(x:Int) ∈ chainL ns (k - 1) → S.inn.getD x 0 = -1 ∨ S.inn.getD x 0 ∈ σ
 mono:∀ j,j < k → ∀ x:Nat,(x:Int) ∈ chainL ns j → S.inn.getD j 0 = -1 ∨ S.inn.getD x 0 ≤ S.inn.getD j 0
 pend:S.tx.size ≠ 0 → S.ti ∈ σ ∧ ∀ s ∈ σ,s ≤ S.ti
 pot:100 * (sumB ns S.bs:Int) + cosT S + 500 * (σ.length:Int) ≤ z
theorem filter_less {σ:List Int} {a t:Int} (ht:t ∈ σ) (h:a < t):(σ.filter (fun s=>decide (s ≤ a))).length + 1 ≤ σ.length:=by
 induction σ with
 | nil=>simp at ht
 | cons x r ih =>
  rw [List.filter_cons]
  rcases List.mem_cons.1 ht with e | e
  ·subst e
   rw [if_neg (by simp;omega)]
   have:=List.length_filter_le (fun s=>decide (s ≤ a)) r
   simp
   omega
  ·have:=ih e
   split <;> simp <;> omega
theorem bytes_app (s t:ByteArray):(s ++ t).data.toList = s.data.toList ++ t.data.toList:=by
 simp [ByteArray.data_append]
theorem pt_step {ns:List Nd} (hn:NsOk ns) {k:Nat} (h0:0 < k) (hk:k < ns.length) {S:Ps} (hS:PsOk ns k S) {σ:List Int} {z ct:Int} (h:Pt ns k S σ z) (hct:isT ns k = true → costN (ns.getD k nd0).tx.data.toList ≤ ct) (hc:1000 ≤ ct)
  (hok:(takeP ns S k).ok = true):∃ σ',Pt ns (k + 1) (takeP ns S k) σ' (z + ct):=by
 obtain ⟨u,hu,eu,hin,htu⟩:=(hn.stands k hk).ups h0
 have ear:arP ns S k = S.inn.getD u 0:=by
  unfold arP
  rw [if_pos (by omega),eu]
  rfl
 have ech:chainL ns k = chainL ns u ++ [(k:Int)]:=chain_in eu hu
 have hsub:∀ x:Nat,(x:Int) ∈ chainL ns u → (x:Int) ∈ chainL ns (k - 1) ∧ x < k:=fun x hx=>by
  refine ⟨?_,?_⟩
  ·rw [← chain_take (k - 1) u hin] at hx
   exact List.mem_of_mem_take hx
  ·have:=chain_bound ns u x hx
   omega
 have hlen:=hS.len
 have hpre:∀ (v:Int) (x:Nat),x < k → (S.inn ++ [v]).getD x 0 = S.inn.getD x 0:=fun v x hx=>getD_snoc_lt (by rw [hlen];exact hx)
 have hlast:∀ (v:Int),(S.inn ++ [v]).getD k 0 = v:=fun v=>by rw [← hlen];exact getD_snoc_at
 -- the chain and the order, for what node k is in
 have hmono:∀ v:Int,(v = -1 ∨ ∀ x:Nat,(x:Int) ∈ chainL ns u → S.inn.getD x 0 ≤ v) → ∀ j,j < k + 1 → ∀ x:Nat,(x:Int) ∈ chainL ns j → (S.inn ++ [v]).getD j 0 = -1 ∨ (S.inn ++ [v]).getD x 0 ≤ (S.inn ++ [v]).getD j 0:=by
  intro v hv j hj x hx
  by_cases e:j < k
  ·have hxj:=chain_bound ns j x hx
   rw [hpre v j e,hpre v x (by omega)]
   exact h.mono j e x hx
  ·obtain rfl:j = k:=by omega
   rw [hlast]
   rcases hv with hv | hv
   ·exact .inl hv
   ·right
    rw [ech,List.mem_append,List.mem_singleton] at hx
    rcases hx with hx | hx
    ·rw [hpre v x (hsub x hx).2]
     exact hv x hx
    ·have:x = j:=by omega
     subst this
     rw [hlast]
     exact Int.le_refl _
 have hchain:∀ (v:Int) (σ':List Int),(v = -1 ∨ v ∈ σ') → (∀ x:Nat,(x:Int) ∈ chainL ns u → S.inn.getD x 0 = -1 ∨ S.inn.getD x 0 ∈ σ') → ∀ x:Nat,(x:Int) ∈ chainL ns (k + 1 - 1) → (S.inn ++ [v]).getD x 0 = -1 ∨ (S.inn ++ [v]).getD x 0 ∈ σ':=by
  intro v σ' hv hx' x hx
  rw [Nat.add_sub_cancel,ech,List.mem_append,List.mem_singleton] at hx
  rcases hx with hx | hx
  ·rw [hpre v x (hsub x hx).2]
   exact hx' x hx
  ·have:x = k:=by omega
   subst this
   rw [hlast]
   exact hv
 have hold:∀ x:Nat,(x:Int) ∈ chainL ns u → S.inn.getD x 0 = -1 ∨ S.inn.getD x 0 ∈ σ:=fun x hx=>h.chain x (hsub x hx).1
 have hpot:=h.pot
 unfold takeP at hok ⊢
 by_cases hg:goneP ns S k = true
 ·rw [if_pos hg]
  exact ⟨σ,hchain _ _ (.inl rfl) hold,hmono _ (.inl rfl),h.pend,by show 100 * (sumB ns S.bs:Int) + cosT S + _ ≤ _;omega⟩
 ·rw [if_neg hg] at hok ⊢
  have hne:S.inn.getD u 0 ≠ -1:=fun hh=>hg (by unfold goneP;rw [decide_eq_true_eq];exact .inl ⟨h0,by rw [ear];exact hh⟩)
  have harσ:S.inn.getD u 0 ∈ σ:=(h.chain u hin).resolve_left hne
  have hmu:∀ x:Nat,(x:Int) ∈ chainL ns u → S.inn.getD x 0 ≤ S.inn.getD u 0:=fun x hx=>(h.mono u hu x hx).resolve_left hne
  by_cases hT:isT ns k = true
  ·rw [if_pos hT] at hok ⊢
   have hcost:=hct hT
   have hcut:∀ x:Nat,(x:Int) ∈ chainL ns u → S.inn.getD x 0 = -1 ∨ S.inn.getD x 0 ∈ σ.filter (fun s=>decide (s ≤ S.inn.getD u 0)):=fun x hx=>by
    rcases hold x hx with e | e
    ·exact .inl e
    ·right
     rw [List.mem_filter]
     exact ⟨e,by simpa using hmu x hx⟩
   have hmem:S.inn.getD u 0 ∈ σ.filter (fun s=>decide (s ≤ S.inn.getD u 0)):=by
    rw [List.mem_filter]
    exact ⟨harσ,by simp⟩
   have hall:∀ s ∈ σ.filter (fun s=>decide (s ≤ S.inn.getD u 0)),s ≤ S.inn.getD u 0:=fun s hs=>by
    rw [List.mem_filter] at hs
    simpa using hs.2
   have hfl:=List.length_filter_le (fun s=>decide (s ≤ S.inn.getD u 0)) σ
   by_cases hti:arP ns S k = S.ti
   ·rw [if_pos hti] at hok ⊢
    refine ⟨σ.filter (fun s=>decide (s ≤ S.inn.getD u 0)),hchain _ _ (.inl rfl) hcut,hmono _ (.inl rfl),fun _=>?_,?_⟩
    ·show S.ti ∈ _ ∧ ∀ s ∈ _,s ≤ S.ti
     rw [← hti,ear]
     exact ⟨hmem,hall⟩
    ·show 100 * (sumB ns S.bs:Int) + costN (S.tx ++ (ns.getD k nd0).tx).data.toList + _ ≤ _
     rw [bytes_app]
     have:=cost_app S.tx.data.toList (ns.getD k nd0).tx.data.toList
     unfold cosT at hpot
     omega
   ·rw [if_neg hti] at hok ⊢
    have hok2:S.tx.size ≤ 200:=by
     simp only [Bool.and_eq_true] at hok
     simpa [endO] using hok.2
    refine ⟨σ.filter (fun s=>decide (s ≤ S.inn.getD u 0)),hchain _ _ (.inl rfl) hcut,hmono _ (.inl rfl),fun _=>?_,?_⟩
    ·show arP ns S k ∈ _ ∧ ∀ s ∈ _,s ≤ arP ns S k
     rw [ear]
     exact ⟨hmem,hall⟩
    ·show 100 * (sumB ns (endB ns S):Int) + costN (ns.getD k nd0).tx.data.toList + _ ≤ _
     by_cases he:S.tx.size = 0
     ·rw [end_none ns S he]
      rw [cosT_empty he] at hpot
      omega
     ·have h1:=end_pay ns S he hok2
      obtain ⟨h2,h3⟩:=h.pend he
      have h4:=h3 _ harσ
      have h5:=filter_less (a:=S.inn.getD u 0) h2 (by rw [ear] at hti;omega)
      omega
  ·rw [if_neg hT] at hok ⊢
   by_cases hk0:kindS (ns.getD k nd0).st = 0
   ·rw [if_pos hk0]
    refine ⟨σ,hchain _ _ (.inr (by rw [ear];exact harσ)) hold,hmono _ (.inr (fun x hx=>by rw [ear];exact hmu x hx)),h.pend,?_⟩
    show 100 * (sumB ns S.bs:Int) + cosT S + _ ≤ _
    omega
   ·rw [if_neg hk0] at hok ⊢
    have hok2:S.tx.size ≤ 200:=by
     simp only [Bool.and_eq_true] at hok
     simpa [endO] using hok.2
    obtain ⟨e0,-,-⟩:=endB_ok hS
    refine ⟨σ ++ [((endB ns S).length:Int)],hchain _ _ (.inr (by simp)) (fun x hx=>?_),hmono _ (.inr (fun x hx=>?_)),fun hh=>absurd rfl hh,?_⟩
    ·rcases hold x hx with e | e
     ·exact .inl e
     ·exact .inr (List.mem_append_left _ e)
    ·have:=(hS.inn x (hsub x hx).2).2
     omega
    ·show 100 * (sumB ns (endB ns S ++ [⟨kindS (ns.getD k nd0).st,k,arP ns S k,ByteArray.empty⟩]):Int) + costN ByteArray.empty.data.toList + _ ≤ _
     have ew:wB ns ⟨kindS (ns.getD k nd0).st,k,arP ns S k,ByteArray.empty⟩ = 0:=if_pos (kindS_box hk0)
     have ec:costN ByteArray.empty.data.toList = 0:=cost_nil
     rw [sumB_app,ec,List.length_append,List.length_singleton]
     simp only [sumB,ew]
     by_cases he:S.tx.size = 0
     ·rw [end_none ns S he]
      rw [cosT_empty he] at hpot
      omega
     ·have h1:=end_pay ns S he hok2
      omega
/-- The first node. -/
theorem pt_one {ns:List Nd} (hn:NsOk ns) (hl:0 < ns.length) (hr:kindS (ns.getD 0 nd0).st = 1):Pt ns 1 (passP ns 1) [0] 500:=by
 have hup:upL ns 0 = -1:=(hn.stands 0 hl).top rfl
 have e:passP ns 1 = ⟨[⟨1,0,-1,ByteArray.empty⟩],[0],ByteArray.empty,-1,true⟩:=by
  show takeP ns (passP ns 0) 0 = _
  unfold takeP
  have hsh:(ns.getD 0 nd0).st.sh ≠ 3:=fun h=>by
   unfold kindS at hr
   rw [if_pos h] at hr
   cases hr
  have ear:arP ns (passP ns 0) 0 = -1:=by unfold arP;rw [if_neg (by omega)]
  have eend:endB ns (passP ns 0) = []:=end_none ns _ rfl
  rw [if_neg (by unfold goneP;rw [decide_eq_true_eq];omega),if_neg (by rw [hn.root];decide),if_neg (by rw [hr];decide),eend,ear,hr]
  rfl
 have ec:chainL ns 0 = [0]:=chain_top (by omega)
 rw [e]
 refine ⟨fun x hx=>?_,fun j hj x hx=>?_,fun hh=>absurd rfl hh,?_⟩
 ·right
  have hx:(x:Int) ∈ chainL ns 0:=hx
  rw [ec,List.mem_singleton] at hx
  have:x = 0:=by omega
  subst this
  simp
 ·have:j = 0:=by omega
  subst this
  rw [ec,List.mem_singleton] at hx
  have:x = 0:=by omega
  subst this
  right
  exact Int.le_refl _
 ·have ec:costN ByteArray.empty.data.toList = 0:=cost_nil
  simp only [sumB,cosT,ec,wB]
  simp
theorem pt_all {ns:List Nd} (hn:NsOk ns) (hr:kindS (ns.getD 0 nd0).st = 1) (hct:∀ k,k < ns.length → isT ns k = true → costN (ns.getD k nd0).tx.data.toList ≤ if k + 1 = ns.length then 1100 else 1000) :
  ∀ k,0 < k → k ≤ ns.length → (passP ns k).ok = true → ∃ σ,Pt ns k (passP ns k) σ (1000 * (k:Int) - 500 + if k = ns.length then 100 else 0)
 | 0,h,_,_=>by omega
 | 1,_,hl,_=>⟨[0],by
  have h:=pt_one hn (by omega) hr
  exact ⟨h.chain,h.mono,h.pend,by have:=h.pot;split <;> omega⟩⟩
 | k + 2,_,hl,hok=>by
  have hok1:(passP ns (k + 1)).ok = true:=by
   cases e:(passP ns (k + 1)).ok with
   | true=>rfl
   | false=>rw [ok_le e (by omega)] at hok;cases hok
  obtain ⟨σ,h⟩:=pt_all hn hr hct (k + 1) (by omega) (by omega) hok1
  rw [if_neg (by omega)] at h
  obtain ⟨σ',h'⟩:=pt_step hn (k:=k + 1) (by omega) (by omega) (pass_ok hn (k + 1) (by omega)) h (ct:=if k + 1 + 1 = ns.length then 1100 else 1000) (fun hT=>hct (k + 1) (by omega) hT) (by split <;> omega) hok
  refine ⟨σ',h'.chain,h'.mono,h'.pend,?_⟩
  have:=h'.pot
  show 100 * (sumB ns (takeP ns (passP ns (k + 1)) (k + 1)).bs:Int) + cosT (takeP ns (passP ns (k + 1)) (k + 1)) + _ ≤ _
  split at this <;> split <;> omega
/-- All boxes of a tree have few breaks. -/
theorem breaks_all {ns:List Nd} (hn:NsOk ns) (hr:kindS (ns.getD 0 nd0).st = 1) (h1:0 < ns.length) (h40:ns.length ≤ 40) (hct:∀ k,k < ns.length → isT ns k = true → costN (ns.getD k nd0).tx.data.toList ≤ if k + 1 = ns.length then 1100 else 1000)
  (hok:boxesOkP ns = true):sumB ns (boxesL ns) ≤ 396:=by
 unfold boxesOkP at hok
 rw [Bool.and_eq_true] at hok
 obtain ⟨hk,he⟩:=hok
 obtain ⟨σ,h⟩:=pt_all hn hr hct ns.length h1 (Nat.le_refl _) hk
 have he':(passP ns ns.length).tx.size ≤ 200:=by simpa [endO] using he
 have hpot:=h.pot
 rw [if_pos rfl] at hpot
 unfold boxesL
 by_cases h0:(passP ns ns.length).tx.size = 0
 ·rw [end_none _ _ h0]
  rw [cosT_empty h0] at hpot
  omega
 ·have h2:=end_pay ns _ h0 he'
  obtain ⟨h3,-⟩:=h.pend h0
  have h4:1 ≤ σ.length:=List.length_pos_of_mem h3
  omega
def sumR (f:Nat → Nat):Nat → Nat
 | 0=>0
 | m + 1=>sumR f m + f m
theorem sumR_congr {f h:Nat → Nat}:∀ (m:Nat),(∀ i,i < m → f i = h i) → sumR f m = sumR h m
 | 0,_=>rfl
 | m + 1,H=>by
  show sumR f m + f m = sumR h m + h m
  rw [sumR_congr m (fun i hi=>H i (by omega)),H m (by omega)]
theorem sumR_add (f h:Nat → Nat):∀ (m:Nat),sumR (fun i=>f i + h i) m = sumR f m + sumR h m
 | 0=>rfl
 | m + 1=>by
  show sumR (fun i=>f i + h i) m + (f m + h m) = (sumR f m + f m) + (sumR h m + h m)
  rw [sumR_add f h m];omega
theorem sumR_zero:∀ (m:Nat) {f:Nat → Nat},(∀ i,i < m → f i = 0) → sumR f m = 0
 | 0,_,_=>rfl
 | m + 1,f,H=>by
  show sumR f m + f m = 0
  rw [sumR_zero m (fun i hi=>H i (by omega)),H m (by omega)]
theorem sumR_one (f:Nat → Nat) (j:Nat):∀ (m:Nat),j < m → sumR (fun i=>if i = j then f i else 0) m = f j
 | 0,h=>by omega
 | m + 1,h=>by
  show sumR (fun i=>if i = j then f i else 0) m + (if m = j then f m else 0) = f j
  by_cases e:m = j
  ·subst e
   rw [if_pos rfl,sumR_zero m (fun i hi=>if_neg (by omega))];omega
  ·rw [if_neg e,sumR_one f j m (by omega)];rfl
theorem sumR_ge (f:Nat → Nat) (j:Nat):∀ (m:Nat),j < m → f j ≤ sumR f m
 | 0,h=>by omega
 | m + 1,h=>by
  show f j ≤ sumR f m + f m
  by_cases e:m = j
  ·subst e;omega
  ·have:=sumR_ge f j m (by omega);omega
theorem sumT_app (f:Nat → Nat) (zs ys:List Int):∀ (j:Nat),j ≤ zs.length → sumT f (zs ++ ys) j = sumT f zs j
 | 0,_=>rfl
 | j + 1,h=>by
  show sumT f (zs ++ ys) j + f ((zs ++ ys).getD j 0).toNat = sumT f zs j + f (zs.getD j 0).toNat
  rw [sumT_app f zs ys j (by omega),List.getD_eq_getElem?_getD,List.getElem?_append_left (by omega),← List.getD_eq_getElem?_getD]
/-- The sum over a box's kids, as a sum over all boxes. -/
theorem sumT_kids (f:Nat → Nat) (bs:List Bx) (k:Int):∀ (m:Nat),sumT f (kidsTo bs k m) (kidsTo bs k m).length = sumR (fun i=>if upX bs i = k then f i else 0) m
 | 0=>rfl
 | m + 1=>by
  show sumT f (kidsTo bs k (m + 1)) (kidsTo bs k (m + 1)).length = sumR (fun i=>if upX bs i = k then f i else 0) m + (if upX bs m = k then f m else 0)
  rw [← sumT_kids f bs k m]
  have ek:kidsTo bs k (m + 1) = if upX bs m = k then kidsTo bs k m ++ [(m:Int)] else kidsTo bs k m:=rfl
  rw [ek]
  by_cases h:upX bs m = k
  ·rw [if_pos h,if_pos h,List.length_append,List.length_singleton]
   show sumT f (kidsTo bs k m ++ [(m:Int)]) (kidsTo bs k m).length + f ((kidsTo bs k m ++ [(m:Int)]).getD (kidsTo bs k m).length 0).toNat = _
   rw [sumT_app f _ _ _ (Nat.le_refl _)]
   simp
  ·rw [if_neg h,if_neg h];rfl
/-- What a box and all in it weigh. -/
def bud (f:Nat → Nat) (bs:List Bx) (m:Nat):Nat → Nat → Nat
 | 0,k=>f k
 | d + 1,k=>f k + sumR (fun i=>if upX bs i = (k:Int) then bud f bs m d i else 0) m
def Bud (f:Nat → Nat) (bs:List Bx) (m k:Nat):Nat:=bud f bs m (m - k) k
theorem bud_eq (f:Nat → Nat) (bs:List Bx) (m:Nat) (hu:∀ i,i < m → upX bs i < (i:Int)):∀ (d d' k:Nat),k < m → m - k ≤ d → m - k ≤ d' → bud f bs m d k = bud f bs m d' k
 | 0,d',k,h,h1,h2=>by omega
 | d + 1,0,k,h,h1,h2=>by omega
 | d + 1,d' + 1,k,h,h1,h2=>by
  show f k + _ = f k + _
  congr 1
  refine sumR_congr m (fun i hi=>?_)
  by_cases e:upX bs i = (k:Int)
  ·have:=hu i hi
   rw [if_pos e,if_pos e]
   exact bud_eq f bs m hu d d' i hi (by omega) (by omega)
  ·rw [if_neg e,if_neg e]
theorem Bud_eq (f:Nat → Nat) (bs:List Bx) (m:Nat) (hu:∀ i,i < m → upX bs i < (i:Int)) (k:Nat) (hk:k < m):Bud f bs m k = f k + sumR (fun i=>if upX bs i = (k:Int) then Bud f bs m i else 0) m:=by
 unfold Bud
 obtain ⟨d,hd⟩:∃ d,m - k = d + 1:=⟨m - k - 1,by omega⟩
 rw [hd]
 show f k + _ = f k + _
 congr 1
 refine sumR_congr m (fun i hi=>?_)
 by_cases e:upX bs i = (k:Int)
 ·have:=hu i hi
  rw [if_pos e,if_pos e]
  exact bud_eq f bs m hu _ _ i hi (by omega) (by omega)
 ·rw [if_neg e,if_neg e]
theorem Bud_kids (f:Nat → Nat) (bs:List Bx) (m:Nat) (hu:∀ i,i < m → upX bs i < (i:Int)) (k:Nat) (hk:k < m):Bud f bs m k = f k + sumT (Bud f bs m) (kidsTo bs (k:Int) m) (kidsTo bs (k:Int) m).length:=by
 rw [sumT_kids];exact Bud_eq f bs m hu k hk
/-- What stands open ahead of box j. -/
def openB (f:Nat → Nat) (bs:List Bx) (m j:Nat):Nat:=sumR (fun i=>if j ≤ i ∧ upX bs i < (j:Int) then Bud f bs m i else 0) m
theorem open_step (f:Nat → Nat) (bs:List Bx) (m:Nat) (hu:∀ i,i < m → upX bs i < (i:Int)) (j:Nat) (hj:j < m):openB f bs m j = f j + openB f bs m (j + 1):=by
 have e:openB f bs m j + sumR (fun i=>if upX bs i = (j:Int) then Bud f bs m i else 0) m = Bud f bs m j + openB f bs m (j + 1):=by
  rw [← sumR_one (Bud f bs m) j m hj]
  unfold openB
  rw [← sumR_add,← sumR_add]
  refine sumR_congr m (fun i hi=>?_)
  have h:=hu i hi
  show (if _ then _ else _) + (if _ then _ else _) = (if _ then _ else _) + (if _ then _ else _)
  split <;> split <;> split <;> split <;> omega
 have e2:=Bud_eq f bs m hu j hj
 omega
theorem open_all (f:Nat → Nat) (bs:List Bx) (m:Nat) (hu:∀ i,i < m → upX bs i < (i:Int)):∀ j,j ≤ m → openB f bs m 0 = sumR f j + openB f bs m j
 | 0,_=>by show _ = 0 + _;omega
 | j + 1,h=>by
  have h1:=open_all f bs m hu j (by omega)
  have h2:=open_step f bs m hu j (by omega)
  show _ = (sumR f j + f j) + _
  omega
/-- A box that is in no other weighs at most what all weigh. -/
theorem Bud_le (f:Nat → Nat) (bs:List Bx) (m:Nat) (hu:∀ i,i < m → upX bs i < (i:Int)) (k:Nat) (hk:k < m) (h0:upX bs k < 0):Bud f bs m k ≤ sumR f m:=by
 have h1:=open_all f bs m hu m (Nat.le_refl _)
 have h2:openB f bs m m = 0:=sumR_zero m (fun i hi=>if_neg (by omega))
 have h3:=sumR_ge (fun i=>if 0 ≤ i ∧ upX bs i < ((0:Nat):Int) then Bud f bs m i else 0) k m hk
 have h4:(if 0 ≤ k ∧ upX bs k < ((0:Nat):Int) then Bud f bs m k else 0) = Bud f bs m k:=if_pos ⟨by omega,by simpa using h0⟩
 have h5:openB f bs m 0 = sumR (fun i=>if 0 ≤ i ∧ upX bs i < ((0:Nat):Int) then Bud f bs m i else 0) m:=rfl
 simp only [h4] at h3
 omega
/-- A box's own lines: none for a block or a float, at most so many for a line of text. -/
def wtL (E:Le) (W:Nat → Nat) (i:Nat):Nat:=if (E.bs.getD i bx0).kd = 1 ∨ (E.bs.getD i bx0).kd = 3 then 0 else W i
theorem wtL_box {E:Le} {W:Nat → Nat} {i:Nat} {x:Bx} (hx:E.bs[i]? = some x) (h:x.kd = 1 ∨ x.kd = 3):wtL E W i = 0:=by
 unfold wtL
 rw [List.getD_eq_getElem?_getD,hx]
 exact if_pos h
theorem wtL_line {E:Le} {W:Nat → Nat} {i:Nat} {x:Bx} (hx:E.bs[i]? = some x) (h1:x.kd ≠ 1) (h3:x.kd ≠ 3):wtL E W i = W i:=by
 unfold wtL
 rw [List.getD_eq_getElem?_getD,hx]
 exact if_neg (fun h=>h.elim h1 h3)
theorem LeOk.ups {E:Le} (hE:LeOk E):∀ i,i < E.m → upX E.bs i < (i:Int):=fun i hi=>by
 have hi':i < E.bs.length:=by rw [← hE.m];exact hi
 have h:=(hE.up i _ (List.getElem?_eq_getElem hi')).2
 unfold upX
 rw [List.getD_eq_getElem?_getD,List.getElem?_eq_getElem hi']
 exact h
theorem lay_all (E:Le) (hE:LeOk E) (W:Nat → Nat) (HA:AcrossOk) (HC:ClearOk) (HL:ClampOk)
  (HFl:∀ l n k,k < E.m → LayOk E 60 l n k → LayOk E 82 l (n + 1) k)
  (HW:∀ (i nd:Nat) (x:Bx) (y:Nd),E.bs[i]? = some x → x.kd ≠ 1 → x.kd ≠ 3 → x.nd = (nd:Int) → E.ns[nd]? = some y → nbN (softW y.st.wh) x.tx.data.toList ≤ W i) :
  ∀ k,k < E.m → ∃ l n,LayOk E 60 l n k ∧ wtL E W k + l = Bud (wtL E W) E.bs E.m k ∧ 1 + n = Bud (fun _=>1) E.bs E.m k:=by
 have hu:=hE.ups
 have H:∀ d k,E.m - k ≤ d → k < E.m → LayOk E 60 (sumT (Bud (wtL E W) E.bs E.m) (kidsTo E.bs (k:Int) E.m) (kidsTo E.bs (k:Int) E.m).length) (sumT (Bud (fun _=>1) E.bs E.m) (kidsTo E.bs (k:Int) E.m) (kidsTo E.bs (k:Int) E.m).length) k:=by
  intro d
  induction d with
  | zero=>intro k h1 h2;omega
  | succ d ih =>
   intro k h1 h2
   have hlt:∀ {i:Nat} {x:Bx},E.bs[i]? = some x → i < E.m:=fun {i x} hx=>by
    rw [hE.m]
    exact (List.getElem?_eq_some_iff.mp hx).1
   refine kids_of E hE (Bud (wtL E W) E.bs E.m) (Bud (fun _=>1) E.bs E.m) k h2 (fun i x hki hx h=>?_) (fun i x hki hx h=>?_) (fun i nd x y hx n1 n3 hnd hy=>?_)
   ·have hi:=hlt hx
    rw [Bud_kids (wtL E W) E.bs E.m hu i hi,Bud_kids (fun _=>1) E.bs E.m hu i hi,wtL_box hx (.inl h),Nat.zero_add,Nat.add_comm 1]
    exact block_of E hE _ _ i hi HA HC HL (ih i (by omega) hi)
   ·have hi:=hlt hx
    rw [Bud_kids (wtL E W) E.bs E.m hu i hi,Bud_kids (fun _=>1) E.bs E.m hu i hi,wtL_box hx (.inr h),Nat.zero_add,Nat.add_comm 1]
    exact HFl _ _ i hi (ih i (by omega) hi)
   ·have hi:=hlt hx
    rw [Bud_kids (wtL E W) E.bs E.m hu i hi,wtL_line hx n1 n3]
    exact Nat.le_trans (HW i nd x y hx n1 n3 hnd hy) (Nat.le_add_right _ _)
 intro k hk
 refine ⟨_,_,H E.m k (by omega) hk,?_,?_⟩
 ·exact (Bud_kids (wtL E W) E.bs E.m hu k hk).symm
 ·exact (Bud_kids (fun _=>1) E.bs E.m hu k hk).symm
theorem keep_len (white:Int) (l:List UInt8):(keepL white l).length ≤ l.length:=by
 unfold keepL
 split
 ·simp
 ·have h:=joinK_le (l.map (blkS (decide (white ≤ 2)))) l.length (by simp)
  exact h
def UpOk (bs:List Bx):Prop:=∀ (j:Nat) (b:Bx),bs[j]? = some b → -1 ≤ b.up ∧ b.up < (j:Int) ∧ b.tx.size ≤ 200
theorem upOk_snoc {bs:List Bx} (h:UpOk bs) {x:Bx} (h1:-1 ≤ x.up) (h2:x.up < (bs.length:Int)) (h3:x.tx.size ≤ 200):UpOk (bs ++ [x]):=fun j b hb=>by
 by_cases hj:j < bs.length
 ·rw [List.getElem?_append_left hj] at hb
  exact h j b hb
 ·rw [List.getElem?_append_right (by omega)] at hb
  rcases Nat.eq_zero_or_pos (j - bs.length) with h0 | h0
  ·rw [h0] at hb
   simp at hb
   subst hb
   exact ⟨h1,by omega,h3⟩
  ·rw [List.getElem?_eq_none (by simp;omega)] at hb
   cases hb
theorem endB_up {ns:List Nd} {k:Nat} {S:Ps} (h:PsOk ns k S) (hu:UpOk S.bs):UpOk (endB ns S):=by
 unfold endB
 split
 ·exact hu
 ·rename_i h0
  split
  ·rename_i h2
   unfold lineOf
   split
   ·rw [List.append_nil];exact hu
   ·obtain ⟨t0,t1⟩:=h.ti h0
    refine upOk_snoc hu (by show -1 ≤ S.ti;omega) t1 ?_
    have h3:=keep_len (ns.getD (nodeOf S).toNat nd0).st.wh S.tx.data.toList
    have h4:S.tx.data.toList.length = S.tx.size:=by rw [Array.length_toList];rfl
    have h5:(keepT (ns.getD (nodeOf S).toNat nd0).st.wh S.tx).size = (keepL (ns.getD (nodeOf S).toNat nd0).st.wh S.tx.data.toList).length:=by
     unfold keepT
     show (List.toArray _).size = _
     simp
    show (keepT _ S.tx).size ≤ 200
    omega
  ·exact hu
theorem take_up {ns:List Nd} {k:Nat} {S:Ps} (hn:NsOk ns) (hk:k < ns.length) (h:PsOk ns k S) (hu:UpOk S.bs):UpOk (takeP ns S k).bs:=by
 obtain ⟨a0,a1⟩:=ar_ok hn hk h
 obtain ⟨e0,-,-⟩:=endB_ok h
 have he:=endB_up h hu
 unfold takeP
 split
 ·exact hu
 ·split
  ·split
   ·exact hu
   ·exact he
  ·split
   ·exact hu
   ·exact upOk_snoc he a0 (by show arP ns S k < _;omega) (Nat.zero_le _)
theorem pass_up {ns:List Nd} (hn:NsOk ns):∀ k,k ≤ ns.length → UpOk (passP ns k).bs
 | 0,_=>fun j b hb=>by simp [passP] at hb
 | k + 1,h=>take_up hn (by omega) (pass_ok hn k (by omega)) (pass_up hn k (by omega))
/-- What the layout asks of its nodes and boxes. -/
theorem le_ok {ns:List Nd} (hn:NsOk ns) (h40:ns.length ≤ 40) {E:Le} (e1:E.ns = ns) (e2:E.bs = boxesL ns) (e3:E.n = ns.length) (e4:E.m = (boxesL ns).length) (hf:1 ≤ E.fn ∧ E.fn ≤ 6400 ∧ 1 ≤ E.fu ∧ E.fu ≤ 6400 ∧ 1 ≤ E.fb ∧ E.fb ≤ 6400):LeOk E:=by
 have hp:=pass_ok hn ns.length (Nat.le_refl _)
 obtain ⟨-,b1,b2⟩:=endB_ok hp
 have hu:UpOk (boxesL ns):=endB_up hp (pass_up hn ns.length (Nat.le_refl _))
 refine ⟨by rw [e3,e1],by rw [e4,e2],by omega,?_,hf,fun i x hx=>?_,fun i x hx=>?_,fun i x hx=>?_⟩
 ·rw [e4]
  have:(boxesL ns).length ≤ ns.length:=b1
  omega
 ·rw [e2] at hx
  obtain ⟨k,h1,h2,-⟩:=b2 i x hx
  exact ⟨k,h1,by omega⟩
 ·rw [e2] at hx
  exact ⟨(hu i x hx).1,(hu i x hx).2.1⟩
 ·rw [e2] at hx
  exact (hu i x hx).2.2
/-- The weights of all boxes, as a sum over the row. -/
theorem sumR_shift (f:Nat → Nat):∀ m,sumR f (m + 1) = f 0 + sumR (fun i=>f (i + 1)) m
 | 0=>by show 0 + f 0 = f 0 + 0;omega
 | m + 1=>by
  show sumR f (m + 1) + f (m + 1) = f 0 + (sumR (fun i=>f (i + 1)) m + f (m + 1))
  rw [sumR_shift f m]
  omega
theorem sumR_sumB (ns:List Nd):∀ (bs:List Bx),sumR (fun i=>wB ns (bs.getD i bx0)) bs.length = sumB ns bs
 | []=>rfl
 | x :: r=>by
  rw [List.length_cons,sumR_shift,sumB,← sumR_sumB ns r]
  rfl
/-- The lines of a box are its breaks. -/
def lineW (E:Le) (i:Nat):Nat:=nbN (softW (E.ns.getD (E.bs.getD i bx0).nd.toNat nd0).st.wh) (E.bs.getD i bx0).tx.data.toList
theorem line_le {E:Le} (i nd:Nat) (x:Bx) (y:Nd) (hx:E.bs[i]? = some x) (hnd:x.nd = (nd:Int)) (hy:E.ns[nd]? = some y):nbN (softW y.st.wh) x.tx.data.toList ≤ lineW E i:=by
 unfold lineW
 have e1:E.bs.getD i bx0 = x:=by rw [List.getD_eq_getElem?_getD,hx];rfl
 have e2:E.ns.getD nd nd0 = y:=by rw [List.getD_eq_getElem?_getD,hy];rfl
 rw [e1,hnd]
 show _ ≤ nbN (softW (E.ns.getD nd nd0).st.wh) _
 rw [e2]
 exact Nat.le_refl _
theorem wt_sum (E:Le):sumR (wtL E (lineW E)) E.bs.length = sumB E.ns E.bs:=by
 rw [← sumR_sumB]
 rfl
theorem content_all (E:Le) (hE:LeOk E):∀ k,k < E.m → ContOk E k:=by
 have h:∀ d k,E.m - k ≤ d → k < E.m → ContOk E k:=by
  intro d
  induction d with
  | zero=>intro k h1 h2;omega
  | succ d ih =>
   intro k h1 h2
   exact content_of E hE k h2 (fun i h3 h4=>outer_of E hE i h4 (ih i (by omega) h4))
 exact fun k hk=>h E.m k (by omega) hk
def flatN:List Nd → List Value
 | []=>[]
 | x :: xs=>ndL x ++ flatN xs
theorem flatN_len:∀ bs:List Nd,(flatN bs).length = bs.length * 28
 | []=>rfl
 | x :: xs=>by rw [flatN,List.length_append,flatN_len xs,ndL_len,List.length_cons,Nat.succ_mul,Nat.add_comm]
theorem flatN_snoc:∀ (bs:List Nd) (x:Nd),flatN (bs ++ [x]) = flatN bs ++ ndL x
 | [],x=>by simp [flatN]
 | y :: ys,x=>by rw [List.cons_append,flatN,flatN,flatN_snoc ys x,List.append_assoc]
theorem flatN_at:∀ (bs:List Nd) (i:Nat) (x:Nd) (c:Nat) (v:Value),bs[i]? = some x → (ndL x)[c]? = some v → (flatN bs)[i * 28 + c]? = some v
 | [],i,x,c,v,h,_=>by simp at h
 | y :: ys,0,x,c,v,h,hv=>by
  simp at h
  subst h
  rw [flatN,List.getElem?_append_left (by have:=(List.getElem?_eq_some_iff.1 hv).1;rw [ndL_len] at this ⊢;omega)]
  simpa using hv
 | y :: ys,i + 1,x,c,v,h,hv=>by
  have h':ys[i]? = some x:=by simpa using h
  rw [flatN,List.getElem?_append_right (by rw [ndL_len];omega),ndL_len,show (i + 1) * 28 + c - 28 = i * 28 + c by omega]
  exact flatN_at ys i x c v h' hv
theorem nOwn_some {w:World} {B:Nat} {e:TypeId} {size:Nat} {v:Value} {n:Nat} {xs:List Value} (h:w.ownsRow B e size v n xs) (hn:0 < n):∃ g cap,v = .slice (some ⟨g,0,none⟩) n cap:=by
 rcases h.2 with ⟨rfl,rfl⟩ | ⟨g,cap,cur,rfl,_⟩
 ·omega
 ·exact ⟨_,_,rfl⟩
theorem nOwn_keep {w w':World} {B:Nat} {e:TypeId} {size:Nat} {v:Value} {n:Nat} {xs:List Value} (h:w.ownsRow B e size v n xs) (hb:Below w.heap.size w w'):w'.ownsRow B e size v n xs :=
 h.kept (row:=none) ⟨hb.os,hb.tape,hb.output,hb.size,fun k hk _=>hb.block k hk⟩ (by cases h:v.ownBlock <;> simp)
/-- The slice v owns the nodes ns, in a block from B on. -/
def OwnN (w:World) (B:Nat) (v:Value) (ns:List Nd):Prop:=w.ownsRow B 75 28 v ns.length (flatN ns)
theorem nodeInfo:∃ i0,Tryz.prog.info? 75 = some i0 ∧ i0.zero = some (.agg #[.int .i64 0,.string ByteArray.empty,.int .i64 0,.int .i64 0,.int .i64 0,.bool false,.bool false,.int .i64 0,.bool false,.bool false,.int .i64 0,.int .i64 0,.int .i64 0,.int .i64 0,.bool false,.bool false,.int .i64 0,.int .i64 0,.bool false,.bool false,.int .i64 0,.int .i64 0,.int .i64 0,.int .i64 0,.int .i64 0,.int .i64 0,.int .i64 0,.int .i64 0]) ∧ i0.size = 28 ∧ i0.bytes = 200:=info_parts (show (Tryz.prog.info? 75).map (fun i=>(i.zero,i.size,i.bytes)) = some (some (.agg #[.int .i64 0,.string ByteArray.empty,.int .i64 0,.int .i64 0,.int .i64 0,.bool false,.bool false,.int .i64 0,.bool false,.bool false,.int .i64 0,.int .i64 0,.int .i64 0,.int .i64 0,.bool false,.bool false,.int .i64 0,.int .i64 0,.bool false,.bool false,.int .i64 0,.int .i64 0,.int .i64 0,.int .i64 0,.int .i64 0,.int .i64 0,.int .i64 0,.int .i64 0]),28,200) by kernel_rfl)
theorem one28 (x:Nd):∀ u ∈ ndL x,u.oneCell' = true:=fun u hu=>List.all_eq_true.1 (show (ndL x).all (·.oneCell') = true from rfl) u hu
theorem flatN_set:∀ (ns:List Nd) (k c:Nat) (x y:Nd) (v:Value),ns[k]? = some x → c < 28 → ndL y = (ndL x).set c v → flatN (ns.set k y) = (flatN ns).set (k * 28 + c) v
 | [],k,c,x,y,v,h,_,_=>by simp at h
 | z :: zs,0,c,x,y,v,h,hc,hy=>by
  simp at h
  subst h
  rw [List.set_cons_zero,flatN,flatN,hy,List.set_append_left _ _ (by rw [ndL_len];omega)]
  simp
 | z :: zs,k + 1,c,x,y,v,h,hc,hy=>by
  have h':zs[k]? = some x:=by simpa using h
  rw [List.set_cons_succ,flatN,flatN,flatN_set zs k c x y v h' hc hy,List.set_append_right _ _ (by rw [ndL_len];omega),ndL_len,show (k + 1) * 28 + c - 28 = k * 28 + c by omega]
/-- One cell of an owned node is set. -/
theorem OwnN.set1 {w:World} {B g cap n:Nat} {ns:List Nd} {k c:Nat} {x y:Nd} {v:Value} (hn:n = ns.length) (h:OwnN w B (.slice (some ⟨g,0,none⟩) n cap) ns) (hx:ns[k]? = some x) (hc:c < 28) (hy:ndL y = (ndL x).set c v):OwnN (w.setCell ⟨g,k * 28 + c,none⟩ v) B (.slice (some ⟨g,0,none⟩) n cap) (ns.set k y):=by
 unfold OwnN at h ⊢
 rw [← hn] at h
 rw [List.length_set,← hn,flatN_set ns k c x y v hx hc hy]
 exact (h.stored (k * 28 + c) v).1
theorem own_gro {w w':World} {B:Nat} {v:Value} {ns:List Nd} {b:Nat} (h:OwnN w B v ns) (hg:w.grownBy w' (some b)) (hb:b < B):OwnN w' B v ns:=by
 unfold OwnN at h ⊢
 refine h.kept hg ?_
 cases hv:v.ownBlock with
 | none=>exact .inl rfl
 | some k =>
  right
  intro e
  have:=(h.lt k hv).1
  injection e with e
  omega
/-- A new row of one node. -/
theorem own_first {w:World} {B g:Nat} {x:Nd} {c:Array Value} (hB:B ≤ g) (h:w.heap[g]? = some (.cells c 75 (0,0))) (hc:c.toList = ndL x):OwnN w B (.slice (some ⟨g,0,none⟩) 1 1) [x]:=by
 have hs:c.size = 28:=by
  have:=congrArg List.length hc
  simpa [ndL_len] using this
 refine ⟨by rw [flatN_len],.inr ⟨g,1,c,rfl,hB,h,Nat.le_refl _,by unfold maxLen;omega,by rw [hs],?_⟩⟩
 show c.toList.take (1 * 28) = flatN [x]
 rw [hc,flatN,flatN,List.append_nil]
 exact List.take_of_length_le (by rw [ndL_len];omega)
theorem OwnN.cell {w:World} {B g cap n:Nat} {ns:List Nd} {k c:Nat} {x:Nd} {v:Value} (hn:n = ns.length) (h:OwnN w B (.slice (some ⟨g,0,none⟩) n cap) ns) (hx:ns[k]? = some x) (hv:(ndL x)[c]? = some v):w.cell? ⟨g,k * 28 + c,none⟩ = some v:=by
 unfold OwnN at h
 rw [← hn] at h
 have hk:=(List.getElem?_eq_some_iff.1 hx).1
 have hc:=(List.getElem?_eq_some_iff.1 hv).1
 rw [ndL_len] at hc
 exact (h.cellAt (k * 28 + c) (by omega)).trans (flatN_at ns k x c v hx hv)
/-- A byte slice that can be read and does not lie in block b. -/
def BytesOk (w:World) (b:Nat) (a:Option Addr) (len:Nat):Prop :=
 len = 0 ∨ ∃ cb off,a = some ⟨cb,off,none⟩ ∧ cb ≠ b ∧ ∀ i,i < len → ∃ z:Int,0 ≤ z ∧ z ≤ 255 ∧ w.cell? ⟨cb,off + i,none⟩ = some (.int .u8 z)
/-- A cursor in block b over that slice, which has gone at most m steps. -/
def CurAt (w:World) (b:Nat) (a:Option Addr) (len cap m:Nat):Prop :=
 ∃ (k:Nat) (seed:Int),k ≤ m ∧ 0 ≤ seed ∧ seed ≤ 18446744073709551615 ∧ w.cell? ⟨b,0,none⟩ = some (.slice a len cap) ∧ w.cell? ⟨b,1,none⟩ = some (.int .i64 k) ∧ w.cell? ⟨b,2,none⟩ = some (.int .u64 seed) ∧
  w.frozen? ⟨b,0,none⟩ = false ∧ w.frozen? ⟨b,1,none⟩ = false ∧ w.frozen? ⟨b,2,none⟩ = false
def CurOk (w:World) (b:Nat) (a:Option Addr) (len cap m:Nat):Prop:=len ≤ 1048576 ∧ CurAt w b a len cap m ∧ BytesOk w b a len
theorem cell_lt' {w:World} {b o:Nat} {v:Value} (h:w.cell? ⟨b,o,none⟩ = some v):b < w.heap.size:=World.block_lt_of_cell? _ ⟨b,o,none⟩ h
theorem CurOk.lt {w:World} {b:Nat} {a:Option Addr} {len cap m:Nat} (h:CurOk w b a len cap m):b < w.heap.size:=by
 obtain ⟨_,⟨k,seed,_,_,_,h0,_⟩,_⟩:=h
 exact cell_lt' h0
theorem BytesOk.grown {w w':World} {b:Nat} {a:Option Addr} {len:Nat} (h:BytesOk w b a len) (hg:w.grownBy w' (some b)):BytesOk w' b a len:=by
 rcases h with h | ⟨cb,off,ha,hne,hc⟩
 ·exact .inl h
 ·refine .inr ⟨cb,off,ha,hne,fun i hi=>?_⟩
  obtain ⟨z,h0,h1,hz⟩:=hc i hi
  have hb:w'.heap[cb]? = w.heap[cb]?:=hg.block cb (cell_lt' hz) (by simpa using hne)
  exact ⟨z,h0,h1,(World.cell?_of_block (a:=⟨cb,off + i,none⟩) hb).trans hz⟩
theorem grown_trans {w w1 w2:World} {b:Nat} (h:w.grownBy w1 (some b)) (k:w1.grownBy w2 (some b)):w.grownBy w2 (some b) :=
 ⟨k.os.trans h.os,k.tape.trans h.tape,k.output.trans h.output,Nat.le_trans h.size k.size,fun i hi hne=>(k.block i (Nat.lt_of_lt_of_le hi h.size) hne).trans (h.block i hi hne)⟩
theorem grown_set (w:World) (b o:Nat) (v:Value):w.grownBy (w.setCell ⟨b,o,none⟩ v) (some b) :=
 ⟨rfl,rfl,rfl,by simp,fun k _ hne=>Below.heap_setCell w ⟨b,o,none⟩ v k (by simpa using hne)⟩
theorem grown_drewN (w:World) (n b:Nat):w.grownBy (w.drewN n) (some b):=⟨rfl,rfl,rfl,Nat.le_refl _,fun _ _ _=>rfl⟩
theorem u64_lo (x:Int):0 ≤ IntKind.u64.wrap x:=wrap_u64_nonneg x
theorem u64_hi (x:Int):IntKind.u64.wrap x ≤ 18446744073709551615:=by
 simp [IntKind.wrap,IntKind.bits,IntKind.signed];omega
theorem w64_small (n:Int) (h0:0 ≤ n) (h1:n < 9223372036854775808):wrap64 n = n:=by unfold wrap64;omega
theorem byte_of (x:Int) (h0:0 ≤ x) (h1:x < 18446744073709551616):0 ≤ wrap64 (bits .and .u64 x 255) ∧ wrap64 (bits .and .u64 x 255) ≤ 255:=by
 rw [u64_and x 255 h0 h1 (by omega) (by omega)]
 have h:x.toNat &&& (255:Int).toNat ≤ 255:=Nat.and_le_right
 generalize x.toNat &&& (255:Int).toNat = y at h
 rw [w64_small _ (by omega) (by omega)]
 omega
set_option maxHeartbeats 2000000 in
theorem next_in (b cb off len cap k:Nat) (seed z:Int) (w:World) (hl:len ≤ 1048576) (hk:k < len) (h0:w.cell? ⟨b,0,none⟩ = some (.slice (some ⟨cb,off,none⟩) len cap)) (h1:w.cell? ⟨b,1,none⟩ = some (.int .i64 k)) (h2:w.cell? ⟨b,2,none⟩ = some (.int .u64 seed))
  (f1:w.frozen? ⟨b,1,none⟩ = false) (f2:w.frozen? ⟨b,2,none⟩ = false) (hz:w.cell? ⟨cb,off + k,none⟩ = some (.int .u8 z)) (z0:0 ≤ z) (z1:z ≤ 255) (hne:cb ≠ b) :
  Calls Tryz.prog 39 #[.pointer (some ⟨b,0,none⟩)] w fun e w'=>∃ (s':Int) (q n:Nat),e = .returned (.int .i64 z) ∧ 0 ≤ s' ∧ s' ≤ 18446744073709551615 ∧ w' = (((w.drewN q).setCell ⟨b,1,none⟩ (.int .i64 ((k:Int) + 1))).setCell ⟨b,2,none⟩ (.int .u64 s')).drewN n:=by
 have hk':(k:Int) < (len:Int):=by omega
 have hk2:(k:Int) + 1 ≤ (len:Int):=by omega
 go_enter Tryz.func39,Tryz.ntmps39
 go_wp2
 go_quiet (fail)
 go_wp2
 go_quiet (fail)
 go_wp2
 go_quiet (fail)
 go_wp2
 go_ret
 exact ⟨_,_,_,rfl,u64_lo _,u64_hi _,rfl⟩
set_option maxHeartbeats 2000000 in
theorem next_out (b len cap k:Nat) (a:Option Addr) (seed:Int) (w:World) (hl:len ≤ 1048576) (hk:¬ k < len) (hk9:k ≤ 1000000000000000) (h0:w.cell? ⟨b,0,none⟩ = some (.slice a len cap)) (h1:w.cell? ⟨b,1,none⟩ = some (.int .i64 k)) (h2:w.cell? ⟨b,2,none⟩ = some (.int .u64 seed))
  (f1:w.frozen? ⟨b,1,none⟩ = false) (f2:w.frozen? ⟨b,2,none⟩ = false) :
  Calls Tryz.prog 39 #[.pointer (some ⟨b,0,none⟩)] w fun e w'=>∃ (s' v:Int) (q n:Nat),e = .returned (.int .i64 v) ∧ 0 ≤ v ∧ v ≤ 255 ∧ 0 ≤ s' ∧ s' ≤ 18446744073709551615 ∧ w' = (((w.drewN q).setCell ⟨b,1,none⟩ (.int .i64 ((k:Int) + 1))).setCell ⟨b,2,none⟩ (.int .u64 s')).drewN n:=by
 have hk':(len:Int) ≤ (k:Int):=by omega
 have hk2:(len:Int) < (k:Int) + 1:=by omega
 go_enter Tryz.func39,Tryz.ntmps39
 go_wp2
 go_quiet (fail)
 go_wp2
 go_quiet (fail)
 go_wp2
 go_ret
 exact ⟨_,_,_,_,rfl,(byte_of _ (by have:=u64_lo (IntKind.u64.wrap (IntKind.u64.wrap (seed * 6364136223846793005)) + 1442695040888963407);omega) (by have:=u64_hi (IntKind.u64.wrap (IntKind.u64.wrap (seed * 6364136223846793005)) + 1442695040888963407);omega)).1,(byte_of _ (by have:=u64_lo (IntKind.u64.wrap (IntKind.u64.wrap (seed * 6364136223846793005)) + 1442695040888963407);omega) (by have:=u64_hi (IntKind.u64.wrap (IntKind.u64.wrap (seed * 6364136223846793005)) + 1442695040888963407);omega)).2,u64_lo _,u64_hi _,rfl⟩
/-- What a step leaves. -/
theorem step_after (b len cap k m q n:Nat) (a:Option Addr) (seed s':Int) (w:World) (hl:len ≤ 1048576) (hk:k ≤ m) (h0:w.cell? ⟨b,0,none⟩ = some (.slice a len cap)) (h1:w.cell? ⟨b,1,none⟩ = some (.int .i64 k)) (h2:w.cell? ⟨b,2,none⟩ = some (.int .u64 seed))
  (f0:w.frozen? ⟨b,0,none⟩ = false) (f1:w.frozen? ⟨b,1,none⟩ = false) (f2:w.frozen? ⟨b,2,none⟩ = false) (hB:BytesOk w b a len) (s0:0 ≤ s') (s1:s' ≤ 18446744073709551615) :
  CurOk ((((w.drewN q).setCell ⟨b,1,none⟩ (.int .i64 ((k:Int) + 1))).setCell ⟨b,2,none⟩ (.int .u64 s')).drewN n) b a len cap (m + 1) ∧ w.grownBy ((((w.drewN q).setCell ⟨b,1,none⟩ (.int .i64 ((k:Int) + 1))).setCell ⟨b,2,none⟩ (.int .u64 s')).drewN n) (some b):=by
 have hg:w.grownBy ((((w.drewN q).setCell ⟨b,1,none⟩ (.int .i64 ((k:Int) + 1))).setCell ⟨b,2,none⟩ (.int .u64 s')).drewN n) (some b) :=
  grown_trans (grown_trans (grown_trans (grown_drewN w q b) (grown_set _ b 1 _)) (grown_set _ b 2 _)) (grown_drewN _ n b)
 have c0:(((w.drewN q).setCell ⟨b,1,none⟩ (.int .i64 ((k:Int) + 1))).setCell ⟨b,2,none⟩ (.int .u64 s')).cell? ⟨b,0,none⟩ = some (.slice a len cap) :=
  (World.cell?_setCell_other _ _ _ _ (by simp)).trans ((World.cell?_setCell_other _ _ _ _ (by simp)).trans h0)
 have c1:(((w.drewN q).setCell ⟨b,1,none⟩ (.int .i64 ((k:Int) + 1))).setCell ⟨b,2,none⟩ (.int .u64 s')).cell? ⟨b,1,none⟩ = some (.int .i64 ((k:Int) + 1)) :=
  (World.cell?_setCell_other _ _ _ _ (by simp)).trans (World.cell?_setCell_same _ _ _ (u:=.int .i64 k) h1)
 have c2:(((w.drewN q).setCell ⟨b,1,none⟩ (.int .i64 ((k:Int) + 1))).setCell ⟨b,2,none⟩ (.int .u64 s')).cell? ⟨b,2,none⟩ = some (.int .u64 s') :=
  World.cell?_setCell_same _ _ _ (u:=.int .u64 seed) ((World.cell?_setCell_other _ _ _ _ (by simp)).trans h2)
 have fz:∀ j,(((w.drewN q).setCell ⟨b,1,none⟩ (.int .i64 ((k:Int) + 1))).setCell ⟨b,2,none⟩ (.int .u64 s')).frozen? ⟨b,j,none⟩ = w.frozen? ⟨b,j,none⟩:=by
  intro j
  rw [World.frozen?_setCell,World.frozen?_setCell]
  rfl
 exact ⟨⟨hl,⟨k + 1,s',by omega,s0,s1,c0,c1.trans (by simp),c2,(fz 0).trans f0,(fz 1).trans f1,(fz 2).trans f2⟩,hB.grown hg⟩,hg⟩
/-- One step of the cursor. -/
theorem next_any (b len cap m:Nat) (a:Option Addr) (w:World) (hm:m ≤ 1000000000000000) (hC:CurOk w b a len cap m) :
  Calls Tryz.prog 39 #[.pointer (some ⟨b,0,none⟩)] w fun e w'=>∃ v:Int,e = .returned (.int .i64 v) ∧ 0 ≤ v ∧ v ≤ 255 ∧ CurOk w' b a len cap (m + 1) ∧ w.grownBy w' (some b):=by
 obtain ⟨hl,⟨k,seed,hk,s0,s1,h0,h1,h2,f0,f1,f2⟩,hB⟩:=hC
 by_cases hlt:k < len
 ·have hB':=hB
  rcases hB with hB | ⟨cb,off,rfl,hne,hc⟩
  ·omega
  ·obtain ⟨z,z0,z1,hz⟩:=hc k hlt
   refine (next_in b cb off len cap k seed z w hl hlt h0 h1 h2 f1 f2 hz z0 z1 hne).mono ?_
   rintro e w' ⟨s',q,n,rfl,t0,t1,rfl⟩
   have R:=step_after b len cap k m q n _ seed s' w hl hk h0 h1 h2 f0 f1 f2 hB' t0 t1
   exact ⟨z,rfl,z0,z1,R.1,R.2⟩
 ·refine (next_out b len cap k a seed w hl hlt (by omega) h0 h1 h2 f1 f2).mono ?_
  rintro e w' ⟨s',v,q,n,rfl,v0,v1,t0,t1,rfl⟩
  have R:=step_after b len cap k m q n _ seed s' w hl hk h0 h1 h2 f0 f1 f2 hB t0 t1
  exact ⟨v,rfl,v0,v1,R.1,R.2⟩
theorem CurOk.more {w:World} {b:Nat} {a:Option Addr} {len cap m m':Nat} (h:CurOk w b a len cap m) (hm:m ≤ m'):CurOk w b a len cap m':=by
 obtain ⟨hl,⟨k,seed,hk,r⟩,hB⟩:=h
 exact ⟨hl,⟨k,seed,by omega,r⟩,hB⟩
set_option maxHeartbeats 1000000 in
theorem pick_small (b len cap m:Nat) (a:Option Addr) (n:Int) (w:World) (hm:m ≤ 100000000000000) (hC:CurOk w b a len cap m) (n1:1 < n) (n2:n ≤ 200) :
  Calls Tryz.prog 11 #[.pointer (some ⟨b,0,none⟩),.int .i64 n] w fun e w'=>∃ v:Int,e = .returned (.int .i64 v) ∧ 0 ≤ v ∧ v < n ∧ CurOk w' b a len cap (m + 2) ∧ w.grownBy w' (some b):=by
 have NX:=next_any b len cap m a w (by omega) hC
 have hn0:(n == 0) = false:=by simp;omega
 clear hC
 go_enter Tryz.func11,Tryz.ntmps11
 go_wp2_with (go_at_call 39;refine NX.mono ?_;rintro e w1 ⟨v,rfl,v0,v1,hC1,hg1⟩)
 go_ret
 exact ⟨_,rfl,Int.emod_nonneg _ (by omega),Int.emod_lt_of_pos _ (by omega),hC1.more (by omega),hg1⟩
set_option maxHeartbeats 1000000 in
theorem pick_big (b len cap m:Nat) (a:Option Addr) (n:Int) (w:World) (hm:m ≤ 100000000000000) (hC:CurOk w b a len cap m) (n1:200 < n) (n2:n ≤ 1000000) :
  Calls Tryz.prog 11 #[.pointer (some ⟨b,0,none⟩),.int .i64 n] w fun e w'=>∃ v:Int,e = .returned (.int .i64 v) ∧ 0 ≤ v ∧ v < n ∧ CurOk w' b a len cap (m + 2) ∧ w.grownBy w' (some b):=by
 have NX:=next_any b len cap m a w (by omega) hC
 have hn0:(n == 0) = false:=by simp;omega
 clear hC
 go_enter Tryz.func11,Tryz.ntmps11
 go_wp2_with (go_at_call 39;have _t:=NX;refine NX.mono ?_;rintro e w1 ⟨v,rfl,v0,v1,hC1,hg1⟩;have NY:=next_any b len cap (m + 1) a w1 (by omega) hC1;clear NX hC1)
 go_wp2_with (go_at_call 39;refine NY.mono ?_;rintro e w2 ⟨u,rfl,u0,u1,hC2,hg2⟩)
 go_ret
 exact ⟨_,rfl,Int.emod_nonneg _ (by omega),Int.emod_lt_of_pos _ (by omega),hC2,grown_trans hg1 hg2⟩
set_option maxHeartbeats 1000000 in
theorem pick_one (b len cap m:Nat) (a:Option Addr) (n:Int) (w:World) (hC:CurOk w b a len cap m) (n1:n ≤ 1) :
  Calls Tryz.prog 11 #[.pointer (some ⟨b,0,none⟩),.int .i64 n] w fun e w'=>e = .returned (.int .i64 0) ∧ w' = w:=by
 clear hC
 go_enter Tryz.func11,Tryz.ntmps11
 go_wp2
 go_ret
 exact ⟨rfl,rfl⟩
/-- A choice among n. -/
theorem pick_any (b len cap m:Nat) (a:Option Addr) (n:Int) (w:World) (hm:m ≤ 100000000000000) (hC:CurOk w b a len cap m) (n1:1 ≤ n) (n2:n ≤ 1000000) :
  Calls Tryz.prog 11 #[.pointer (some ⟨b,0,none⟩),.int .i64 n] w fun e w'=>∃ v:Int,e = .returned (.int .i64 v) ∧ 0 ≤ v ∧ v < n ∧ CurOk w' b a len cap (m + 2) ∧ w.grownBy w' (some b):=by
 by_cases h1:n ≤ 1
 ·refine (pick_one b len cap m a n w hC h1).mono ?_
  rintro e w' ⟨rfl,rfl⟩
  exact ⟨0,rfl,by omega,by omega,hC.more (by omega),World.grownBy.refl _ _⟩
 ·by_cases h2:n ≤ 200
  ·exact pick_small b len cap m a n w hm hC (by omega) h2
  ·exact pick_big b len cap m a n w hm hC (by omega) n2
/-- Yes, once in n times. -/
theorem one_any (b len cap m:Nat) (a:Option Addr) (n:Int) (w:World) (hm:m ≤ 100000000000000) (hC:CurOk w b a len cap m) (n1:1 ≤ n) (n2:n ≤ 1000000) :
  Calls Tryz.prog 31 #[.pointer (some ⟨b,0,none⟩),.int .i64 n] w fun e w'=>∃ v:Bool,e = .returned (.bool v) ∧ CurOk w' b a len cap (m + 2) ∧ w.grownBy w' (some b):=by
 have P:=pick_any b len cap m a n w hm hC n1 n2
 clear hC
 go_enter Tryz.func31,Tryz.ntmps31
 go_wp2_with (go_at_call 11;refine P.mono ?_;rintro e w1 ⟨v,rfl,v0,v1,hC1,hg1⟩)
 go_ret
 exact ⟨_,rfl,hC1,hg1⟩
set_option maxHeartbeats 1000000 in
/-- One of some numbers, in a row that is not the cursor's. -/
theorem among_any (b len cap m lb n lc:Nat) (a:Option Addr) (w:World) (hm:m ≤ 100000000000000) (hC:CurOk w b a len cap m) (n1:1 ≤ n) (n2:n ≤ 1000000) (hne:lb ≠ b)
  (hc:∀ i,i < n → ∃ z:Int,w.cell? ⟨lb,i,none⟩ = some (.int .i64 z)) :
  Calls Tryz.prog 32 #[.pointer (some ⟨b,0,none⟩),.slice (some ⟨lb,0,none⟩) n lc] w fun e w'=>∃ v:Int,e = .returned (.int .i64 v) ∧ CurOk w' b a len cap (m + 2) ∧ w.grownBy w' (some b):=by
 have P:=pick_any b len cap m a n w hm hC (by omega) (by omega)
 clear hC
 have P':=P.mono (R':=fun e w'=>∃ j:Nat,e = .returned (.int .i64 (j:Int)) ∧ j < n ∧ (∃ z:Int,w'.cell? ⟨lb,j,none⟩ = some (.int .i64 z)) ∧ CurOk w' b a len cap (m + 2) ∧ w.grownBy w' (some b)) (fun e w' h=>by
  obtain ⟨v,rfl,v0,v1,hC1,hg1⟩:=h
  obtain ⟨z,hz⟩:=hc v.toNat (by omega)
  have hb:w'.heap[lb]? = w.heap[lb]?:=hg1.block lb (cell_lt' hz) (by simpa using hne)
  exact ⟨v.toNat,by rw [show ((v.toNat:Nat):Int) = v by omega],by omega,⟨z,(World.cell?_of_block (a:=⟨lb,v.toNat,none⟩) hb).trans hz⟩,hC1,hg1⟩)
 clear P hc
 go_enter Tryz.func32,Tryz.ntmps32
 go_wp2_with (go_at_call 11;refine P'.mono ?_;rintro e w1 ⟨j,rfl,j1,⟨z,hz⟩,hC1,hg1⟩)
 go_ret
 exact ⟨_,rfl,hC1,hg1⟩
theorem four_cells (w:World) (x0 x1 x2 x3:Int) (i:Nat) (hi:i < 4):∃ z:Int,(w.alloc (.cells #[.int .i64 x0,.int .i64 x1,.int .i64 x2,.int .i64 x3] 3)).cell? ⟨w.heap.size,i,none⟩ = some (.int .i64 z):=by
 have:i = 0 ∨ i = 1 ∨ i = 2 ∨ i = 3:=by omega
 rcases this with rfl | rfl | rfl | rfl
 ·exact ⟨x0,by simp⟩
 ·exact ⟨x1,by simp⟩
 ·exact ⟨x2,by simp⟩
 ·exact ⟨x3,by simp⟩
theorem CurOk.grown {w w':World} {b:Nat} {a:Option Addr} {len cap m:Nat} (h:CurOk w b a len cap m) (hb:Below w.heap.size w w'):CurOk w' b a len cap m:=by
 have hlt:=h.lt
 obtain ⟨hl,⟨k,seed,hk,s0,s1,h0,h1,h2,f0,f1,f2⟩,hB⟩:=h
 refine ⟨hl,⟨k,seed,hk,s0,s1,(hb.cell hlt).trans h0,(hb.cell hlt).trans h1,(hb.cell hlt).trans h2,(hb.frozen hlt).trans f0,(hb.frozen hlt).trans f1,(hb.frozen hlt).trans f2⟩,?_⟩
 rcases hB with hB | ⟨cb,off,ha,hne,hc⟩
 ·exact .inl hB
 ·exact .inr ⟨cb,off,ha,hne,fun i hi=>by obtain ⟨z,z0,z1,hz⟩:=hc i hi;exact ⟨z,z0,z1,(hb.cell (cell_lt' hz)).trans hz⟩⟩
theorem grown_of_below {w w':World} (b:Nat) (hb:Below w.heap.size w w'):w.grownBy w' (some b):=⟨hb.os,hb.tape,hb.output,hb.size,fun k hk _=>hb.block k hk⟩
/-- A byte slice that can be read. -/
def RowB (w:World) (a:Option Addr) (len:Nat):Prop :=
 len = 0 ∨ ∃ cb off,a = some ⟨cb,off,none⟩ ∧ ∀ i,i < len → ∃ z:Int,0 ≤ z ∧ z ≤ 255 ∧ w.cell? ⟨cb,off + i,none⟩ = some (.int .u8 z)
theorem RowB.below {w w':World} {a:Option Addr} {len:Nat} (h:RowB w a len) (hb:Below w.heap.size w w'):RowB w' a len:=by
 rcases h with h | ⟨cb,off,ha,hc⟩
 ·exact .inl h
 ·exact .inr ⟨cb,off,ha,fun i hi=>by obtain ⟨z,z0,z1,hz⟩:=hc i hi;exact ⟨z,z0,z1,(hb.cell (cell_lt' hz)).trans hz⟩⟩
/-- A new cursor is good. -/
theorem cur_new (w:World) (a:Option Addr) (len cap:Nat) (hl:len ≤ 1048576) (h:RowB w a len) :
  CurOk (w.alloc (.cells #[.slice a len cap,.int .i64 0,.int .u64 0] 46)) w.heap.size a len cap 0:=by
 refine ⟨hl,⟨0,0,Nat.le_refl _,by omega,by omega,by simp,by simp,by simp,by simp,by simp,by simp⟩,?_⟩
 rcases h with h | ⟨cb,off,ha,hc⟩
 ·exact .inl h
 ·by_cases h0:len = 0
  ·exact .inl h0
  ·have hlt:cb < w.heap.size:=by obtain ⟨z,_,_,hz⟩:=hc 0 (by omega);exact cell_lt' hz
   exact .inr ⟨cb,off,ha,by omega,fun i hi=>by obtain ⟨z,z0,z1,hz⟩:=hc i hi;exact ⟨z,z0,z1,(World.cell?_alloc_lt _ _ _ hlt).trans hz⟩⟩
/-- What turned the cursor alone turned nothing older. -/
theorem below_new {w w':World} {o:Obj} (h:(w.alloc o).grownBy w' (some w.heap.size)):Below w.heap.size w w' :=
 ⟨h.os,h.tape,h.output,Nat.le_trans (by simp) h.size,fun k hk=>(h.block k (by simp;omega) (by simp;omega)).trans (Below.heap_alloc w o k hk)⟩
theorem grown_new {w w':World} {b:Nat} {p:Addr} (hg:w.grownBy w' (some b)) (hp:w.heap.size ≤ p.block) (v:Value):w.grownBy (w'.setCell p v) (some b) :=
 ⟨hg.os,hg.tape,hg.output,Nat.le_trans hg.size (by simp),fun k hk hne=>(Below.heap_setCell w' p v k (by omega)).trans (hg.block k hk hne)⟩
theorem grown_alloc {w w':World} {b:Nat} (hg:w.grownBy w' (some b)) (o:Obj):w.grownBy (w'.alloc o) (some b) :=
 grown_trans hg (grown_of_below b ((Below.refl w'.heap.size w').alloc (Nat.le_refl _) o))
/-- A cursor that is good stays so where the blocks that were there at the beginning have not turned. -/
theorem CurOk.same {w0 w1 w2:World} {b:Nat} {a:Option Addr} {len cap m m0:Nat} (h0:CurOk w0 b a len cap m0) (h1:CurOk w1 b a len cap m) (hbl:∀ k,k < w0.heap.size → w2.heap[k]? = w1.heap[k]?):CurOk w2 b a len cap m:=by
 have hlt:=h0.lt
 obtain ⟨_,_,hB0⟩:=h0
 obtain ⟨hl,⟨k,seed,hk,s0,s1,c0,c1,c2,f0,f1,f2⟩,hB⟩:=h1
 have hb:=hbl b hlt
 refine ⟨hl,⟨k,seed,hk,s0,s1,(World.cell?_of_block (a:=⟨b,0,none⟩) hb).trans c0,(World.cell?_of_block (a:=⟨b,1,none⟩) hb).trans c1,(World.cell?_of_block (a:=⟨b,2,none⟩) hb).trans c2,(World.frozen?_of_block (a:=⟨b,0,none⟩) hb).trans f0,(World.frozen?_of_block (a:=⟨b,1,none⟩) hb).trans f1,(World.frozen?_of_block (a:=⟨b,2,none⟩) hb).trans f2⟩,?_⟩
 rcases hB with hB | ⟨cb,off,ha,hnb,hc⟩
 ·exact .inl hB
 ·by_cases hp:len = 0
  ·exact .inl hp
  ·rcases hB0 with hB0 | ⟨cb0,off0,ha0,_,hc0⟩
   ·exact absurd hB0 hp
   ·rw [ha] at ha0
    cases ha0
    have hcb:cb < w0.heap.size:=by obtain ⟨z,_,_,hz⟩:=hc0 0 (by omega);exact cell_lt' hz
    exact .inr ⟨cb,off,ha,hnb,fun i hi=>by
     obtain ⟨z,z0,z1,hz⟩:=hc i hi
     exact ⟨z,z0,z1,(World.cell?_of_block (a:=⟨cb,off + i,none⟩) (hbl cb hcb)).trans hz⟩⟩
/-- A font lies in block k, and may be written. -/
def FontAt (w:World) (k:Nat) (fa fd fn fu fb:Int):Prop :=
 k < w.heap.size ∧ w.cell? ⟨k,0,none⟩ = some (.int .i64 fa) ∧ w.cell? ⟨k,1,none⟩ = some (.int .i64 fd) ∧ w.cell? ⟨k,2,none⟩ = some (.int .i64 fn) ∧ w.cell? ⟨k,3,none⟩ = some (.int .i64 fu) ∧ w.cell? ⟨k,4,none⟩ = some (.int .i64 fb) ∧
  w.frozen? ⟨k,0,none⟩ = false ∧ w.frozen? ⟨k,1,none⟩ = false ∧ w.frozen? ⟨k,2,none⟩ = false ∧ w.frozen? ⟨k,3,none⟩ = false ∧ w.frozen? ⟨k,4,none⟩ = false
theorem fontAt_new (w:World) (fa fd fn fu fb:Int):FontAt (w.alloc (.cells #[.int .i64 fa,.int .i64 fd,.int .i64 fn,.int .i64 fu,.int .i64 fb] 48)) w.heap.size fa fd fn fu fb :=
 ⟨by simp,by simp,by simp,by simp,by simp,by simp,by simp,by simp,by simp,by simp,by simp⟩
theorem FontAt.same {w w':World} {k:Nat} {fa fd fn fu fb:Int} (h:FontAt w k fa fd fn fu fb) (hb:w'.heap[k]? = w.heap[k]?) (hs:w.heap.size ≤ w'.heap.size):FontAt w' k fa fd fn fu fb:=by
 obtain ⟨h0,c0,c1,c2,c3,c4,f0,f1,f2,f3,f4⟩:=h
 exact ⟨Nat.lt_of_lt_of_le h0 hs,(World.cell?_of_block (a:=⟨k,0,none⟩) hb).trans c0,(World.cell?_of_block (a:=⟨k,1,none⟩) hb).trans c1,(World.cell?_of_block (a:=⟨k,2,none⟩) hb).trans c2,(World.cell?_of_block (a:=⟨k,3,none⟩) hb).trans c3,(World.cell?_of_block (a:=⟨k,4,none⟩) hb).trans c4,
  (World.frozen?_of_block (a:=⟨k,0,none⟩) hb).trans f0,(World.frozen?_of_block (a:=⟨k,1,none⟩) hb).trans f1,(World.frozen?_of_block (a:=⟨k,2,none⟩) hb).trans f2,(World.frozen?_of_block (a:=⟨k,3,none⟩) hb).trans f3,(World.frozen?_of_block (a:=⟨k,4,none⟩) hb).trans f4⟩
theorem FontAt.grown {w w':World} {b k:Nat} {fa fd fn fu fb:Int} (h:FontAt w k fa fd fn fu fb) (hg:w.grownBy w' (some b)) (hne:k ≠ b):FontAt w' k fa fd fn fu fb :=
 h.same (hg.block k h.1 (by simpa using hne)) hg.size
theorem FontAt.below {w w':World} {k:Nat} {fa fd fn fu fb:Int} (h:FontAt w k fa fd fn fu fb) (hb:Below w.heap.size w w'):FontAt w' k fa fd fn fu fb :=
 h.same (hb.block k h.1) hb.size
set_option maxHeartbeats 4000000 in
theorem font_any (b len cap m:Nat) (a:Option Addr) (w:World) (hm:m ≤ 1000000000000) (hC:CurOk w b a len cap m) :
  Calls Tryz.prog 29 #[.pointer (some ⟨b,0,none⟩)] w fun e w'=>∃ fa fd fn fu fb:Int,e = .returned (.agg #[.int .i64 fa,.int .i64 fd,.int .i64 fn,.int .i64 fu,.int .i64 fb]) ∧ CurOk w' b a len cap (m + 20) ∧ w.grownBy w' (some b):=by
 have hlt:=hC.lt
 have hC0:=hC.grown ((Below.refl w.heap.size w).alloc (Nat.le_refl _) (.cells #[.int .i64 0,.int .i64 0,.int .i64 0,.int .i64 0,.int .i64 0] 48))
 go_enter Tryz.func29,Tryz.ntmps29
 go_wp2_with fail
 refine (pick_any b len cap m a 20 _ (by omega) hC0 (by omega) (by omega)).mono ?_
 rintro e w1 ⟨x1,rfl,x10,x11,hC1,hg1⟩
 go_wp2_with fail
 refine (pick_any b len cap (m + 2) a 10 _ (by omega) hC1 (by omega) (by omega)).mono ?_
 rintro e w2 ⟨x2,rfl,x20,x21,hC2,hg2⟩
 have G2:=grown_trans hg1 hg2
 clear hC1 hg1 hg2
 go_wp2_with fail
 refine (pick_any b len cap (m + 2 + 2) a 4 _ (by omega) hC2 (by omega) (by omega)).mono ?_
 rintro e w3 ⟨x3,rfl,x30,x31,hC3,hg3⟩
 have G3:=grown_trans G2 hg3
 clear hC2 G2 hg3
 go_wp2_with fail
 refine (pick_any b len cap (m + 2 + 2 + 2) a 5 _ (by omega) hC3 (by omega) (by omega)).mono ?_
 rintro e w4 ⟨x4,rfl,x40,x41,hC4,hg4⟩
 have G4:=grown_trans G3 hg4
 clear hC3 G3 hg4
 go_wp2_with fail
 refine (pick_any b len cap (m + 2 + 2 + 2 + 2) a 6 _ (by omega) hC4 (by omega) (by omega)).mono ?_
 rintro e w5 ⟨x5,rfl,x50,x51,hC5,hg5⟩
 have G5:=grown_trans G4 hg5
 clear hC4 G4 hg5 hC0
 have R5:=(fontAt_new w 0 0 0 0 0).grown G5 (by omega)
 have sz:=R5.1
 go_wp2_with fail
 refine (pick_any b len cap (m + 2 + 2 + 2 + 2 + 2) a 30 _ (by omega) (hC5.grown ((Below.refl _ _).alloc (Nat.le_refl _) _)) (by omega) (by omega)).mono ?_
 rintro e w6 ⟨x6,rfl,x60,x61,hC6,hg6⟩
 have L6:=(fontAt_new w5 (32 * (10 + x1)) (32 * x2) (64 * (1 + x3)) (64 * (4 + x4)) (64 * (8 + x5))).grown hg6 (by omega)
 have R6:=(R5.below ((Below.refl _ _).alloc (Nat.le_refl _) _)).grown hg6 (by omega)
 have G6:=grown_trans (grown_alloc G5 _) hg6
 have sz6:=L6.1
 have n1:¬ w.heap.size = w5.heap.size:=by omega
 have n2:¬ w5.heap.size = w.heap.size:=by omega
 clear hC5 G5 hg6 R5
 have hx:x6 = 0 ∨ x6 = 1 ∨ 2 ≤ x6:=by omega
 rcases hx with rfl | rfl | hx
 ·have hbl:=(Below.refl w6.heap.size w6).alloc (Nat.le_refl _) (.cells #[.int .i64 0,.int .i64 (-1),.int .i64 6400,.int .i64 6401] 3)
  have AM:=among_any b len cap (m + 2 + 2 + 2 + 2 + 2 + 2) w6.heap.size 4 4 a (w6.alloc (.cells #[.int .i64 0,.int .i64 (-1),.int .i64 6400,.int .i64 6401] 3)) (by omega) (hC6.grown hbl) (by omega) (by omega) (by omega) (four_cells w6 _ _ _ _)
  go_wp2_with fail
  refine AM.mono ?_
  rintro e w7 ⟨v,rfl,hC7,hg7⟩
  have G7:=grown_trans (grown_alloc G6 _) hg7
  obtain ⟨r0,r1,r2,r3,r4,r5,r6,r7,r8,r9,r10⟩:=(R6.below hbl).grown hg7 (by omega)
  obtain ⟨l0,l1,l2,l3,l4,l5,l6,l7,l8,l9,l10⟩:=(L6.below hbl).grown hg7 (by omega)
  clear G6 hg7 AM hC6 hbl R6 L6
  go_wp2
  refine bodyPost_ret (v:=.agg #[.int .i64 (32 * (10 + x1)),.int .i64 (32 * x2),.int .i64 (v),.int .i64 (64 * (4 + x4)),.int .i64 (64 * (8 + x5))]) (by simp [results,Tryz.results29,go_sem, *]) rfl ⟨_,_,_,_,_,rfl,hC.same (hC7.more (by omega)) (fun k hk=>?_),?_⟩
  ·repeat (refine (Below.heap_setCell _ _ _ k (by simp;omega)).trans ?_)
   rfl
  ·repeat (refine grown_new ?_ (by first | (simp;done) | (simp;omega)) _)
   exact grown_trans (grown_of_below b ((Below.refl w.heap.size w).alloc (Nat.le_refl _) _)) G7
 ·have hbl:=(Below.refl w6.heap.size w6).alloc (Nat.le_refl _) (.cells #[.int .i64 0,.int .i64 (-1),.int .i64 6400,.int .i64 6401] 3)
  have AM:=among_any b len cap (m + 2 + 2 + 2 + 2 + 2 + 2) w6.heap.size 4 4 a (w6.alloc (.cells #[.int .i64 0,.int .i64 (-1),.int .i64 6400,.int .i64 6401] 3)) (by omega) (hC6.grown hbl) (by omega) (by omega) (by omega) (four_cells w6 _ _ _ _)
  go_wp2_with fail
  refine AM.mono ?_
  rintro e w7 ⟨v,rfl,hC7,hg7⟩
  have G7:=grown_trans (grown_alloc G6 _) hg7
  obtain ⟨r0,r1,r2,r3,r4,r5,r6,r7,r8,r9,r10⟩:=(R6.below hbl).grown hg7 (by omega)
  obtain ⟨l0,l1,l2,l3,l4,l5,l6,l7,l8,l9,l10⟩:=(L6.below hbl).grown hg7 (by omega)
  clear G6 hg7 AM hC6 hbl R6 L6
  go_wp2
  refine bodyPost_ret (v:=.agg #[.int .i64 (v),.int .i64 (32 * x2),.int .i64 (64 * (1 + x3)),.int .i64 (64 * (4 + x4)),.int .i64 (64 * (8 + x5))]) (by simp [results,Tryz.results29,go_sem, *]) rfl ⟨_,_,_,_,_,rfl,hC.same (hC7.more (by omega)) (fun k hk=>?_),?_⟩
  ·repeat (refine (Below.heap_setCell _ _ _ k (by simp;omega)).trans ?_)
   rfl
  ·repeat (refine grown_new ?_ (by first | (simp;done) | (simp;omega)) _)
   exact grown_trans (grown_of_below b ((Below.refl w.heap.size w).alloc (Nat.le_refl _) _)) G7
 ·obtain ⟨r0,r1,r2,r3,r4,r5,r6,r7,r8,r9,r10⟩:=R6
  obtain ⟨l0,l1,l2,l3,l4,l5,l6,l7,l8,l9,l10⟩:=L6
  go_wp2
  refine bodyPost_ret (v:=.agg #[.int .i64 (32 * (10 + x1)),.int .i64 (32 * x2),.int .i64 (64 * (1 + x3)),.int .i64 (64 * (4 + x4)),.int .i64 (64 * (8 + x5))]) (by simp [results,Tryz.results29,go_sem, *]) rfl ⟨_,_,_,_,_,rfl,hC.same (hC6.more (by omega)) (fun k hk=>?_),?_⟩
  ·repeat (refine (Below.heap_setCell _ _ _ k (by simp;omega)).trans ?_)
   rfl
  ·repeat (refine grown_new ?_ (by first | (simp;done) | (simp;omega)) _)
   exact grown_trans (grown_of_below b ((Below.refl w.heap.size w).alloc (Nat.le_refl _) _)) G6
end Go.Proofs.YtjnmloaopnbpgaaGreatDoor
