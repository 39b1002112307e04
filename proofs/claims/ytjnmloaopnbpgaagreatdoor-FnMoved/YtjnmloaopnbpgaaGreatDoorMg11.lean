/-
 The boxes of a tree as plain data: one pass along the nodes, and where what is in a node ends.
 Where what is in a node ends, and how a way through the tree from node to node goes along with the one pass.
 Rows of boxes in memory: what it is that a slice reads as some boxes, and what keeps it so.
 The law's own copies of a row of boxes.
 The law's own comparison of a row of boxes with another of the same boxes.
 The law's own marking of a row of boxes, and its looking again: it writes into that row alone, and counts on.
 The law's own marking of a row of boxes, and its looking again.
 A slice of boxes of the law's own type that came in: what it holds.
 What FixStyle makes of a style; the model's l4Fix, for every style.
-/
import Derived.Test.YtjnmloaopnbpgaaGreatDoorMg10
import Derived.Lib.ItoaNum
import Derived.Deep.Slices
namespace Go.Proofs.YtjnmloaopnbpgaaGreatDoor
open Go.ChangeShapes Go.WideShapes Go.ChangeAt Go.RowKit
set_option linter.unusedVariables false
/-- Which box a style makes: 0 for none. -/
def kindS (s:St):Int:=if s.sh = 3 then 0 else if s.fl ≠ 0 then 3 else if s.sh = 1 then 1 else 0
def keepT (wh:Int) (t:ByteArray):ByteArray:=⟨(keepL wh t.data.toList).toArray⟩
/-- The box of a text that has ended, if it has one. -/
def lineOf (ns:List Nd) (nd ti:Int) (t:ByteArray):List Bx :=
 if (keepT (ns.getD nd.toNat nd0).st.wh t).size = 0 then [] else [⟨2,nd,ti,keepT (ns.getD nd.toNat nd0).st.wh t⟩]
/-- What the pass holds. -/
structure Ps where
 bs:List Bx
 inn:List Int
 tx:ByteArray
 ti:Int
 ok:Bool
def nodeOf (S:Ps):Int:=(S.bs.getD S.ti.toNat bx0).nd
def endB (ns:List Nd) (S:Ps):List Bx:=if S.tx.size = 0 then S.bs else if S.tx.size ≤ 200 then S.bs ++ lineOf ns (nodeOf S) S.ti S.tx else S.bs
def endO (S:Ps):Bool:=decide (S.tx.size ≤ 200)
def arP (ns:List Nd) (S:Ps) (i:Nat):Int:=if 0 ≤ upL ns i then S.inn.getD (upL ns i).toNat 0 else -1
def goneP (ns:List Nd) (S:Ps) (i:Nat):Bool:=decide ((0 < i ∧ arP ns S i = -1) ∨ (ns.getD i nd0).st.sh = 3)
def takeP (ns:List Nd) (S:Ps) (i:Nat):Ps :=
 if goneP ns S i then { S with inn:=S.inn ++ [-1] }
 else if isT ns i then
  if arP ns S i = S.ti then { S with inn:=S.inn ++ [-1],tx:=S.tx ++ (ns.getD i nd0).tx }
  else { bs:=endB ns S,inn:=S.inn ++ [-1],tx:=(ns.getD i nd0).tx,ti:=arP ns S i,ok:=S.ok && endO S }
 else if kindS (ns.getD i nd0).st = 0 then { S with inn:=S.inn ++ [arP ns S i] }
 else { bs:=endB ns S ++ [⟨kindS (ns.getD i nd0).st,i,arP ns S i,ByteArray.empty⟩],inn:=S.inn ++ [((endB ns S).length:Int)],tx:=ByteArray.empty,ti:=S.ti,ok:=S.ok && endO S }
def passP (ns:List Nd):Nat → Ps
 | 0=>⟨[],[],ByteArray.empty,-1,true⟩
 | k + 1=>takeP ns (passP ns k) k
/-- What stands of the pass all along. -/
structure PsOk (ns:List Nd) (k:Nat) (S:Ps):Prop where
 len:S.inn.length = k
 many:S.bs.length + (if S.tx.size = 0 then 0 else 1) ≤ k
 inn:∀ j,j < k → -1 ≤ S.inn.getD j 0 ∧ S.inn.getD j 0 < S.bs.length
 size:S.tx.size ≤ 200 * k
 good:textB true S.tx = true
 ti:S.tx.size ≠ 0 → 0 ≤ S.ti ∧ S.ti < S.bs.length
 nds:∀ (j:Nat) (b:Bx),S.bs[j]? = some b → ∃ i:Nat,b.nd = (i:Int) ∧ i < k ∧ isT ns i = false
theorem text_append {s t:ByteArray} (hs:textB true s = true) (ht:textB true t = true):textB true (s ++ t) = true:=by
 have e:(s ++ t).size = s.size + t.size:=ByteArray.size_append
 refine textB_mk (k:=(s ++ t).size) (by omega) fun j hj _=>?_
 by_cases h:j < s.size
 ·rw [ByteArray.getElem_append_left h];exact textB_at hs j h
 ·rw [ByteArray.getElem_append_right (by omega)];exact textB_at ht _ (by omega)
theorem text_empty:textB true ByteArray.empty = true:=textB_mk (k:=0) (by decide) fun j hj=>by simp at hj
theorem lineOf_len (ns:List Nd) (nd ti:Int) (t:ByteArray):(lineOf ns nd ti t).length ≤ 1:=by unfold lineOf;split <;> simp
theorem endB_pre (ns:List Nd) (S:Ps):∃ r,endB ns S = S.bs ++ r ∧ r.length ≤ (if S.tx.size = 0 then 0 else 1) ∧ ∀ b ∈ r,S.tx.size ≠ 0 ∧ b.nd = nodeOf S:=by
 unfold endB
 split
 ·exact ⟨[],by simp,by simp,fun b hb=>by simp at hb⟩
 ·split
  ·refine ⟨_,rfl,lineOf_len ..,fun b hb=>⟨by assumption,?_⟩⟩
   unfold lineOf at hb
   split at hb
   ·simp at hb
   ·simp at hb;rw [hb]
  ·exact ⟨[],by simp,by simp,fun b hb=>by simp at hb⟩
theorem endB_ok {ns:List Nd} {k:Nat} {S:Ps} (h:PsOk ns k S):S.bs.length ≤ (endB ns S).length ∧ (endB ns S).length ≤ k ∧ ∀ (j:Nat) (b:Bx),(endB ns S)[j]? = some b → ∃ i:Nat,b.nd = (i:Int) ∧ i < k ∧ isT ns i = false:=by
 obtain ⟨r,e,hr,hb⟩:=endB_pre ns S
 rw [e]
 refine ⟨by simp,by have:=h.many;simp;omega,fun j b hj=>?_⟩
 by_cases hlt:j < S.bs.length
 ·rw [List.getElem?_append_left hlt] at hj;exact h.nds j b hj
 ·rw [List.getElem?_append_right (by omega)] at hj
  obtain ⟨h0,h1⟩:=hb b (List.mem_of_getElem? hj)
  obtain ⟨t0,t1⟩:=h.ti h0
  rw [h1]
  unfold nodeOf
  have hlt':S.ti.toNat < S.bs.length:=by omega
  have hg:S.bs[S.ti.toNat]? = some (S.bs[S.ti.toNat]):=List.getElem?_eq_getElem hlt'
  rw [List.getD_eq_getElem?_getD,hg]
  exact h.nds _ _ hg
theorem getD_snoc_lt {l:List Int} {x:Int} {j:Nat} (h:j < l.length):(l ++ [x]).getD j 0 = l.getD j 0:=by
 rw [List.getD_eq_getElem?_getD,List.getElem?_append_left h,List.getD_eq_getElem?_getD]
theorem getD_snoc_at {l:List Int} {x:Int}:(l ++ [x]).getD l.length 0 = x:=by
 rw [List.getD_eq_getElem?_getD,List.getElem?_append_right (Nat.le_refl _)];simp
/-- What the nodes are good for. -/
structure NsOk (ns:List Nd):Prop where
 stands:∀ j,j < ns.length → Stands ns j
 texts:∀ j,j < ns.length → isT ns j = true → okB true (ns.getD j nd0).tx = true ∧ (ns.getD j nd0).tx.size ≠ 0
 root:isT ns 0 = false
theorem ar_ok {ns:List Nd} {k:Nat} {S:Ps} (hn:NsOk ns) (hk:k < ns.length) (h:PsOk ns k S):-1 ≤ arP ns S k ∧ arP ns S k < S.bs.length:=by
 unfold arP
 split
 ·by_cases h0:k = 0
  ·subst h0
   have:=(hn.stands 0 hk).top rfl
   omega
  ·obtain ⟨u,hu,e,_⟩:=(hn.stands k hk).ups (by omega)
   rw [e]
   exact h.inn u hu
 ·omega
theorem take_ok {ns:List Nd} {k:Nat} {S:Ps} (hn:NsOk ns) (hk:k < ns.length) (h:PsOk ns k S):PsOk ns (k + 1) (takeP ns S k):=by
 obtain ⟨a0,a1⟩:=ar_ok hn hk h
 obtain ⟨e0,e1,e2⟩:=endB_ok h
 have inn_of:∀ (x:Int) (m:Nat),S.bs.length ≤ m → -1 ≤ x → x < m → ∀ j,j < k + 1 → -1 ≤ (S.inn ++ [x]).getD j 0 ∧ (S.inn ++ [x]).getD j 0 < m:=by
  intro x m hm hx0 hx1 j hj
  by_cases e:j < k
  ·rw [getD_snoc_lt (by rw [h.len];exact e)]
   have:=h.inn j e
   omega
  ·obtain rfl:j = S.inn.length:=by rw [h.len];omega
   rw [getD_snoc_at]
   exact ⟨hx0,hx1⟩
 have nds_of:∀ (j:Nat) (b:Bx),S.bs[j]? = some b → ∃ i:Nat,b.nd = (i:Int) ∧ i < k + 1 ∧ isT ns i = false:=fun j b hb=>by
  obtain ⟨i,h1,h2,h3⟩:=h.nds j b hb
  exact ⟨i,h1,by omega,h3⟩
 have nde_of:∀ (j:Nat) (b:Bx),(endB ns S)[j]? = some b → ∃ i:Nat,b.nd = (i:Int) ∧ i < k + 1 ∧ isT ns i = false:=fun j b hb=>by
  obtain ⟨i,h1,h2,h3⟩:=e2 j b hb
  exact ⟨i,h1,by omega,h3⟩
 have hm:=h.many
 have hsz:=h.size
 unfold takeP
 split
 ·exact ⟨by simp [h.len],by simp only;omega,inn_of _ _ (Nat.le_refl _) (by omega) (by omega),by simp only;omega,h.good,h.ti,nds_of⟩
 ·rename_i hg
  split
  ·rename_i hT
   obtain ⟨t1,t0⟩:=hn.texts k hk hT
   obtain ⟨t2,t3⟩:=okB_yes t1
   have a2:0 ≤ arP ns S k:=by
    have h0:0 < k:=by
     rcases Nat.eq_zero_or_pos k with h0 | h0
     ·subst h0;rw [hn.root] at hT;cases hT
     ·exact h0
    have hne:¬ arP ns S k = -1:=fun hh=>by
     have hg':=hg
     unfold goneP at hg'
     rw [decide_eq_true_eq] at hg'
     exact hg' (Or.inl ⟨h0,hh⟩)
    omega
   split
   ·rename_i hti
    refine ⟨by simp [h.len],?_,inn_of _ _ (Nat.le_refl _) (by omega) (by omega),by simp only [ByteArray.size_append];omega,text_append h.good t3,fun _=>by rw [← hti];exact ⟨a2,a1⟩,nds_of⟩
    simp only [ByteArray.size_append]
    split <;> split at hm <;> omega
   ·refine ⟨by simp [h.len],?_,inn_of _ _ e0 (by omega) (by omega),by simp only;omega,t3,fun _=>⟨a2,by simp only;omega⟩,nde_of⟩
    simp only
    split <;> omega
  ·rename_i hT
   split
   ·exact ⟨by simp [h.len],by simp only;omega,inn_of _ _ (Nat.le_refl _) a0 a1,by simp only;omega,h.good,h.ti,nds_of⟩
   ·refine ⟨by simp [h.len],by simp;omega,inn_of _ _ (by simp;omega) (by omega) (by simp;omega),by simp,text_empty,fun hh=>absurd rfl hh,fun j b hb=>?_⟩
    simp only at hb
    by_cases hj:j < (endB ns S).length
    ·rw [List.getElem?_append_left hj] at hb;exact nde_of j b hb
    ·rw [List.getElem?_append_right (by omega)] at hb
     rcases Nat.eq_zero_or_pos (j - (endB ns S).length) with hz | hz
     ·rw [hz] at hb
      simp at hb
      subst hb
      exact ⟨k,rfl,by omega,by simpa using hT⟩
     ·rw [List.getElem?_eq_none (by simp;omega)] at hb;cases hb
theorem pass_ok {ns:List Nd} (hn:NsOk ns):∀ k,k ≤ ns.length → PsOk ns k (passP ns k)
 | 0,_=>⟨rfl,Nat.le_refl 0,fun j hj=>by omega,Nat.le_refl 0,text_empty,fun hh=>absurd rfl hh,fun j b hb=>by simp [passP] at hb⟩
 | k + 1,h=>take_ok hn (by omega) (pass_ok hn k (by omega))
/-- All of it. -/
def boxesOkP (ns:List Nd):Bool:=(passP ns ns.length).ok && endO (passP ns ns.length)
def boxesL (ns:List Nd):List Bx:=endB ns (passP ns ns.length)
theorem ok_le {ns:List Nd} {k m:Nat} (h:(passP ns k).ok = false) (hm:k ≤ m):(passP ns m).ok = false:=by
 induction m with
 | zero=>rw [show k = 0 by omega] at h;exact h
 | succ m ih =>
  by_cases e:k = m + 1
  ·rw [← e];exact h
  ·have:=ih (by omega)
   show (takeP ns (passP ns m) m).ok = false
   unfold takeP
   split
   ·exact this
   ·split
    ·split
     ·exact this
     ·simp [this]
    ·split
     ·exact this
     ·simp [this]
/-- Nodes stand in one another without crossing. -/
theorem chain_cross {ns:List Nd} (hst:∀ j,j < ns.length → Stands ns j) {i:Nat} (hi:0 < i):∀ (m:Nat),m < ns.length → i ≤ m → ∀ x:Nat,(x:Int) ∈ chainL ns m → x < i → (x:Int) ≤ upL ns i
 | m,hm,him,x,hx,hxi=>by
  obtain ⟨u,hu,e,hin,_⟩:=(hst m hm).ups (by omega)
  rw [chain_in e hu,List.mem_append,List.mem_singleton] at hx
  have hx':(x:Int) ∈ chainL ns u:=by
   rcases hx with h | h
   ·exact h
   ·omega
  by_cases hmi:m = i
  ·subst hmi
   have:=chain_bound ns u x hx'
   omega
  ·by_cases hui:i ≤ u
   ·exact chain_cross hst hi u (by omega) hui x hx' hxi
   ·have h1:=chain_cross hst hi (m - 1) (by omega) (by omega) u hin (by omega)
    have h2:=chain_bound ns u x hx'
    omega
termination_by m=>m
theorem noncross {ns:List Nd} (hst:∀ j,j < ns.length → Stands ns j) {i j:Nat} (hi:0 < i) (hij:i < j) (hj:j < ns.length) (h:upL ns j < (i:Int)):upL ns j ≤ upL ns i:=by
 obtain ⟨u,hu,e,hin,_⟩:=(hst j hj).ups (by omega)
 rw [e] at h ⊢
 exact chain_cross hst hi (j - 1) (by omega) (by omega) u hin (by omega)
/-- e is where what is in node k ends. -/
structure IsEnd (ns:List Nd) (k e:Nat):Prop where
 gt:k < e
 le:e ≤ ns.length
 ins:∀ j,k < j → j < e → (k:Int) ≤ upL ns j
 out:e < ns.length → upL ns e < (k:Int)
theorem end_from (ns:List Nd) (k:Nat):∀ (d i:Nat),d + i = ns.length → k < i → (∀ j,k < j → j < i → (k:Int) ≤ upL ns j) → ∃ e,IsEnd ns k e
 | 0,i,hd,hk,hj=>⟨i,hk,by omega,hj,fun h=>by omega⟩
 | d + 1,i,hd,hk,hj=>by
  by_cases h:(k:Int) ≤ upL ns i
  ·exact end_from ns k d (i + 1) (by omega) (by omega) fun j h1 h2=>by
    by_cases e:j = i
    ·subst e;exact h
    ·exact hj j h1 (by omega)
  ·exact ⟨i,hk,by omega,hj,fun _=>by omega⟩
theorem end_some {ns:List Nd} {k:Nat} (h:k < ns.length):∃ e,IsEnd ns k e:=end_from ns k (ns.length - (k + 1)) (k + 1) (by omega) (by omega) fun j h1 h2=>by omega
theorem end_root {ns:List Nd} (hst:∀ j,j < ns.length → Stands ns j) {e:Nat} (h:IsEnd ns 0 e):e = ns.length:=by
 rcases Nat.lt_or_ge e ns.length with hlt | hge
 ·have h1:=h.out hlt
  obtain ⟨u,_,e1,_⟩:=(hst e hlt).ups h.gt
  omega
 ·have:=h.le
  omega
/-- Where a loop along the nodes of k stands: p is the next node in k, or the end. -/
structure AtP (ns:List Nd) (k e i p:Nat):Prop where
 gt:k < p
 le:p ≤ e
 far:∀ j,i ≤ j → j < ns.length → upL ns j = (k:Int) → p ≤ j
 nxt:p < e → upL ns p = (k:Int) ∧ i ≤ p
theorem at_start {ns:List Nd} (hst:∀ j,j < ns.length → Stands ns j) {k e:Nat} (he:IsEnd ns k e):AtP ns k e (k + 1) (k + 1):=by
 refine ⟨by omega,he.gt,fun j h1 _ _=>h1,fun h=>⟨?_,Nat.le_refl _⟩⟩
 have h1:=he.ins (k + 1) (by omega) h
 obtain ⟨u,hu,e1,_⟩:=(hst (k + 1) (by have:=he.le;omega)).ups (by omega)
 omega
theorem at_skip {ns:List Nd} {k e i p:Nat} (h:AtP ns k e i p) (hi:upL ns i ≠ (k:Int)):AtP ns k e (i + 1) p:=by
 refine ⟨h.gt,h.le,fun j h1=>h.far j (by omega),fun hp=>?_⟩
 obtain ⟨h1,h2⟩:=h.nxt hp
 refine ⟨h1,?_⟩
 rcases Nat.eq_or_lt_of_le h2 with e1 | e1
 ·subst e1;exact absurd h1 hi
 ·exact e1
theorem kid_in {ns:List Nd} (hst:∀ j,j < ns.length → Stands ns j) {k e i:Nat} (he:IsEnd ns k e) (hki:k < i) (hi:i < ns.length) (hu:upL ns i = (k:Int)):i < e:=by
 rcases Nat.lt_or_ge i e with h | h
 ·exact h
 ·exfalso
  have ho:=he.out (by omega)
  by_cases e1:e = i
  ·subst e1;omega
  ·have hg:=he.gt
   have:=noncross hst (i:=e) (j:=i) (by omega) (by omega) hi (by omega)
   omega
theorem at_kid {ns:List Nd} (hst:∀ j,j < ns.length → Stands ns j) {k e i p:Nat} (he:IsEnd ns k e) (h:AtP ns k e i p) (hki:k < i) (hi:i < ns.length) (hu:upL ns i = (k:Int)):p = i:=by
 have h1:=h.far i (Nat.le_refl _) hi hu
 have h2:=kid_in hst he hki hi hu
 have h3:=(h.nxt (by omega)).2
 omega
theorem at_next {ns:List Nd} (hst:∀ j,j < ns.length → Stands ns j) {k e i e':Nat} (he:IsEnd ns k e) (hki:k < i) (hi:i < ns.length) (hu:upL ns i = (k:Int)) (he':IsEnd ns i e'):AtP ns k e (i + 1) e':=by
 have h2:=kid_in hst he hki hi hu
 have hle:e' ≤ e:=by
  rcases Nat.lt_or_ge e e' with h | h
  ·have h3:=he'.ins e h2 h
   have h4:=he.out (by have:=he'.le;omega)
   omega
  ·exact h
 refine ⟨by have:=he'.gt;omega,hle,fun j h1 h3 h4=>?_,fun hp=>⟨?_,he'.gt⟩⟩
 ·rcases Nat.lt_or_ge j e' with h | h
  ·have:=he'.ins j (by omega) h
   omega
  ·exact h
 ·have hlt:e' < ns.length:=by have:=he.le;omega
  have h3:=noncross hst (i:=i) (j:=e') (by omega) he'.gt hlt (he'.out hlt)
  have h4:=he.ins e' (by have:=he'.gt;omega) hp
  omega
theorem at_end {ns:List Nd} {k e i p:Nat} (he:IsEnd ns k e) (h:AtP ns k e i p) (hi:ns.length ≤ i):p = e:=by
 rcases Nat.lt_or_ge p e with h1 | h1
 ·have:=(h.nxt h1).2
  have:=he.le
  omega
 ·have:=h.le
  omega
theorem end_text {ns:List Nd} (hst:∀ j,j < ns.length → Stands ns j) {i e':Nat} (hi:i < ns.length) (hT:isT ns i = true) (he':IsEnd ns i e'):e' = i + 1:=by
 have h1:=he'.gt
 rcases Nat.lt_or_ge (i + 1) e' with h | h
 ·exfalso
  have h2:=he'.ins (i + 1) (by omega) h
  obtain ⟨u,hu,e1,_,ht⟩:=(hst (i + 1) (by have:=he'.le;omega)).ups (by omega)
  have:u = i:=by omega
  subst this
  rw [hT] at ht
  cases ht
 ·omega
/-- What is around a node, once it was told. -/
def innF (ns:List Nd) (k:Nat):Int:=(passP ns (k + 1)).inn.getD k 0
theorem take_inn (ns:List Nd) (S:Ps) (k:Nat):∃ x,(takeP ns S k).inn = S.inn ++ [x]:=by
 unfold takeP
 split
 ·exact ⟨_,rfl⟩
 ·split
  ·split <;> exact ⟨_,rfl⟩
  ·split <;> exact ⟨_,rfl⟩
theorem inn_len (ns:List Nd):∀ k,(passP ns k).inn.length = k
 | 0=>rfl
 | k + 1=>by
  obtain ⟨x,hx⟩:=take_inn ns (passP ns k) k
  show (takeP ns (passP ns k) k).inn.length = _
  rw [hx,List.length_append,inn_len ns k]
  rfl
theorem inn_at (ns:List Nd) (k:Nat):∀ p,k < p → (passP ns p).inn.getD k 0 = innF ns k
 | 0,h=>by omega
 | p + 1,h=>by
  by_cases e:k = p
  ·subst e;rfl
  ·obtain ⟨x,hx⟩:=take_inn ns (passP ns p) p
   show (takeP ns (passP ns p) p).inn.getD k 0 = _
   rw [hx,getD_snoc_lt (by rw [inn_len];omega)]
   exact inn_at ns k p (by omega)
theorem ar_at {ns:List Nd} {k i p:Nat} (hu:upL ns i = (k:Int)) (hk:k < p):arP ns (passP ns p) i = innF ns k:=by
 unfold arP
 rw [if_pos (by omega),hu]
 exact inn_at ns k p hk
/-- Boxes that are told stay. -/
theorem bs_pre (ns:List Nd) (S:Ps) (k:Nat):∃ r,(takeP ns S k).bs = S.bs ++ r:=by
 obtain ⟨r,e,_⟩:=endB_pre ns S
 unfold takeP
 split
 ·exact ⟨[],by simp⟩
 ·split
  ·split
   ·exact ⟨[],by simp⟩
   ·exact ⟨r,e⟩
  ·split
   ·exact ⟨[],by simp⟩
   ·exact ⟨r ++ [⟨kindS (ns.getD k nd0).st,k,arP ns S k,ByteArray.empty⟩],by simp only [e,List.append_assoc]⟩
theorem box_stays {ns:List Nd} {b:Nat} {x:Bx}:∀ {k p:Nat},k ≤ p → (passP ns k).bs[b]? = some x → (passP ns p).bs[b]? = some x
 | k,0,h,hx=>by rw [show k = 0 by omega] at hx;exact hx
 | k,p + 1,h,hx=>by
  by_cases e:k = p + 1
  ·subst e;exact hx
  ·have h1:=box_stays (k:=k) (p:=p) (by omega) hx
   obtain ⟨r,hr⟩:=bs_pre ns (passP ns p) p
   show (takeP ns (passP ns p) p).bs[b]? = _
   rw [hr,List.getElem?_append_left (List.getElem?_eq_some_iff.1 h1).1]
   exact h1
/-- What the way through the tree holds in the block of box, against the pass. -/
structure MtA (S:Ps) (box:Nat) (out:List Bx) (ok:Bool) (t:ByteArray):Prop where
 tx:S.tx = t
 bs:S.bs = out
 ok:S.ok = ok
 ti:S.tx.size ≠ 0 → S.ti = (box:Int)
structure MtB (ns:List Nd) (S:Ps) (box:Nat) (out:List Bx) (ok:Bool) (t:ByteArray):Prop where
 tx:t = ByteArray.empty
 bs:endB ns S = out
 ok:(S.ok && endO S) = ok
 ti:S.tx.size ≠ 0 → (box:Int) < S.ti
def Mt (ns:List Nd) (S:Ps) (box:Nat) (out:List Bx) (ok:Bool) (t:ByteArray):Prop:=MtA S box out ok t ∨ MtB ns S box out ok t
theorem size_zero {t:ByteArray} (h:t.size = 0):t = ByteArray.empty:=by
 rcases t with ⟨d⟩
 have:d = #[]:=Array.eq_empty_of_size_eq_zero h
 subst this
 rfl
theorem endB_empty {ns:List Nd} {S:Ps} (h:S.tx.size = 0):endB ns S = S.bs:=by unfold endB;rw [if_pos h]
theorem endO_empty {S:Ps} (h:S.tx.size = 0):endO S = true:=by unfold endO;rw [h];rfl
/-- What the pass keeps where only its row of what is around grows. -/
theorem mt_inn {ns:List Nd} {S S':Ps} {box:Nat} {out:List Bx} {ok:Bool} {t:ByteArray} (h:Mt ns S box out ok t) (h1:S'.bs = S.bs) (h2:S'.tx = S.tx) (h3:S'.ti = S.ti) (h4:S'.ok = S.ok):Mt ns S' box out ok t:=by
 have hB:endB ns S' = endB ns S:=by unfold endB nodeOf;rw [h1,h2,h3]
 have hO:endO S' = endO S:=by unfold endO;rw [h2]
 rcases h with h | h
 ·exact .inl ⟨h2.trans h.tx,h1.trans h.bs,h4.trans h.ok,by rw [h2,h3];exact h.ti⟩
 ·exact .inr ⟨h.tx,hB.trans h.bs,by rw [h4,hO];exact h.ok,by rw [h2,h3];exact h.ti⟩
/-- A node that is gone and all that is in it. -/
theorem gone_skip {ns:List Nd} (hn:NsOk ns) {i e:Nat} (hi:i < ns.length) (h0:0 < i) (hg:goneP ns (passP ns i) i = true) (he:IsEnd ns i e):∀ p,i < p → p ≤ e → (∀ j,i ≤ j → j < p → innF ns j = -1) ∧ (passP ns p).bs = (passP ns i).bs ∧ (passP ns p).tx = (passP ns i).tx ∧ (passP ns p).ti = (passP ns i).ti ∧ (passP ns p).ok = (passP ns i).ok
 | 0,h,_=>by omega
 | p + 1,h,hp=>by
  by_cases e1:i = p
  ·subst e1
   have hT:passP ns (i + 1) = { passP ns i with inn:=(passP ns i).inn ++ [-1] }:=by show takeP ns (passP ns i) i = _;unfold takeP;rw [if_pos hg]
   refine ⟨fun j h1 h2=>?_,by rw [hT],by rw [hT],by rw [hT],by rw [hT]⟩
   obtain rfl:j = i:=by omega
   unfold innF
   rw [hT]
   have:=getD_snoc_at (l:=(passP ns j).inn) (x:=-1)
   rwa [inn_len] at this
  ·obtain ⟨a,b,c,d,f⟩:=gone_skip hn hi h0 hg he p (by omega) (by omega)
   have hup:=he.ins p (by omega) (by omega)
   obtain ⟨u,hu,eu,_⟩:=(hn.stands p (by have:=he.le;omega)).ups (by omega)
   have har:arP ns (passP ns p) p = -1:=by rw [ar_at eu hu];exact a u (by omega) hu
   have hg':goneP ns (passP ns p) p = true:=by unfold goneP;rw [decide_eq_true_eq];exact Or.inl ⟨by omega,har⟩
   have hT:passP ns (p + 1) = { passP ns p with inn:=(passP ns p).inn ++ [-1] }:=by show takeP ns (passP ns p) p = _;unfold takeP;rw [if_pos hg']
   refine ⟨fun j h1 h2=>?_,by rw [hT];exact b,by rw [hT];exact c,by rw [hT];exact d,by rw [hT];exact f⟩
   by_cases e2:j = p
   ·subst e2
    unfold innF
    rw [hT]
    have:=getD_snoc_at (l:=(passP ns j).inn) (x:=-1)
    rwa [inn_len] at this
   ·exact a j h1 (by omega)
/-- What a flush answers. -/
def flB (ns:List Nd) (box node:Nat) (out:List Bx) (t:ByteArray):List Bx:=if t.size ≤ 200 then out ++ lineOf ns node box t else out
def flO (ok:Bool) (t:ByteArray):Bool:=ok && decide (t.size ≤ 200)
theorem keep_nil (wh:Int):keepT wh ByteArray.empty = ByteArray.empty:=by
 unfold keepT keepL
 repeat (first | rfl | split)
theorem line_nil (ns:List Nd) (nd ti:Int):lineOf ns nd ti ByteArray.empty = []:=by
 unfold lineOf
 rw [keep_nil]
 rfl
/-- A flush in the block of box is the pass's own end of its text. -/
theorem mt_flush {ns:List Nd} {S:Ps} {box node:Nat} {out:List Bx} {ok:Bool} {t:ByteArray} (h:Mt ns S box out ok t) {x:Bx} (hb:S.bs[box]? = some x) (hx:x.nd = (node:Int)) :
  flB ns box node out t = endB ns S ∧ flO ok t = (S.ok && endO S):=by
 rcases h with h | h
 ·obtain ⟨rfl,rfl,rfl,h4⟩:=h
  by_cases h0:S.tx.size = 0
  ·rw [endB_empty h0,endO_empty h0,size_zero h0]
   refine ⟨?_,rfl⟩
   unfold flB
   rw [line_nil]
   simp
  ·have hti:=h4 h0
   refine ⟨?_,rfl⟩
   unfold flB endB
   rw [if_neg h0]
   have:nodeOf S = (node:Int):=by
    unfold nodeOf
    rw [hti,List.getD_eq_getElem?_getD,show ((box:Int)).toNat = box by simp,hb]
    exact hx
   rw [this,hti]
 ·obtain ⟨rfl,h2,h3,h4⟩:=h
  refine ⟨?_,?_⟩
  ·unfold flB
   rw [line_nil,h2]
   simp
  ·unfold flO
   rw [h3]
   simp
/-- A slice value at address a reads as the boxes ns. -/
def BxRow (w:World) (a:Option Addr) (ns:List Bx):Prop :=
 ns = [] ∨ ∃ b off,a = some ⟨b,off,none⟩ ∧ ∀ i n,ns[i]? = some n → w.rangeAt b (off + i * 4) (bxL n)
theorem bx_lt {w:World} {b o:Nat} {n:Bx} (h:w.rangeAt b o (bxL n)):b < w.heap.size:=World.block_lt_of_cell? _ _ (h 0 (.int .i64 n.kd) rfl)
theorem bx_below {B:Nat} {w w':World} {b o:Nat} {n:Bx} (h:w.rangeAt b o (bxL n)) (hb:Below B w w') (hB:b < B):w'.rangeAt b o (bxL n) :=
 fun j v hv=>(hb.cell (p:=⟨b,o + j,none⟩) hB).trans (h j v hv)
theorem BxRow.below {w w':World} {a:Option Addr} {ns:List Bx} (h:BxRow w a ns) (hb:Below w.heap.size w w'):BxRow w' a ns:=by
 rcases h with h | ⟨b,off,rfl,hc⟩
 ·exact .inl h
 ·exact .inr ⟨b,off,rfl,fun i n hn=>bx_below (hc i n hn) hb (bx_lt (hc i n hn))⟩
theorem infoBox:(Tryz.prog.info? 41).map (fun i=>(i.zero,i.size,i.bytes)) = some (some (.agg #[.int .i64 0,.int .i64 0,.int .i64 0,.string ByteArray.empty]),4,40):=by kernel_rfl
theorem bx_cells {w:World} {b o:Nat} {x:Bx} (h:w.rangeAt b o (bxL x)):w.cell? ⟨b,o,none⟩ = some (.int .i64 x.kd) ∧ w.cell? ⟨b,o + 1,none⟩ = some (.int .i64 x.nd) ∧ w.cell? ⟨b,o + 2,none⟩ = some (.int .i64 x.up) ∧ w.cell? ⟨b,o + 3,none⟩ = some (.string x.tx) :=
 ⟨h 0 _ rfl,h 1 _ rfl,h 2 _ rfl,h 3 _ rfl⟩
theorem bxn_grown_set (w:World) (b o:Nat) (v:Value):w.grownBy (w.setCell ⟨b,o,none⟩ v) (some b) :=
 ⟨rfl,rfl,rfl,by simp,fun k _ hne=>Below.heap_setCell w ⟨b,o,none⟩ v k (by simpa using hne)⟩
def stCells (s:St):Array Value:=#[.int .i64 s.sh,.int .i64 s.fl,.int .i64 s.cl,.bool s.w.a,.bool s.w.p,.int .i64 s.w.n,.bool s.h.a,.bool s.h.p,.int .i64 s.h.n,.int .i64 s.mn,.int .i64 s.mx,.int .i64 s.mt,.bool s.mr.a,.bool s.mr.p,.int .i64 s.mr.n,.int .i64 s.mb,.bool s.ml.a,.bool s.ml.p,.int .i64 s.ml.n,.int .i64 s.bo,.int .i64 s.pa,.int .i64 s.wh,.int .i64 s.al,.int .i64 s.lh,.int .i64 s.ri,.int .i64 s.dn]
def plainSt:St:=⟨1,0,0,⟨true,false,0⟩,⟨true,false,0⟩,0,-1,0,⟨false,false,0⟩,0,⟨false,false,0⟩,0,0,1,1,0,0,0⟩
def zeroSt:St:=⟨0,0,0,⟨false,false,0⟩,⟨false,false,0⟩,0,0,0,⟨false,false,0⟩,0,⟨false,false,0⟩,0,0,0,0,0,0,0⟩
def fixSt (s:St):St:=if s.sh = 3 then s else if s.fl ≠ 0 then { s with sh:=1 } else if s.sh = 2 then { plainSt with sh:=2 } else s
/-- Two results, the first one a struct in memory. -/
theorem results_row_tmp {P:Program} {fn:Func} {p q:Tmp} {ty:TypeId} (h:fn.results = #[.cell p ty,.tmp q]) (tmps:Array Value) (w:World) (g:Nat) (t:TypeId) (cs:Array Value) (fr:Nat × Nat) (d:TypeDesc) (v:Value)
  (hp:tmps.getD p undef = .pointer (some ⟨g,0,none⟩)) (hg:w.heap[g]? = some (.cells cs t fr))
  (hu:P.underlying ty = some d) (hd:(match d with | .struct _ | .array _ _=>true | _=>false) = true) (hi:(P.info? ty).map (·.size) = some cs.size) (hq:tmps.getD q undef = v) :
  (results fn tmps).run P w = .ok (.tuple #[.agg cs,v]) w:=by
 have hp':tmps[p]?.getD undef = .pointer (some ⟨g,0,none⟩):=by simpa using hp
 have hq':tmps[q]?.getD undef = v:=by simpa using hq
 simp [results,h,hp',hq',asAddr,run_loadVar_row w g t ty cs fr d hg hu hd hi]
set_option maxRecDepth 100000 in
set_option maxHeartbeats 4000000 in
theorem l4Fix_none (s:St) (w:World) :
  Calls Tryz.prog 54 #[.agg #[.int .i64 3,.int .i64 s.fl,.int .i64 s.cl,.bool s.w.a,.bool s.w.p,.int .i64 s.w.n,.bool s.h.a,.bool s.h.p,.int .i64 s.h.n,.int .i64 s.mn,.int .i64 s.mx,.int .i64 s.mt,.bool s.mr.a,.bool s.mr.p,.int .i64 s.mr.n,.int .i64 s.mb,.bool s.ml.a,.bool s.ml.p,.int .i64 s.ml.n,.int .i64 s.bo,.int .i64 s.pa,.int .i64 s.wh,.int .i64 s.al,.int .i64 s.lh,.int .i64 s.ri,.int .i64 s.dn]] w fun e w'=>e = .returned (.agg (stCells ({ s with sh:=3 }))) ∧ Below w.heap.size w w':=by
 have l0:((w.alloc (.cells (#[.int .i64 3,.int .i64 s.fl,.int .i64 s.cl,.bool s.w.a,.bool s.w.p,.int .i64 s.w.n,.bool s.h.a,.bool s.h.p,.int .i64 s.h.n,.int .i64 s.mn,.int .i64 s.mx,.int .i64 s.mt,.bool s.mr.a,.bool s.mr.p,.int .i64 s.mr.n,.int .i64 s.mb,.bool s.ml.a,.bool s.ml.p,.int .i64 s.ml.n,.int .i64 s.bo,.int .i64 s.pa,.int .i64 s.wh,.int .i64 s.al,.int .i64 s.lh,.int .i64 s.ri,.int .i64 s.dn]) 73)).alloc (.cells (#[.int .i64 0,.int .i64 0,.int .i64 0,.bool false,.bool false,.int .i64 0,.bool false,.bool false,.int .i64 0,.int .i64 0,.int .i64 0,.int .i64 0,.bool false,.bool false,.int .i64 0,.int .i64 0,.bool false,.bool false,.int .i64 0,.int .i64 0,.int .i64 0,.int .i64 0,.int .i64 0,.int .i64 0,.int .i64 0,.int .i64 0]) 73)).heap[w.heap.size]? = some (.cells (stCells ({ s with sh:=3 })) 73 (0,0)):=heap_in (heap_at _ _ _ rfl)
 have l1:((w.alloc (.cells (#[.int .i64 3,.int .i64 s.fl,.int .i64 s.cl,.bool s.w.a,.bool s.w.p,.int .i64 s.w.n,.bool s.h.a,.bool s.h.p,.int .i64 s.h.n,.int .i64 s.mn,.int .i64 s.mx,.int .i64 s.mt,.bool s.mr.a,.bool s.mr.p,.int .i64 s.mr.n,.int .i64 s.mb,.bool s.ml.a,.bool s.ml.p,.int .i64 s.ml.n,.int .i64 s.bo,.int .i64 s.pa,.int .i64 s.wh,.int .i64 s.al,.int .i64 s.lh,.int .i64 s.ri,.int .i64 s.dn]) 73)).alloc (.cells (#[.int .i64 0,.int .i64 0,.int .i64 0,.bool false,.bool false,.int .i64 0,.bool false,.bool false,.int .i64 0,.int .i64 0,.int .i64 0,.int .i64 0,.bool false,.bool false,.int .i64 0,.int .i64 0,.bool false,.bool false,.int .i64 0,.int .i64 0,.int .i64 0,.int .i64 0,.int .i64 0,.int .i64 0,.int .i64 0,.int .i64 0]) 73)).heap[w.heap.size + 1]? = some (.cells (#[.int .i64 0,.int .i64 0,.int .i64 0,.bool false,.bool false,.int .i64 0,.bool false,.bool false,.int .i64 0,.int .i64 0,.int .i64 0,.int .i64 0,.bool false,.bool false,.int .i64 0,.int .i64 0,.bool false,.bool false,.int .i64 0,.int .i64 0,.int .i64 0,.int .i64 0,.int .i64 0,.int .i64 0,.int .i64 0,.int .i64 0]) 73 (0,0)):=heap_at _ _ _ (by simp)
 have bel:Below w.heap.size w ((w.alloc (.cells (#[.int .i64 3,.int .i64 s.fl,.int .i64 s.cl,.bool s.w.a,.bool s.w.p,.int .i64 s.w.n,.bool s.h.a,.bool s.h.p,.int .i64 s.h.n,.int .i64 s.mn,.int .i64 s.mx,.int .i64 s.mt,.bool s.mr.a,.bool s.mr.p,.int .i64 s.mr.n,.int .i64 s.mb,.bool s.ml.a,.bool s.ml.p,.int .i64 s.ml.n,.int .i64 s.bo,.int .i64 s.pa,.int .i64 s.wh,.int .i64 s.al,.int .i64 s.lh,.int .i64 s.ri,.int .i64 s.dn]) 73)).alloc (.cells (#[.int .i64 0,.int .i64 0,.int .i64 0,.bool false,.bool false,.int .i64 0,.bool false,.bool false,.int .i64 0,.int .i64 0,.int .i64 0,.int .i64 0,.bool false,.bool false,.int .i64 0,.int .i64 0,.bool false,.bool false,.int .i64 0,.int .i64 0,.int .i64 0,.int .i64 0,.int .i64 0,.int .i64 0,.int .i64 0,.int .i64 0]) 73)):=((Below.refl _ _).alloc (Nat.le_refl _) _).alloc (by simp) _
 go_enter Tryz.func54,Tryz.ntmps54
 go_wp2_with (first
  | ((with_reducible show wpList _ _ _ (⟨some 6,Op.load 73 _,_,_,_,_⟩ :: _) _ _);refine wpList_load_row rfl 73 _ rfl w.heap.size rfl _ (stCells ({ s with sh:=3 })) _ _ l0 Tryz.underlying73 rfl (by kernel_rfl) ?_)
  | ((with_reducible show wpList _ _ _ (⟨none,Op.store 73 (Operand.tmp 2) (Operand.tmp 6),_,_,_,_⟩ :: _) _ _);refine wpList_putA rfl _ _ _ rfl rfl _ 0 26 (stCells ({ s with sh:=3 })).toList _ _ rfl rfl l1 rfl (by kernel_rfl) (by kernel_rfl) (by kernel_rfl) ?_;intro w9 p9 l9 n9;replace l1:=l9.trans (congrArg (fun c=>some (Obj.cells c 73 (0,0))) (show _ = stCells ({ s with sh:=3 }) by kernel_rfl));replace bel:=p9.below bel (by omega);clear l9 n9 p9))
 exact bodyPost_ret (v:=.agg (stCells ({ s with sh:=3 }))) (results_cell_row Tryz.results54 _ _ _ _ (stCells ({ s with sh:=3 })) _ _ rfl l1 Tryz.underlying73 rfl (by kernel_rfl)) rfl ⟨rfl,bel⟩
set_option maxRecDepth 100000 in
set_option maxHeartbeats 4000000 in
theorem l4Fix_float (s:St) (w:World) (h:¬ s.sh = 3) (h2:¬ s.fl = 0) :
  Calls Tryz.prog 54 #[.agg #[.int .i64 s.sh,.int .i64 s.fl,.int .i64 s.cl,.bool s.w.a,.bool s.w.p,.int .i64 s.w.n,.bool s.h.a,.bool s.h.p,.int .i64 s.h.n,.int .i64 s.mn,.int .i64 s.mx,.int .i64 s.mt,.bool s.mr.a,.bool s.mr.p,.int .i64 s.mr.n,.int .i64 s.mb,.bool s.ml.a,.bool s.ml.p,.int .i64 s.ml.n,.int .i64 s.bo,.int .i64 s.pa,.int .i64 s.wh,.int .i64 s.al,.int .i64 s.lh,.int .i64 s.ri,.int .i64 s.dn]] w fun e w'=>e = .returned (.agg (stCells ({ s with sh:=1 }))) ∧ Below w.heap.size w w':=by
 have l0:((w.alloc (.cells (#[.int .i64 s.sh,.int .i64 s.fl,.int .i64 s.cl,.bool s.w.a,.bool s.w.p,.int .i64 s.w.n,.bool s.h.a,.bool s.h.p,.int .i64 s.h.n,.int .i64 s.mn,.int .i64 s.mx,.int .i64 s.mt,.bool s.mr.a,.bool s.mr.p,.int .i64 s.mr.n,.int .i64 s.mb,.bool s.ml.a,.bool s.ml.p,.int .i64 s.ml.n,.int .i64 s.bo,.int .i64 s.pa,.int .i64 s.wh,.int .i64 s.al,.int .i64 s.lh,.int .i64 s.ri,.int .i64 s.dn]) 73)).alloc (.cells (#[.int .i64 0,.int .i64 0,.int .i64 0,.bool false,.bool false,.int .i64 0,.bool false,.bool false,.int .i64 0,.int .i64 0,.int .i64 0,.int .i64 0,.bool false,.bool false,.int .i64 0,.int .i64 0,.bool false,.bool false,.int .i64 0,.int .i64 0,.int .i64 0,.int .i64 0,.int .i64 0,.int .i64 0,.int .i64 0,.int .i64 0]) 73)).heap[w.heap.size]? = some (.cells (stCells (s)) 73 (0,0)):=heap_in (heap_at _ _ _ rfl)
 have l1:((w.alloc (.cells (#[.int .i64 s.sh,.int .i64 s.fl,.int .i64 s.cl,.bool s.w.a,.bool s.w.p,.int .i64 s.w.n,.bool s.h.a,.bool s.h.p,.int .i64 s.h.n,.int .i64 s.mn,.int .i64 s.mx,.int .i64 s.mt,.bool s.mr.a,.bool s.mr.p,.int .i64 s.mr.n,.int .i64 s.mb,.bool s.ml.a,.bool s.ml.p,.int .i64 s.ml.n,.int .i64 s.bo,.int .i64 s.pa,.int .i64 s.wh,.int .i64 s.al,.int .i64 s.lh,.int .i64 s.ri,.int .i64 s.dn]) 73)).alloc (.cells (#[.int .i64 0,.int .i64 0,.int .i64 0,.bool false,.bool false,.int .i64 0,.bool false,.bool false,.int .i64 0,.int .i64 0,.int .i64 0,.int .i64 0,.bool false,.bool false,.int .i64 0,.int .i64 0,.bool false,.bool false,.int .i64 0,.int .i64 0,.int .i64 0,.int .i64 0,.int .i64 0,.int .i64 0,.int .i64 0,.int .i64 0]) 73)).heap[w.heap.size + 1]? = some (.cells (#[.int .i64 0,.int .i64 0,.int .i64 0,.bool false,.bool false,.int .i64 0,.bool false,.bool false,.int .i64 0,.int .i64 0,.int .i64 0,.int .i64 0,.bool false,.bool false,.int .i64 0,.int .i64 0,.bool false,.bool false,.int .i64 0,.int .i64 0,.int .i64 0,.int .i64 0,.int .i64 0,.int .i64 0,.int .i64 0,.int .i64 0]) 73 (0,0)):=heap_at _ _ _ (by simp)
 have bel:Below w.heap.size w ((w.alloc (.cells (#[.int .i64 s.sh,.int .i64 s.fl,.int .i64 s.cl,.bool s.w.a,.bool s.w.p,.int .i64 s.w.n,.bool s.h.a,.bool s.h.p,.int .i64 s.h.n,.int .i64 s.mn,.int .i64 s.mx,.int .i64 s.mt,.bool s.mr.a,.bool s.mr.p,.int .i64 s.mr.n,.int .i64 s.mb,.bool s.ml.a,.bool s.ml.p,.int .i64 s.ml.n,.int .i64 s.bo,.int .i64 s.pa,.int .i64 s.wh,.int .i64 s.al,.int .i64 s.lh,.int .i64 s.ri,.int .i64 s.dn]) 73)).alloc (.cells (#[.int .i64 0,.int .i64 0,.int .i64 0,.bool false,.bool false,.int .i64 0,.bool false,.bool false,.int .i64 0,.int .i64 0,.int .i64 0,.int .i64 0,.bool false,.bool false,.int .i64 0,.int .i64 0,.bool false,.bool false,.int .i64 0,.int .i64 0,.int .i64 0,.int .i64 0,.int .i64 0,.int .i64 0,.int .i64 0,.int .i64 0]) 73)):=((Below.refl _ _).alloc (Nat.le_refl _) _).alloc (by simp) _
 go_enter Tryz.func54,Tryz.ntmps54
 go_wp2_with (first
  | ((with_reducible show wpList _ _ _ (⟨none,Op.store 3 (Operand.tmp 10) _,_,_,_,_⟩ :: _) _ _);refine wpList_putA rfl _ _ _ rfl rfl _ 0 26 [.int .i64 1] _ _ rfl rfl l0 rfl (by kernel_rfl) (by kernel_rfl) (by kernel_rfl) ?_;intro w9 p9 l9 n9;replace l0:=l9.trans (congrArg (fun c=>some (Obj.cells c 73 (0,0))) (show _ = stCells ({ s with sh:=1 }) by kernel_rfl));replace l1:=p9.lies l1 (by omega);replace bel:=p9.below bel (by omega);clear l9 n9 p9;have hc:w9.cell? ⟨w.heap.size,0,none⟩ = some (.int .i64 1):=(lies_cell l0 0).trans rfl)
  | ((with_reducible show wpList _ _ _ (⟨some 16,Op.load 73 _,_,_,_,_⟩ :: _) _ _);refine wpList_load_row rfl 73 _ rfl w.heap.size rfl _ (stCells ({ s with sh:=1 })) _ _ l0 Tryz.underlying73 rfl (by kernel_rfl) ?_)
  | ((with_reducible show wpList _ _ _ (⟨none,Op.store 73 (Operand.tmp 2) (Operand.tmp 16),_,_,_,_⟩ :: _) _ _);refine wpList_putA rfl _ _ _ rfl rfl _ 0 26 (stCells ({ s with sh:=1 })).toList _ _ rfl rfl l1 rfl (by kernel_rfl) (by kernel_rfl) (by kernel_rfl) ?_;intro w9 p9 l9 n9;replace l1:=l9.trans (congrArg (fun c=>some (Obj.cells c 73 (0,0))) (show _ = stCells ({ s with sh:=1 }) by kernel_rfl));replace bel:=p9.below bel (by omega);clear l9 n9 p9))
 exact bodyPost_ret (v:=.agg (stCells ({ s with sh:=1 }))) (results_cell_row Tryz.results54 _ _ _ _ (stCells ({ s with sh:=1 })) _ _ rfl l1 Tryz.underlying73 rfl (by kernel_rfl)) rfl ⟨rfl,bel⟩
set_option maxRecDepth 100000 in
set_option maxHeartbeats 4000000 in
theorem l4Fix_inline (s:St) (w:World) :
  Calls Tryz.prog 54 #[.agg #[.int .i64 2,.int .i64 0,.int .i64 s.cl,.bool s.w.a,.bool s.w.p,.int .i64 s.w.n,.bool s.h.a,.bool s.h.p,.int .i64 s.h.n,.int .i64 s.mn,.int .i64 s.mx,.int .i64 s.mt,.bool s.mr.a,.bool s.mr.p,.int .i64 s.mr.n,.int .i64 s.mb,.bool s.ml.a,.bool s.ml.p,.int .i64 s.ml.n,.int .i64 s.bo,.int .i64 s.pa,.int .i64 s.wh,.int .i64 s.al,.int .i64 s.lh,.int .i64 s.ri,.int .i64 s.dn]] w fun e w'=>e = .returned (.agg (stCells ({ plainSt with sh:=2 }))) ∧ Below w.heap.size w w':=by
 have l0:((w.alloc (.cells (#[.int .i64 2,.int .i64 0,.int .i64 s.cl,.bool s.w.a,.bool s.w.p,.int .i64 s.w.n,.bool s.h.a,.bool s.h.p,.int .i64 s.h.n,.int .i64 s.mn,.int .i64 s.mx,.int .i64 s.mt,.bool s.mr.a,.bool s.mr.p,.int .i64 s.mr.n,.int .i64 s.mb,.bool s.ml.a,.bool s.ml.p,.int .i64 s.ml.n,.int .i64 s.bo,.int .i64 s.pa,.int .i64 s.wh,.int .i64 s.al,.int .i64 s.lh,.int .i64 s.ri,.int .i64 s.dn]) 73)).alloc (.cells (#[.int .i64 0,.int .i64 0,.int .i64 0,.bool false,.bool false,.int .i64 0,.bool false,.bool false,.int .i64 0,.int .i64 0,.int .i64 0,.int .i64 0,.bool false,.bool false,.int .i64 0,.int .i64 0,.bool false,.bool false,.int .i64 0,.int .i64 0,.int .i64 0,.int .i64 0,.int .i64 0,.int .i64 0,.int .i64 0,.int .i64 0]) 73)).heap[w.heap.size]? = some (.cells (stCells ({ s with sh:=2,fl:=0 })) 73 (0,0)):=heap_in (heap_at _ _ _ rfl)
 have l1:((w.alloc (.cells (#[.int .i64 2,.int .i64 0,.int .i64 s.cl,.bool s.w.a,.bool s.w.p,.int .i64 s.w.n,.bool s.h.a,.bool s.h.p,.int .i64 s.h.n,.int .i64 s.mn,.int .i64 s.mx,.int .i64 s.mt,.bool s.mr.a,.bool s.mr.p,.int .i64 s.mr.n,.int .i64 s.mb,.bool s.ml.a,.bool s.ml.p,.int .i64 s.ml.n,.int .i64 s.bo,.int .i64 s.pa,.int .i64 s.wh,.int .i64 s.al,.int .i64 s.lh,.int .i64 s.ri,.int .i64 s.dn]) 73)).alloc (.cells (#[.int .i64 0,.int .i64 0,.int .i64 0,.bool false,.bool false,.int .i64 0,.bool false,.bool false,.int .i64 0,.int .i64 0,.int .i64 0,.int .i64 0,.bool false,.bool false,.int .i64 0,.int .i64 0,.bool false,.bool false,.int .i64 0,.int .i64 0,.int .i64 0,.int .i64 0,.int .i64 0,.int .i64 0,.int .i64 0,.int .i64 0]) 73)).heap[w.heap.size + 1]? = some (.cells (#[.int .i64 0,.int .i64 0,.int .i64 0,.bool false,.bool false,.int .i64 0,.bool false,.bool false,.int .i64 0,.int .i64 0,.int .i64 0,.int .i64 0,.bool false,.bool false,.int .i64 0,.int .i64 0,.bool false,.bool false,.int .i64 0,.int .i64 0,.int .i64 0,.int .i64 0,.int .i64 0,.int .i64 0,.int .i64 0,.int .i64 0]) 73 (0,0)):=heap_at _ _ _ (by simp)
 have bel:Below w.heap.size w ((w.alloc (.cells (#[.int .i64 2,.int .i64 0,.int .i64 s.cl,.bool s.w.a,.bool s.w.p,.int .i64 s.w.n,.bool s.h.a,.bool s.h.p,.int .i64 s.h.n,.int .i64 s.mn,.int .i64 s.mx,.int .i64 s.mt,.bool s.mr.a,.bool s.mr.p,.int .i64 s.mr.n,.int .i64 s.mb,.bool s.ml.a,.bool s.ml.p,.int .i64 s.ml.n,.int .i64 s.bo,.int .i64 s.pa,.int .i64 s.wh,.int .i64 s.al,.int .i64 s.lh,.int .i64 s.ri,.int .i64 s.dn]) 73)).alloc (.cells (#[.int .i64 0,.int .i64 0,.int .i64 0,.bool false,.bool false,.int .i64 0,.bool false,.bool false,.int .i64 0,.int .i64 0,.int .i64 0,.int .i64 0,.bool false,.bool false,.int .i64 0,.int .i64 0,.bool false,.bool false,.int .i64 0,.int .i64 0,.int .i64 0,.int .i64 0,.int .i64 0,.int .i64 0,.int .i64 0,.int .i64 0]) 73)):=((Below.refl _ _).alloc (Nat.le_refl _) _).alloc (by simp) _
 go_enter Tryz.func54,Tryz.ntmps54
 go_wp2_with (first
  | (go_at_call 48;refine (specPlain_at _).mono ?_;rintro e w8 ⟨rfl,rfl⟩;replace bel:=bel.alloc (by simp;omega) (.cells (#[.int .i64 1,.int .i64 0,.int .i64 0,.bool true,.bool false,.int .i64 0,.bool true,.bool false,.int .i64 0,.int .i64 0,.int .i64 (-1),.int .i64 0,.bool false,.bool false,.int .i64 0,.int .i64 0,.bool false,.bool false,.int .i64 0,.int .i64 0,.int .i64 0,.int .i64 1,.int .i64 1,.int .i64 0,.int .i64 0,.int .i64 0]) 73);replace l1:=heap_in (o:=.cells (#[.int .i64 1,.int .i64 0,.int .i64 0,.bool true,.bool false,.int .i64 0,.bool true,.bool false,.int .i64 0,.int .i64 0,.int .i64 (-1),.int .i64 0,.bool false,.bool false,.int .i64 0,.int .i64 0,.bool false,.bool false,.int .i64 0,.int .i64 0,.int .i64 0,.int .i64 1,.int .i64 1,.int .i64 0,.int .i64 0,.int .i64 0]) 73) l1;replace l0:=heap_in (o:=.cells (#[.int .i64 1,.int .i64 0,.int .i64 0,.bool true,.bool false,.int .i64 0,.bool true,.bool false,.int .i64 0,.int .i64 0,.int .i64 (-1),.int .i64 0,.bool false,.bool false,.int .i64 0,.int .i64 0,.bool false,.bool false,.int .i64 0,.int .i64 0,.int .i64 0,.int .i64 1,.int .i64 1,.int .i64 0,.int .i64 0,.int .i64 0]) 73) l0)
  | ((with_reducible show wpList _ _ _ (⟨none,Op.store 73 (Operand.tmp 1) (Operand.tmp 14),_,_,_,_⟩ :: _) _ _);refine wpList_putA rfl _ _ _ rfl rfl _ 0 26 (stCells plainSt).toList _ _ rfl rfl l0 rfl (by kernel_rfl) (by kernel_rfl) (by kernel_rfl) ?_;intro w9 p9 l9 n9;replace l0:=l9.trans (congrArg (fun c=>some (Obj.cells c 73 (0,0))) (show _ = stCells plainSt by kernel_rfl));replace l1:=p9.lies l1 (by omega);replace bel:=p9.below bel (by omega);clear l9 n9 p9)
  | ((with_reducible show wpList _ _ _ (⟨none,Op.store 3 (Operand.tmp 15) _,_,_,_,_⟩ :: _) _ _);refine wpList_putA rfl _ _ _ rfl rfl _ 0 26 [.int .i64 2] _ _ rfl rfl l0 rfl (by kernel_rfl) (by kernel_rfl) (by kernel_rfl) ?_;intro w9 p9 l9 n9;replace l0:=l9.trans (congrArg (fun c=>some (Obj.cells c 73 (0,0))) (show _ = stCells ({ plainSt with sh:=2 }) by kernel_rfl));replace l1:=p9.lies l1 (by omega);replace bel:=p9.below bel (by omega);clear l9 n9 p9;have hc:w9.cell? ⟨w.heap.size,0,none⟩ = some (.int .i64 2):=(lies_cell l0 0).trans rfl)
  | ((with_reducible show wpList _ _ _ (⟨some 16,Op.load 73 _,_,_,_,_⟩ :: _) _ _);refine wpList_load_row rfl 73 _ rfl w.heap.size rfl _ (stCells ({ plainSt with sh:=2 })) _ _ l0 Tryz.underlying73 rfl (by kernel_rfl) ?_)
  | ((with_reducible show wpList _ _ _ (⟨none,Op.store 73 (Operand.tmp 2) (Operand.tmp 16),_,_,_,_⟩ :: _) _ _);refine wpList_putA rfl _ _ _ rfl rfl _ 0 26 (stCells ({ plainSt with sh:=2 })).toList _ _ rfl rfl l1 rfl (by kernel_rfl) (by kernel_rfl) (by kernel_rfl) ?_;intro w9 p9 l9 n9;replace l1:=l9.trans (congrArg (fun c=>some (Obj.cells c 73 (0,0))) (show _ = stCells ({ plainSt with sh:=2 }) by kernel_rfl));replace bel:=p9.below bel (by omega);clear l9 n9 p9))
 exact bodyPost_ret (v:=.agg (stCells ({ plainSt with sh:=2 }))) (results_cell_row Tryz.results54 _ _ _ _ (stCells ({ plainSt with sh:=2 })) _ _ rfl l1 Tryz.underlying73 rfl (by kernel_rfl)) rfl ⟨rfl,bel⟩
set_option maxRecDepth 100000 in
set_option maxHeartbeats 4000000 in
theorem l4Fix_same (s:St) (w:World) (h:¬ s.sh = 3) (h3:¬ s.sh = 2) :
  Calls Tryz.prog 54 #[.agg #[.int .i64 s.sh,.int .i64 0,.int .i64 s.cl,.bool s.w.a,.bool s.w.p,.int .i64 s.w.n,.bool s.h.a,.bool s.h.p,.int .i64 s.h.n,.int .i64 s.mn,.int .i64 s.mx,.int .i64 s.mt,.bool s.mr.a,.bool s.mr.p,.int .i64 s.mr.n,.int .i64 s.mb,.bool s.ml.a,.bool s.ml.p,.int .i64 s.ml.n,.int .i64 s.bo,.int .i64 s.pa,.int .i64 s.wh,.int .i64 s.al,.int .i64 s.lh,.int .i64 s.ri,.int .i64 s.dn]] w fun e w'=>e = .returned (.agg (stCells ({ s with fl:=0 }))) ∧ Below w.heap.size w w':=by
 have l0:((w.alloc (.cells (#[.int .i64 s.sh,.int .i64 0,.int .i64 s.cl,.bool s.w.a,.bool s.w.p,.int .i64 s.w.n,.bool s.h.a,.bool s.h.p,.int .i64 s.h.n,.int .i64 s.mn,.int .i64 s.mx,.int .i64 s.mt,.bool s.mr.a,.bool s.mr.p,.int .i64 s.mr.n,.int .i64 s.mb,.bool s.ml.a,.bool s.ml.p,.int .i64 s.ml.n,.int .i64 s.bo,.int .i64 s.pa,.int .i64 s.wh,.int .i64 s.al,.int .i64 s.lh,.int .i64 s.ri,.int .i64 s.dn]) 73)).alloc (.cells (#[.int .i64 0,.int .i64 0,.int .i64 0,.bool false,.bool false,.int .i64 0,.bool false,.bool false,.int .i64 0,.int .i64 0,.int .i64 0,.int .i64 0,.bool false,.bool false,.int .i64 0,.int .i64 0,.bool false,.bool false,.int .i64 0,.int .i64 0,.int .i64 0,.int .i64 0,.int .i64 0,.int .i64 0,.int .i64 0,.int .i64 0]) 73)).heap[w.heap.size]? = some (.cells (stCells ({ s with fl:=0 })) 73 (0,0)):=heap_in (heap_at _ _ _ rfl)
 have l1:((w.alloc (.cells (#[.int .i64 s.sh,.int .i64 0,.int .i64 s.cl,.bool s.w.a,.bool s.w.p,.int .i64 s.w.n,.bool s.h.a,.bool s.h.p,.int .i64 s.h.n,.int .i64 s.mn,.int .i64 s.mx,.int .i64 s.mt,.bool s.mr.a,.bool s.mr.p,.int .i64 s.mr.n,.int .i64 s.mb,.bool s.ml.a,.bool s.ml.p,.int .i64 s.ml.n,.int .i64 s.bo,.int .i64 s.pa,.int .i64 s.wh,.int .i64 s.al,.int .i64 s.lh,.int .i64 s.ri,.int .i64 s.dn]) 73)).alloc (.cells (#[.int .i64 0,.int .i64 0,.int .i64 0,.bool false,.bool false,.int .i64 0,.bool false,.bool false,.int .i64 0,.int .i64 0,.int .i64 0,.int .i64 0,.bool false,.bool false,.int .i64 0,.int .i64 0,.bool false,.bool false,.int .i64 0,.int .i64 0,.int .i64 0,.int .i64 0,.int .i64 0,.int .i64 0,.int .i64 0,.int .i64 0]) 73)).heap[w.heap.size + 1]? = some (.cells (#[.int .i64 0,.int .i64 0,.int .i64 0,.bool false,.bool false,.int .i64 0,.bool false,.bool false,.int .i64 0,.int .i64 0,.int .i64 0,.int .i64 0,.bool false,.bool false,.int .i64 0,.int .i64 0,.bool false,.bool false,.int .i64 0,.int .i64 0,.int .i64 0,.int .i64 0,.int .i64 0,.int .i64 0,.int .i64 0,.int .i64 0]) 73 (0,0)):=heap_at _ _ _ (by simp)
 have bel:Below w.heap.size w ((w.alloc (.cells (#[.int .i64 s.sh,.int .i64 0,.int .i64 s.cl,.bool s.w.a,.bool s.w.p,.int .i64 s.w.n,.bool s.h.a,.bool s.h.p,.int .i64 s.h.n,.int .i64 s.mn,.int .i64 s.mx,.int .i64 s.mt,.bool s.mr.a,.bool s.mr.p,.int .i64 s.mr.n,.int .i64 s.mb,.bool s.ml.a,.bool s.ml.p,.int .i64 s.ml.n,.int .i64 s.bo,.int .i64 s.pa,.int .i64 s.wh,.int .i64 s.al,.int .i64 s.lh,.int .i64 s.ri,.int .i64 s.dn]) 73)).alloc (.cells (#[.int .i64 0,.int .i64 0,.int .i64 0,.bool false,.bool false,.int .i64 0,.bool false,.bool false,.int .i64 0,.int .i64 0,.int .i64 0,.int .i64 0,.bool false,.bool false,.int .i64 0,.int .i64 0,.bool false,.bool false,.int .i64 0,.int .i64 0,.int .i64 0,.int .i64 0,.int .i64 0,.int .i64 0,.int .i64 0,.int .i64 0]) 73)):=((Below.refl _ _).alloc (Nat.le_refl _) _).alloc (by simp) _
 go_enter Tryz.func54,Tryz.ntmps54
 go_wp2_with (first
  | ((with_reducible show wpList _ _ _ (⟨some 16,Op.load 73 _,_,_,_,_⟩ :: _) _ _);refine wpList_load_row rfl 73 _ rfl w.heap.size rfl _ (stCells ({ s with fl:=0 })) _ _ l0 Tryz.underlying73 rfl (by kernel_rfl) ?_)
  | ((with_reducible show wpList _ _ _ (⟨none,Op.store 73 (Operand.tmp 2) (Operand.tmp 16),_,_,_,_⟩ :: _) _ _);refine wpList_putA rfl _ _ _ rfl rfl _ 0 26 (stCells ({ s with fl:=0 })).toList _ _ rfl rfl l1 rfl (by kernel_rfl) (by kernel_rfl) (by kernel_rfl) ?_;intro w9 p9 l9 n9;replace l1:=l9.trans (congrArg (fun c=>some (Obj.cells c 73 (0,0))) (show _ = stCells ({ s with fl:=0 }) by kernel_rfl));replace bel:=p9.below bel (by omega);clear l9 n9 p9))
 exact bodyPost_ret (v:=.agg (stCells ({ s with fl:=0 }))) (results_cell_row Tryz.results54 _ _ _ _ (stCells ({ s with fl:=0 })) _ _ rfl l1 Tryz.underlying73 rfl (by kernel_rfl)) rfl ⟨rfl,bel⟩
theorem l4Fix_any (s:St) (w:World) :
  Calls Tryz.prog 54 #[.agg (stCells s)] w fun e w'=>e = .returned (.agg (stCells (fixSt s))) ∧ Below w.heap.size w w':=by
 by_cases h:s.sh = 3
 ·have e:fixSt s = { s with sh:=3 }:=by unfold fixSt;rw [if_pos h,← h]
  rw [e,show stCells s = #[.int .i64 3,.int .i64 s.fl,.int .i64 s.cl,.bool s.w.a,.bool s.w.p,.int .i64 s.w.n,.bool s.h.a,.bool s.h.p,.int .i64 s.h.n,.int .i64 s.mn,.int .i64 s.mx,.int .i64 s.mt,.bool s.mr.a,.bool s.mr.p,.int .i64 s.mr.n,.int .i64 s.mb,.bool s.ml.a,.bool s.ml.p,.int .i64 s.ml.n,.int .i64 s.bo,.int .i64 s.pa,.int .i64 s.wh,.int .i64 s.al,.int .i64 s.lh,.int .i64 s.ri,.int .i64 s.dn] by unfold stCells;rw [h]]
  exact l4Fix_none s w
 ·by_cases h2:s.fl = 0
  ·by_cases h3:s.sh = 2
   ·have e:fixSt s = { plainSt with sh:=2 }:=by unfold fixSt;rw [if_neg h,if_neg (by simpa using h2),if_pos h3]
    rw [e,show stCells s = #[.int .i64 2,.int .i64 0,.int .i64 s.cl,.bool s.w.a,.bool s.w.p,.int .i64 s.w.n,.bool s.h.a,.bool s.h.p,.int .i64 s.h.n,.int .i64 s.mn,.int .i64 s.mx,.int .i64 s.mt,.bool s.mr.a,.bool s.mr.p,.int .i64 s.mr.n,.int .i64 s.mb,.bool s.ml.a,.bool s.ml.p,.int .i64 s.ml.n,.int .i64 s.bo,.int .i64 s.pa,.int .i64 s.wh,.int .i64 s.al,.int .i64 s.lh,.int .i64 s.ri,.int .i64 s.dn] by unfold stCells;rw [h3,h2]]
    exact l4Fix_inline s w
   ·have e:fixSt s = { s with fl:=0 }:=by unfold fixSt;rw [if_neg h,if_neg (by simpa using h2),if_neg h3,← h2]
    rw [e,show stCells s = #[.int .i64 s.sh,.int .i64 0,.int .i64 s.cl,.bool s.w.a,.bool s.w.p,.int .i64 s.w.n,.bool s.h.a,.bool s.h.p,.int .i64 s.h.n,.int .i64 s.mn,.int .i64 s.mx,.int .i64 s.mt,.bool s.mr.a,.bool s.mr.p,.int .i64 s.mr.n,.int .i64 s.mb,.bool s.ml.a,.bool s.ml.p,.int .i64 s.ml.n,.int .i64 s.bo,.int .i64 s.pa,.int .i64 s.wh,.int .i64 s.al,.int .i64 s.lh,.int .i64 s.ri,.int .i64 s.dn] by unfold stCells;rw [h2]]
    exact l4Fix_same s w h h3
  ·have e:fixSt s = { s with sh:=1 }:=by unfold fixSt;rw [if_neg h,if_pos (by simpa using h2)]
   rw [e]
   exact l4Fix_float s w h h2
end Go.Proofs.YtjnmloaopnbpgaaGreatDoor
