/-
 Appends onto a new row, in a region that draws: some slice comes out.
-/
import Derived.Test.YtjnmloaopnbpgaaGreatDoorMg25
import Derived.Deep.Upon
import Derived.Deep.AppendSrc
namespace Go.Proofs.YtjnmloaopnbpgaaGreatDoor
open Go.ChangeShapes Go.WideShapes Go.ChangeAt Go.RowKit
set_option linter.unusedVariables false
theorem own_slice8 {w:World} {B:Nat} {e:TypeId} {size:Nat} {v:Value} {n:Nat} {xs:List Value} (h:w.ownsRow B e size v n xs):∃ (a:Option Addr) (n c:Nat),v = .slice a n c:=by
 rcases h.2 with ⟨rfl,hn⟩ | ⟨g,cap,cur,rfl,_⟩
 ·exact ⟨_,_,_,rfl⟩
 ·exact ⟨_,_,_,rfl⟩
theorem wp_app8 {P:Program} {o:Oper} {a:Act} {w:World} {K:Act → World → Prop} {Q:Exit → Act → World → Prop} (hg:o.guard = none) (s x:Operand) (t:TypeId) (hop:o.op = Op.call { callee:=Callee.builtin Builtin.append,args:=#[s,x],argTypes:=#[t,t] })
  (e:TypeId) (i:TypeInfo) (z:Value) (size bytes:Nat) (h1:P.underlying t = some (.slice e)) (h2:P.info? e = some i) (h3:i.zero = some z) (h4:i.size = size) (h5:i.bytes = bytes) (h6:z.cells.size = size) (h7:0 < size)
  (g:Nat) (hs:a.eval s = .slice (some ⟨g,0,none⟩) 0 0) (ad:Option Addr) (m c:Nat) (news:List Value) (hx:a.eval x = .slice ad m c) (hn:news.length = m * size)
  (hc:∀ b,ad = some b → ∀ j u,news[j]? = some u → w.cell? (b.add j) = some u) (hnone:ad = none → m = 0) (h1c:∀ u ∈ news,u.oneCell' = true) (b1:m ≤ maxLen) (b2:m * bytes ≤ 140737488355328)
  (h:∀ (a1:Option Addr) (n1 c1:Nat) (w':World),Below w.heap.size w w' → K (a.put o.dst (.slice a1 n1 c1)) w'):Oper.wp P o a w K Q:=by
 by_cases h0:m = 0
 ·subst h0
  have hn0:news = []:=List.eq_nil_of_length_eq_zero (by rw [hn];omega)
  subst hn0
  have hsrc:Src P i.size t (.slice ad 0 c) 0 [] w:=by
   cases ad with
   | none=>exact Src.ofNil w h1 c
   | some b=>exact Src.ofSlice w h1 b 0 c [] (by simp) (fun j u hj=>by simp at hj) (fun u hu=>by simp at hu)
  have hrun:=run_append_nothing (P:=P) w t t o.type e i h1 h2 (some ⟨g,0,none⟩) 0 0 (Nat.le_refl _) (.slice ad 0 c) hsrc
  unfold Oper.wp
  simp [execOp,hop,resolve,invoke,builtin,hs,hx,hrun,Result.andThen]
  exact h _ _ _ w (Below.refl _ _)
 ·cases ad with
  | none=>exact absurd (hnone rfl) h0
  | some b =>
   have hh:=step_append_grows (P:=P) (ops:=#[]) (o:=o) (a:=a) (w:=w) (K:=K) (Q:=Q) (E:=True) hg s x t hop e i z size bytes h1 h2 h3 h4 h5 h6 h7 (some ⟨g,0,none⟩) 0 0 [] hs (fun h=>by cases h) (by simp) (fun b' _ j u hj=>by simp at hj) b m c news hx hn (hc b rfl) h1c (by omega) (by omega) (by rw [Nat.zero_add];exact b2) (fun v' w' ho hgr=>by
    obtain ⟨a1,n1,c1,rfl⟩:=own_slice8 ho
    exact h a1 n1 c1 w' ⟨hgr.os,hgr.tape,hgr.output,hgr.size,fun k hk=>hgr.block k hk (fun e=>by cases e)⟩)
   rw [if_pos (by simp [Region.wanted,hg])] at hh
   exact hh
theorem flatB_in8 {bs:List Bx}:∀ {j:Nat} {u:Value},(flatB bs)[j]? = some u → ∃ i x c,bs[i]? = some x ∧ (bxL x)[c]? = some u ∧ j = i * 4 + c:=by
 intro j u h
 have hj:=(List.getElem?_eq_some_iff.1 h).1
 rw [flatB_len] at hj
 obtain ⟨x,hx⟩:∃ x,bs[j / 4]? = some x:=⟨_,List.getElem?_eq_getElem (by omega)⟩
 obtain ⟨v,hv⟩:∃ v,(bxL x)[j % 4]? = some v:=⟨_,List.getElem?_eq_getElem (by have:(bxL x).length = 4:=rfl;have:=Nat.mod_lt j (show 0 < 4 by omega);omega)⟩
 have h1:=flatB_at bs (j / 4) x (j % 4) v hx hv
 rw [show j / 4 * 4 + j % 4 = j by omega,h] at h1
 have e:u = v:=Option.some.inj h1
 exact ⟨j / 4,x,j % 4,hx,by rw [e];exact hv,by omega⟩
theorem flatA_in8 {bs:List Asd}:∀ {j:Nat} {u:Value},(flatA bs)[j]? = some u → ∃ i x c,bs[i]? = some x ∧ (asL x)[c]? = some u ∧ j = i * 5 + c:=by
 intro j u h
 have hj:=(List.getElem?_eq_some_iff.1 h).1
 rw [flatA_len] at hj
 obtain ⟨x,hx⟩:∃ x,bs[j / 5]? = some x:=⟨_,List.getElem?_eq_getElem (by omega)⟩
 obtain ⟨v,hv⟩:∃ v,(asL x)[j % 5]? = some v:=⟨_,List.getElem?_eq_getElem (by have:(asL x).length = 5:=rfl;have:=Nat.mod_lt j (show 0 < 5 by omega);omega)⟩
 have h1:=flatA_at bs (j / 5) x (j % 5) v hx hv
 rw [show j / 5 * 5 + j % 5 = j by omega,h] at h1
 have e:u = v:=Option.some.inj h1
 exact ⟨j / 5,x,j % 5,hx,by rw [e];exact hv,by omega⟩
theorem bxL_one8 (x:Bx) (u:Value) (h:u ∈ bxL x):u.oneCell' = true:=by
 simp [bxL] at h
 rcases h with rfl | rfl | rfl | rfl <;> rfl
theorem flatB_one8 (bs:List Bx) (u:Value) (h:u ∈ flatB bs):u.oneCell' = true:=by
 obtain ⟨j,hj⟩:=List.getElem?_of_mem h
 obtain ⟨i,x,c,_,h2,_⟩:=flatB_in8 hj
 exact bxL_one8 x u (List.mem_of_getElem? h2)
set_option maxRecDepth 100000 in
theorem wp_appB {o:Oper} {a:Act} {w:World} {K:Act → World → Prop} {Q:Exit → Act → World → Prop} (hg:o.guard = none) (s x:Operand) (hop:o.op = Op.call { callee:=Callee.builtin Builtin.append,args:=#[s,x],argTypes:=#[24,24] })
  (g:Nat) (hs:a.eval s = .slice (some ⟨g,0,none⟩) 0 0) (ad:Option Addr) (m c:Nat) (l:List Bx) (hx:a.eval x = .slice ad m c) (hm:m = l.length) (hr:BxRow w ad l) (hl:m ≤ 1000)
  (h:∀ (a1:Option Addr) (n1 c1:Nat) (w':World),Below w.heap.size w w' → K (a.put o.dst (.slice a1 n1 c1)) w'):Oper.wp Tryz.prog o a w K Q:=by
 obtain ⟨i0,hi,hz0,hz1,hz2⟩:=info_parts infoBox
 refine wp_app8 hg s x 24 hop 41 i0 _ 4 _ Tryz.underlying24 hi hz0 hz1 hz2 rfl (by decide) g hs ad m c (flatB l) hx (by rw [flatB_len,hm]) (fun b hb j u hj=>?_) (fun hb=>?_) (flatB_one8 l) (by unfold maxLen;omega) (by omega) h
 ·obtain ⟨i,y,cc,h1,h2,h3⟩:=flatB_in8 hj
  rcases hr with h0 | ⟨b',off,e,hcc⟩
  ·rw [h0] at h1;cases h1
  ·rw [hb] at e
   injection e with e
   subst e
   rw [Addr.add_lit,h3,← Nat.add_assoc]
   exact hcc i y h1 cc u h2
 ·rcases hr with h0 | ⟨b',off,e,hcc⟩
  ·rw [hm,h0];rfl
  ·rw [hb] at e;cases e
set_option maxRecDepth 100000 in
theorem wp_appA {o:Oper} {a:Act} {w:World} {K:Act → World → Prop} {Q:Exit → Act → World → Prop} (hg:o.guard = none) (s x:Operand) (hop:o.op = Op.call { callee:=Callee.builtin Builtin.append,args:=#[s,x],argTypes:=#[27,27] })
  (g:Nat) (hs:a.eval s = .slice (some ⟨g,0,none⟩) 0 0) (ad:Option Addr) (m c:Nat) (l:List Asd) (hx:a.eval x = .slice ad m c) (hm:m = l.length) (hr:AsRow w ad l) (hl:m ≤ 1000)
  (h:∀ (a1:Option Addr) (n1 c1:Nat) (w':World),Below w.heap.size w w' → K (a.put o.dst (.slice a1 n1 c1)) w'):Oper.wp Tryz.prog o a w K Q:=by
 obtain ⟨i0,hi,hz0,hz1,hz2⟩:=info_parts infoAside
 refine wp_app8 hg s x 27 hop 61 i0 _ 5 _ Tryz.underlying27 hi hz0 hz1 hz2 rfl (by decide) g hs ad m c (flatA l) hx (by rw [flatA_len,hm]) (fun b hb j u hj=>?_) (fun hb=>?_) (flatA_one_cell l) (by unfold maxLen;omega) (by omega) h
 ·obtain ⟨i,y,cc,h1,h2,h3⟩:=flatA_in8 hj
  rcases hr with h0 | ⟨b',off,e,hcc⟩
  ·rw [h0] at h1;cases h1
  ·rw [hb] at e
   injection e with e
   subst e
   rw [Addr.add_lit,h3,← Nat.add_assoc]
   exact hcc i y h1 cc u h2
 ·rcases hr with h0 | ⟨b',off,e,hcc⟩
  ·rw [hm,h0];rfl
  ·rw [hb] at e;cases e
end Go.Proofs.YtjnmloaopnbpgaaGreatDoor
