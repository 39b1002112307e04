/-
 Trees as plain data: a node, the chain of a node (those around it, the outermost first, and itself), what a good tree is, and why it is enough to keep the chain of the node ahead.
 Rows of nodes in memory: what it is that a slice reads as some nodes, and what keeps it so.
 The law's own copy of a node is that node; its size; its comparison with itself.
 The law's own comparison of nodes with themselves.
 A node is a text if its style is the zero one: both sides' tests.
-/
import Derived.Test.YtjnmloaopnbpgaaGreatDoorMg6
import Derived.Deep.MidRow
import Derived.OwnWalk
import Derived.Laws.StructEq
namespace Go.Proofs.YtjnmloaopnbpgaaGreatDoor
open Go.ChangeShapes Go.WideShapes Go.ChangeAt Go.RowKit
set_option linter.unusedVariables false
structure Nd where
 up:Int
 tx:ByteArray
 st:St
def ndL (n:Nd):List Value:=[.int .i64 n.up,.string n.tx,.int .i64 n.st.sh,.int .i64 n.st.fl,.int .i64 n.st.cl,.bool n.st.w.a,.bool n.st.w.p,.int .i64 n.st.w.n,.bool n.st.h.a,.bool n.st.h.p,.int .i64 n.st.h.n,.int .i64 n.st.mn,.int .i64 n.st.mx,.int .i64 n.st.mt,.bool n.st.mr.a,.bool n.st.mr.p,.int .i64 n.st.mr.n,.int .i64 n.st.mb,.bool n.st.ml.a,.bool n.st.ml.p,.int .i64 n.st.ml.n,.int .i64 n.st.bo,.int .i64 n.st.pa,.int .i64 n.st.wh,.int .i64 n.st.al,.int .i64 n.st.lh,.int .i64 n.st.ri,.int .i64 n.st.dn]
theorem ndL_len (n:Nd):(ndL n).length = 28:=rfl
/-- The zero size, the zero style. -/
def szZ (a p:Bool) (n:Int):Bool:=!a && !p && decide (n = 0)
def zeroS (s:St):Bool:=decide (s.sh = 0) && decide (s.fl = 0) && decide (s.cl = 0) && szZ s.w.a s.w.p s.w.n && szZ s.h.a s.h.p s.h.n && decide (s.mn = 0) && decide (s.mx = 0) && decide (s.mt = 0) && szZ s.mr.a s.mr.p s.mr.n && decide (s.mb = 0) && szZ s.ml.a s.ml.p s.ml.n && decide (s.bo = 0) && decide (s.pa = 0) && decide (s.wh = 0) && decide (s.al = 0) && decide (s.lh = 0) && decide (s.ri = 0) && decide (s.dn = 0)
def nd0:Nd:=⟨0,ByteArray.empty,⟨0,0,0,⟨false,false,0⟩,⟨false,false,0⟩,0,0,0,⟨false,false,0⟩,0,⟨false,false,0⟩,0,0,0,0,0,0,0⟩⟩
/-- Where node k stands in; whether it is a text. -/
def upL (ns:List Nd) (k:Nat):Int:=(ns.getD k nd0).up
def isT (ns:List Nd) (k:Nat):Bool:=zeroS (ns.getD k nd0).st
/-- The chain of node k: those around it, the outermost first, and itself. -/
def chainL (ns:List Nd) (k:Nat):List Int :=
 if h:0 ≤ upL ns k ∧ (upL ns k).toNat < k then chainL ns (upL ns k).toNat ++ [(k:Int)] else [(k:Int)]
termination_by k
decreasing_by exact h.2
theorem chain_in {ns:List Nd} {k u:Nat} (h:upL ns k = (u:Int)) (hu:u < k):chainL ns k = chainL ns u ++ [(k:Int)]:=by
 rw [chainL,dif_pos ⟨by omega,by rw [h];simpa using hu⟩,h]
 rfl
theorem chain_top {ns:List Nd} {k:Nat} (h:upL ns k < 0):chainL ns k = [(k:Int)]:=by
 rw [chainL,dif_neg (by omega)]
/-- Node k stands as it may, behind nodes that do. -/
structure Stands (ns:List Nd) (k:Nat):Prop where
 top:k = 0 → upL ns k = -1
 ups:0 < k → ∃ u:Nat,u < k ∧ upL ns k = (u:Int) ∧ (u:Int) ∈ chainL ns (k - 1) ∧ isT ns u = false
 deep:0 < k → (chainL ns (upL ns k).toNat).length < 8
theorem chain_bound (ns:List Nd):∀ (k:Nat) (x:Int),x ∈ chainL ns k → 0 ≤ x ∧ x ≤ (k:Int)
 | k,x,hx=>by
  rw [chainL] at hx
  split at hx
  ·rename_i h
   rw [List.mem_append,List.mem_singleton] at hx
   rcases hx with hx | rfl
   ·have:=chain_bound ns (upL ns k).toNat x hx
    omega
   ·omega
  ·rw [List.mem_singleton] at hx
   omega
termination_by k=>k
theorem chain_last (ns:List Nd) (k:Nat):(k:Int) ∈ chainL ns k:=by
 rw [chainL]
 split <;> simp
/-- What is around a node that stands is no text. -/
theorem chain_elem {ns:List Nd}:∀ (k:Nat),(∀ j,j ≤ k → Stands ns j) → ∀ u:Nat,(u:Int) ∈ chainL ns k → u ≠ k → isT ns u = false
 | k,hs,u,hu,hne=>by
  by_cases h0:k = 0
  ·subst h0
   have:=chain_bound ns 0 u hu
   omega
  ·obtain ⟨v,hv,e,hin,ht⟩:=(hs k (Nat.le_refl _)).ups (by omega)
   rw [chain_in e hv,List.mem_append,List.mem_singleton] at hu
   rcases hu with hu | hu
   ·by_cases huv:u = v
    ·subst huv;exact ht
    ·exact chain_elem v (fun j hj=>hs j (by omega)) u hu huv
   ·omega
termination_by k=>k
/-- The place of a number in a row. -/
def idxL (x:Int):List Int → Nat
 | []=>0
 | y :: ys=>if y = x then 0 else idxL x ys + 1
theorem idx_lt {x:Int}:∀ {l:List Int},x ∈ l → idxL x l < l.length
 | y :: ys,h=>by
  rw [idxL]
  split
  ·simp
  ·have:x ∈ ys:=by rcases List.mem_cons.1 h with e | e;exact absurd e.symm ‹_›;exact e
   have:=idx_lt this
   simp;omega
theorem idx_at {x:Int}:∀ {l:List Int},x ∈ l → l.getD (idxL x l) 0 = x
 | y :: ys,h=>by
  rw [idxL]
  split
  ·rename_i e;simpa using e
  ·have:x ∈ ys:=by rcases List.mem_cons.1 h with e | e;exact absurd e.symm ‹_›;exact e
   simpa using idx_at this
theorem idx_append_left {x:Int}:∀ {l r:List Int},x ∈ l → idxL x (l ++ r) = idxL x l
 | y :: ys,r,h=>by
  rw [List.cons_append,idxL,idxL]
  split
  ·rfl
  ·have:x ∈ ys:=by rcases List.mem_cons.1 h with e | e;exact absurd e.symm ‹_›;exact e
   rw [idx_append_left this]
theorem idx_append_right {x:Int}:∀ {l r:List Int},x ∉ l → idxL x (l ++ r) = l.length + idxL x r
 | [],r,_=>by simp
 | y :: ys,r,h=>by
  rw [List.cons_append,idxL,if_neg (fun e=>h (by simp [e])),idx_append_right (fun e=>h (List.mem_cons_of_mem _ e))]
  simp;omega
/-- What of a chain reaches up to a node in it is that node's chain. -/
theorem chain_take {ns:List Nd}:∀ (k u:Nat),(u:Int) ∈ chainL ns k → (chainL ns k).take (idxL u (chainL ns k) + 1) = chainL ns u
 | k,u,hu=>by
  by_cases hk:0 ≤ upL ns k ∧ (upL ns k).toNat < k
  ·have e:upL ns k = ((upL ns k).toNat:Int):=by omega
   have ec:=chain_in e hk.2
   by_cases huk:u = k
   ·subst huk
    have hn:(u:Int) ∉ chainL ns (upL ns u).toNat:=fun h=>by
     have:=chain_bound ns _ _ h
     omega
    rw [ec,idx_append_right hn]
    simp only [idxL,if_true,Nat.add_zero]
    exact List.take_of_length_le (by simp)
   ·have hu':(u:Int) ∈ chainL ns (upL ns k).toNat:=by
     rw [ec,List.mem_append,List.mem_singleton] at hu
     rcases hu with h | h
     ·exact h
     ·omega
    rw [ec,idx_append_left hu',List.take_append_of_le_length (by have:=idx_lt hu';omega)]
    exact chain_take _ _ hu'
  ·have ec:chainL ns k = [(k:Int)]:=by rw [chainL,dif_neg hk]
   rw [ec,List.mem_singleton] at hu
   have:u = k:=by omega
   subst this
   rw [ec]
   simp [idxL]
termination_by k=>k
decreasing_by exact hk.2
/-- What node i may stand in: the chain of the node ahead, without it if it is a text. -/
def aroundL (ns:List Nd):Nat → List Int
 | 0=>[]
 | i + 1=>if isT ns i = true then (if i = 0 then [] else chainL ns (upL ns i).toNat) else chainL ns i
theorem around_in {ns:List Nd} {i:Nat} (h0:0 < i) (hT0:isT ns 0 = false) (hs:∀ j,j < i → Stands ns j) (x:Int) :
  x ∈ aroundL ns i ↔ ∃ u:Nat,u < i ∧ x = (u:Int) ∧ (u:Int) ∈ chainL ns (i - 1) ∧ isT ns u = false:=by
 obtain ⟨i,rfl⟩:∃ j,i = j + 1:=⟨i - 1,by omega⟩
 rw [Nat.add_sub_cancel,aroundL]
 constructor
 ·intro hx
  split at hx
  ·rename_i hT
   split at hx
   ·simp at hx
   ·rename_i hi0
    obtain ⟨v,hv,e,hin,ht⟩:=(hs i (by omega)).ups (by omega)
    have hb:=chain_bound ns _ _ hx
    rw [e] at hx hb
    refine ⟨x.toNat,by simp at hb;omega,by omega,?_,?_⟩
    ·rw [chain_in e hv,List.mem_append]
     left
     rw [show (x.toNat:Int) = x by omega]
     simpa using hx
    ·by_cases hxv:x.toNat = v
     ·rw [hxv];exact ht
     ·exact chain_elem v (fun j hj=>hs j (by omega)) _ (by rw [show (x.toNat:Int) = x by omega];simpa using hx) hxv
  ·rename_i hT
   have hb:=chain_bound ns _ _ hx
   refine ⟨x.toNat,by omega,by omega,by rw [show (x.toNat:Int) = x by omega];exact hx,?_⟩
   by_cases hxi:x.toNat = i
   ·rw [hxi];simpa using hT
   ·exact chain_elem i (fun j hj=>hs j (by omega)) _ (by rw [show (x.toNat:Int) = x by omega];exact hx) hxi
 ·rintro ⟨u,hu,rfl,hin,ht⟩
  split
  ·rename_i hT
   have hui:u ≠ i:=fun e=>by subst e;rw [hT] at ht;cases ht
   by_cases hi0:i = 0
   ·omega
   ·rw [if_neg hi0]
    obtain ⟨v,hv,e,hin',ht'⟩:=(hs i (by omega)).ups (by omega)
    rw [chain_in e hv,List.mem_append,List.mem_singleton] at hin
    rw [e]
    rcases hin with h | h
    ·simpa using h
    ·omega
  ·exact hin
theorem around_take {ns:List Nd} {i:Nat} (u:Nat) (hu:(u:Int) ∈ aroundL ns i):(aroundL ns i).take (idxL u (aroundL ns i) + 1) = chainL ns u:=by
 cases i with
 | zero=>simp [aroundL] at hu
 | succ i =>
  rw [aroundL] at hu ⊢
  split at hu
  ·split at hu
   ·simp at hu
   ·rename_i h1 h2
    rw [if_pos h1,if_neg h2]
    exact chain_take _ _ hu
  ·rename_i h1
   rw [if_neg h1]
   exact chain_take _ _ hu
/-- What node i is in itself. -/
def okN (tB:ByteArray → Bool) (sB:St → Bool) (n:Nd):Bool:=if zeroS n.st then decide (n.tx.size ≠ 0) && tB n.tx else decide (n.tx.size = 0) && sB n.st
/-- Whether node i stands as it may. -/
def okUp (ns:List Nd) (i:Nat):Bool :=
 if i = 0 then decide (upL ns 0 = -1) && !isT ns 0 else decide (upL ns i ∈ aroundL ns i) && decide (idxL (upL ns i) (aroundL ns i) + 1 < 8)
def okAt (tB:ByteArray → Bool) (sB:St → Bool) (ns:List Nd) (i:Nat):Bool:=okUp ns i && okN tB sB (ns.getD i nd0)
def treeB (tB:ByteArray → Bool) (sB:St → Bool) (ns:List Nd):Bool:=decide (1 ≤ ns.length) && decide (ns.length ≤ 40) && (List.range ns.length).all (okAt tB sB ns)
theorem treeB_no {tB:ByteArray → Bool} {sB:St → Bool} {ns:List Nd} {k:Nat} (h:k < ns.length) (hk:okAt tB sB ns k = false):treeB tB sB ns = false:=by
 have:(List.range ns.length).all (okAt tB sB ns) = false:=by
  rw [List.all_eq_false]
  exact ⟨k,List.mem_range.2 h,by simp [hk]⟩
 rw [treeB,this,Bool.and_false]
theorem treeB_yes {tB:ByteArray → Bool} {sB:St → Bool} {ns:List Nd} (h1:1 ≤ ns.length) (h2:ns.length ≤ 40) (h:∀ j,j < ns.length → okAt tB sB ns j = true):treeB tB sB ns = true:=by
 rw [treeB,List.all_eq_true.2 fun j hj=>h j (List.mem_range.1 hj)]
 simp [h1,h2]
theorem treeB_len {tB:ByteArray → Bool} {sB:St → Bool} {ns:List Nd} (h:¬ (1 ≤ ns.length ∧ ns.length ≤ 40)):treeB tB sB ns = false:=by
 rw [treeB]
 by_cases h1:1 ≤ ns.length
 ·have:¬ ns.length ≤ 40:=fun h2=>h ⟨h1,h2⟩
  simp [this]
 ·simp [h1]
/-- Nodes up to i that pass stand. -/
theorem stands_of {ns:List Nd}:∀ (i:Nat),(∀ j,j < i → okUp ns j = true) → ∀ j,j < i → Stands ns j:=by
 intro i
 induction i with
 | zero=>intro _ j hj;omega
 | succ i ih =>
  intro hok
  have hs:=ih fun j hj=>hok j (by omega)
  intro j hj
  by_cases hji:j < i
  ·exact hs j hji
  ·have:j = i:=by omega
   subst this
   have h:=hok j (by omega)
   by_cases h0:j = 0
   ·subst h0
    rw [okUp,if_pos rfl,Bool.and_eq_true] at h
    exact ⟨fun _=>of_decide_eq_true h.1,fun hh=>by omega,fun hh=>by omega⟩
   ·rw [okUp,if_neg h0,Bool.and_eq_true] at h
    have hT0:isT ns 0 = false:=by
     have:=hok 0 (by omega)
     rw [okUp,if_pos rfl,Bool.and_eq_true] at this
     simpa using this.2
    have hin:=of_decide_eq_true h.1
    have hdp:=of_decide_eq_true h.2
    obtain ⟨u,hu,e,hc,ht⟩:=(around_in (by omega) hT0 hs _).1 hin
    refine ⟨fun hh=>absurd hh h0,fun _=>⟨u,hu,e,hc,ht⟩,fun _=>?_⟩
    rw [e] at hin hdp ⊢
    have:=congrArg List.length (around_take u hin)
    rw [List.length_take] at this
    rw [show ((u:Int)).toNat = u by simp,← this]
    omega
/-- A slice value at address a reads as the nodes ns. -/
def NdRow (w:World) (a:Option Addr) (ns:List Nd):Prop :=
 ns = [] ∨ ∃ b off,a = some ⟨b,off,none⟩ ∧ ∀ i n,ns[i]? = some n → w.rangeAt b (off + i * 28) (ndL n)
theorem range_lt {w:World} {b o:Nat} {n:Nd} (h:w.rangeAt b o (ndL n)):b < w.heap.size:=World.block_lt_of_cell? _ _ (h 0 (.int .i64 n.up) rfl)
theorem range_below {B:Nat} {w w':World} {b o:Nat} {n:Nd} (h:w.rangeAt b o (ndL n)) (hb:Below B w w') (hB:b < B):w'.rangeAt b o (ndL n) :=
 fun j v hv=>(hb.cell (p:=⟨b,o + j,none⟩) hB).trans (h j v hv)
theorem wp_gen1 {P:Program} {c:Code} {Q:Exit → Act → World → Prop} {a:Act} {w:World} {A:Obj}
  (h:∀ W,Below w.heap.size w W → W.heap[w.heap.size]? = some A → W.heap.size = w.heap.size + 1 → c.wp P Q a W):c.wp P Q a (w.alloc A) :=
 h _ ((Below.refl _ _).alloc (Nat.le_refl _) _) (heap_at _ _ _ rfl) (by simp)
section
set_option linter.unusedSimpArgs false
theorem eqSt_held:Tryz.prog.stoodInHeld 73 = false:=by kernel_rfl
theorem eqSt_guard:Tryz.prog.eqGuardType Tryz.prog.depth 73 = false:=by kernel_rfl
theorem eqSt_fields:Tryz.prog.underlying 73 = some (.struct (Tryz.prog.fieldsOf 73)):=by kernel_rfl
theorem eqSzz_held:Tryz.prog.stoodInHeld 71 = false:=by kernel_rfl
theorem eqSzz_fields:Tryz.prog.underlying 71 = some (.struct (Tryz.prog.fieldsOf 71)):=by kernel_rfl
theorem eqSzF (d:Nat) (a p:Bool) (n:Int) (w:World) :
  (Op.equalIn (d + 1 + 1) 71 (.agg #[.bool a,.bool p,.int .i64 n]) (.agg #[.bool false,.bool false,.int .i64 0])).run Tryz.prog w = .ok (szZ a p n) w:=by
 rw [run_equalIn_agg _ _ _ _ _ eqSzz_fields eqSzz_held]
 simp only [Program.fieldsOf,Tryz.underlying71]
 cases a <;> cases p <;> by_cases h3:n = 0 <;> simp [Op.eqFields,go_sem,Tryz.underlying3,Tryz.underlying4,h3,szZ]
set_option maxRecDepth 100000 in
set_option maxHeartbeats 4000000 in
theorem eqSt_run (s:St) (w:World) :
  (binOp .eql 73 (.agg #[.int .i64 s.sh,.int .i64 s.fl,.int .i64 s.cl,.bool s.w.a,.bool s.w.p,.int .i64 s.w.n,.bool s.h.a,.bool s.h.p,.int .i64 s.h.n,.int .i64 s.mn,.int .i64 s.mx,.int .i64 s.mt,.bool s.mr.a,.bool s.mr.p,.int .i64 s.mr.n,.int .i64 s.mb,.bool s.ml.a,.bool s.ml.p,.int .i64 s.ml.n,.int .i64 s.bo,.int .i64 s.pa,.int .i64 s.wh,.int .i64 s.al,.int .i64 s.lh,.int .i64 s.ri,.int .i64 s.dn]) (.agg #[.int .i64 0,.int .i64 0,.int .i64 0,.bool false,.bool false,.int .i64 0,.bool false,.bool false,.int .i64 0,.int .i64 0,.int .i64 0,.int .i64 0,.bool false,.bool false,.int .i64 0,.int .i64 0,.bool false,.bool false,.int .i64 0,.int .i64 0,.int .i64 0,.int .i64 0,.int .i64 0,.int .i64 0,.int .i64 0,.int .i64 0])).run Tryz.prog w = .ok (.bool (zeroS s)) w:=by
 rw [run_eql_struct,run_equalIn_agg _ _ _ _ _ eqSt_fields eqSt_held]
 simp only [Program.fieldsOf,Tryz.underlying73]
 by_cases h_sh:s.sh = 0
 rotate_left
 ·simp [Op.eqFields,go_sem,Tryz.underlying3,Tryz.underlying4,eqSzF,zeroS,h_sh]
 by_cases h_fl:s.fl = 0
 rotate_left
 ·simp [Op.eqFields,go_sem,Tryz.underlying3,Tryz.underlying4,eqSzF,zeroS,h_sh,h_fl]
 by_cases h_cl:s.cl = 0
 rotate_left
 ·simp [Op.eqFields,go_sem,Tryz.underlying3,Tryz.underlying4,eqSzF,zeroS,h_sh,h_fl,h_cl]
 by_cases h_w:szZ s.w.a s.w.p s.w.n = true
 rotate_left
 ·simp [Op.eqFields,go_sem,Tryz.underlying3,Tryz.underlying4,eqSzF,zeroS,h_sh,h_fl,h_cl,h_w]
 by_cases h_h:szZ s.h.a s.h.p s.h.n = true
 rotate_left
 ·simp [Op.eqFields,go_sem,Tryz.underlying3,Tryz.underlying4,eqSzF,zeroS,h_sh,h_fl,h_cl,h_w,h_h]
 by_cases h_mn:s.mn = 0
 rotate_left
 ·simp [Op.eqFields,go_sem,Tryz.underlying3,Tryz.underlying4,eqSzF,zeroS,h_sh,h_fl,h_cl,h_w,h_h,h_mn]
 by_cases h_mx:s.mx = 0
 rotate_left
 ·simp [Op.eqFields,go_sem,Tryz.underlying3,Tryz.underlying4,eqSzF,zeroS,h_sh,h_fl,h_cl,h_w,h_h,h_mn,h_mx]
 by_cases h_mt:s.mt = 0
 rotate_left
 ·simp [Op.eqFields,go_sem,Tryz.underlying3,Tryz.underlying4,eqSzF,zeroS,h_sh,h_fl,h_cl,h_w,h_h,h_mn,h_mx,h_mt]
 by_cases h_mr:szZ s.mr.a s.mr.p s.mr.n = true
 rotate_left
 ·simp [Op.eqFields,go_sem,Tryz.underlying3,Tryz.underlying4,eqSzF,zeroS,h_sh,h_fl,h_cl,h_w,h_h,h_mn,h_mx,h_mt,h_mr]
 by_cases h_mb:s.mb = 0
 rotate_left
 ·simp [Op.eqFields,go_sem,Tryz.underlying3,Tryz.underlying4,eqSzF,zeroS,h_sh,h_fl,h_cl,h_w,h_h,h_mn,h_mx,h_mt,h_mr,h_mb]
 by_cases h_ml:szZ s.ml.a s.ml.p s.ml.n = true
 rotate_left
 ·simp [Op.eqFields,go_sem,Tryz.underlying3,Tryz.underlying4,eqSzF,zeroS,h_sh,h_fl,h_cl,h_w,h_h,h_mn,h_mx,h_mt,h_mr,h_mb,h_ml]
 by_cases h_bo:s.bo = 0
 rotate_left
 ·simp [Op.eqFields,go_sem,Tryz.underlying3,Tryz.underlying4,eqSzF,zeroS,h_sh,h_fl,h_cl,h_w,h_h,h_mn,h_mx,h_mt,h_mr,h_mb,h_ml,h_bo]
 by_cases h_pa:s.pa = 0
 rotate_left
 ·simp [Op.eqFields,go_sem,Tryz.underlying3,Tryz.underlying4,eqSzF,zeroS,h_sh,h_fl,h_cl,h_w,h_h,h_mn,h_mx,h_mt,h_mr,h_mb,h_ml,h_bo,h_pa]
 by_cases h_wh:s.wh = 0
 rotate_left
 ·simp [Op.eqFields,go_sem,Tryz.underlying3,Tryz.underlying4,eqSzF,zeroS,h_sh,h_fl,h_cl,h_w,h_h,h_mn,h_mx,h_mt,h_mr,h_mb,h_ml,h_bo,h_pa,h_wh]
 by_cases h_al:s.al = 0
 rotate_left
 ·simp [Op.eqFields,go_sem,Tryz.underlying3,Tryz.underlying4,eqSzF,zeroS,h_sh,h_fl,h_cl,h_w,h_h,h_mn,h_mx,h_mt,h_mr,h_mb,h_ml,h_bo,h_pa,h_wh,h_al]
 by_cases h_lh:s.lh = 0
 rotate_left
 ·simp [Op.eqFields,go_sem,Tryz.underlying3,Tryz.underlying4,eqSzF,zeroS,h_sh,h_fl,h_cl,h_w,h_h,h_mn,h_mx,h_mt,h_mr,h_mb,h_ml,h_bo,h_pa,h_wh,h_al,h_lh]
 by_cases h_ri:s.ri = 0
 rotate_left
 ·simp [Op.eqFields,go_sem,Tryz.underlying3,Tryz.underlying4,eqSzF,zeroS,h_sh,h_fl,h_cl,h_w,h_h,h_mn,h_mx,h_mt,h_mr,h_mb,h_ml,h_bo,h_pa,h_wh,h_al,h_lh,h_ri]
 by_cases h_dn:s.dn = 0
 rotate_left
 ·simp [Op.eqFields,go_sem,Tryz.underlying3,Tryz.underlying4,eqSzF,zeroS,h_sh,h_fl,h_cl,h_w,h_h,h_mn,h_mx,h_mt,h_mr,h_mb,h_ml,h_bo,h_pa,h_wh,h_al,h_lh,h_ri,h_dn]
 simp [Op.eqFields,go_sem,Tryz.underlying3,Tryz.underlying4,eqSzF,zeroS,h_sh,h_fl,h_cl,h_w,h_h,h_mn,h_mx,h_mt,h_mr,h_mb,h_ml,h_bo,h_pa,h_wh,h_al,h_lh,h_ri,h_dn]
set_option maxRecDepth 100000 in
set_option maxHeartbeats 4000000 in
theorem specIsText_any (n:Nd) (w:World):Calls Tryz.prog 51 #[.agg #[.int .i64 n.up,.string n.tx,.int .i64 n.st.sh,.int .i64 n.st.fl,.int .i64 n.st.cl,.bool n.st.w.a,.bool n.st.w.p,.int .i64 n.st.w.n,.bool n.st.h.a,.bool n.st.h.p,.int .i64 n.st.h.n,.int .i64 n.st.mn,.int .i64 n.st.mx,.int .i64 n.st.mt,.bool n.st.mr.a,.bool n.st.mr.p,.int .i64 n.st.mr.n,.int .i64 n.st.mb,.bool n.st.ml.a,.bool n.st.ml.p,.int .i64 n.st.ml.n,.int .i64 n.st.bo,.int .i64 n.st.pa,.int .i64 n.st.wh,.int .i64 n.st.al,.int .i64 n.st.lh,.int .i64 n.st.ri,.int .i64 n.st.dn]] w fun e w'=>e = .returned (.bool (zeroS n.st)) ∧ Below w.heap.size w w':=by
 have EQ:=eqSt_run n.st
 have GD:=fun (w:World) (x y:Operand)=>run_eqGuard_agg (P:=Tryz.prog) w .eql 73 x y (#[.int .i64 n.st.sh,.int .i64 n.st.fl,.int .i64 n.st.cl,.bool n.st.w.a,.bool n.st.w.p,.int .i64 n.st.w.n,.bool n.st.h.a,.bool n.st.h.p,.int .i64 n.st.h.n,.int .i64 n.st.mn,.int .i64 n.st.mx,.int .i64 n.st.mt,.bool n.st.mr.a,.bool n.st.mr.p,.int .i64 n.st.mr.n,.int .i64 n.st.mb,.bool n.st.ml.a,.bool n.st.ml.p,.int .i64 n.st.ml.n,.int .i64 n.st.bo,.int .i64 n.st.pa,.int .i64 n.st.wh,.int .i64 n.st.al,.int .i64 n.st.lh,.int .i64 n.st.ri,.int .i64 n.st.dn]) (#[.int .i64 0,.int .i64 0,.int .i64 0,.bool false,.bool false,.int .i64 0,.bool false,.bool false,.int .i64 0,.int .i64 0,.int .i64 0,.int .i64 0,.bool false,.bool false,.int .i64 0,.int .i64 0,.bool false,.bool false,.int .i64 0,.int .i64 0,.int .i64 0,.int .i64 0,.int .i64 0,.int .i64 0,.int .i64 0,.int .i64 0]) eqSt_guard
 generalize zeroS n.st = r at EQ ⊢
 go_enter Tryz.func51,Tryz.ntmps51
 iterate 12 go_step
 refine wp_gen1 ?_
 intro W bel l0 hz
 have R0:W.rangeAt w.heap.size 2 (#[.int .i64 n.st.sh,.int .i64 n.st.fl,.int .i64 n.st.cl,.bool n.st.w.a,.bool n.st.w.p,.int .i64 n.st.w.n,.bool n.st.h.a,.bool n.st.h.p,.int .i64 n.st.h.n,.int .i64 n.st.mn,.int .i64 n.st.mx,.int .i64 n.st.mt,.bool n.st.mr.a,.bool n.st.mr.p,.int .i64 n.st.mr.n,.int .i64 n.st.mb,.bool n.st.ml.a,.bool n.st.ml.p,.int .i64 n.st.ml.n,.int .i64 n.st.bo,.int .i64 n.st.pa,.int .i64 n.st.wh,.int .i64 n.st.al,.int .i64 n.st.lh,.int .i64 n.st.ri,.int .i64 n.st.dn]:Array Value).toList:=fun j v hj=>(lies_cell l0 (2 + j)).trans (by rw [← hj,show (#[.int .i64 n.st.sh,.int .i64 n.st.fl,.int .i64 n.st.cl,.bool n.st.w.a,.bool n.st.w.p,.int .i64 n.st.w.n,.bool n.st.h.a,.bool n.st.h.p,.int .i64 n.st.h.n,.int .i64 n.st.mn,.int .i64 n.st.mx,.int .i64 n.st.mt,.bool n.st.mr.a,.bool n.st.mr.p,.int .i64 n.st.mr.n,.int .i64 n.st.mb,.bool n.st.ml.a,.bool n.st.ml.p,.int .i64 n.st.ml.n,.int .i64 n.st.bo,.int .i64 n.st.pa,.int .i64 n.st.wh,.int .i64 n.st.al,.int .i64 n.st.lh,.int .i64 n.st.ri,.int .i64 n.st.dn]:Array Value).toList = (#[.int .i64 n.up,.string n.tx,.int .i64 n.st.sh,.int .i64 n.st.fl,.int .i64 n.st.cl,.bool n.st.w.a,.bool n.st.w.p,.int .i64 n.st.w.n,.bool n.st.h.a,.bool n.st.h.p,.int .i64 n.st.h.n,.int .i64 n.st.mn,.int .i64 n.st.mx,.int .i64 n.st.mt,.bool n.st.mr.a,.bool n.st.mr.p,.int .i64 n.st.mr.n,.int .i64 n.st.mb,.bool n.st.ml.a,.bool n.st.ml.p,.int .i64 n.st.ml.n,.int .i64 n.st.bo,.int .i64 n.st.pa,.int .i64 n.st.wh,.int .i64 n.st.al,.int .i64 n.st.lh,.int .i64 n.st.ri,.int .i64 n.st.dn]:Array Value).toList.drop 2 from rfl,List.getElem?_drop];simp)
 clear l0
 go_wp2_with (first
  | (with_reducible show wpList _ _ _ (⟨some 4,Op.load 73 _,_,_,_,_⟩ :: _) _ _;refine wpList_load_mid rfl 73 _ rfl w.heap.size 2 rfl (#[.int .i64 n.st.sh,.int .i64 n.st.fl,.int .i64 n.st.cl,.bool n.st.w.a,.bool n.st.w.p,.int .i64 n.st.w.n,.bool n.st.h.a,.bool n.st.h.p,.int .i64 n.st.h.n,.int .i64 n.st.mn,.int .i64 n.st.mx,.int .i64 n.st.mt,.bool n.st.mr.a,.bool n.st.mr.p,.int .i64 n.st.mr.n,.int .i64 n.st.mb,.bool n.st.ml.a,.bool n.st.ml.p,.int .i64 n.st.ml.n,.int .i64 n.st.bo,.int .i64 n.st.pa,.int .i64 n.st.wh,.int .i64 n.st.al,.int .i64 n.st.lh,.int .i64 n.st.ri,.int .i64 n.st.dn]:Array Value).toList _ R0 Tryz.underlying73 rfl (by kernel_rfl) ?_)
  | (with_reducible show wpList _ _ _ (⟨some 5,Op.build 73 _,_,_,_,_⟩ :: _) _ _;refine wpList_buildTo rfl 73 _ rfl _ rfl (#[.int .i64 0,.int .i64 0,.int .i64 0,.bool false,.bool false,.int .i64 0,.bool false,.bool false,.int .i64 0,.int .i64 0,.int .i64 0,.int .i64 0,.bool false,.bool false,.int .i64 0,.int .i64 0,.bool false,.bool false,.int .i64 0,.int .i64 0,.int .i64 0,.int .i64 0,.int .i64 0,.int .i64 0,.int .i64 0,.int .i64 0]) (by kernel_rfl) ?_))
 go_ret
 exact ⟨rfl,bel⟩
set_option maxRecDepth 100000 in
set_option maxHeartbeats 4000000 in
theorem implIsText_any (n:Nd) (w:World):Calls Tryz.prog 64 #[.agg #[.int .i64 n.up,.string n.tx,.int .i64 n.st.sh,.int .i64 n.st.fl,.int .i64 n.st.cl,.bool n.st.w.a,.bool n.st.w.p,.int .i64 n.st.w.n,.bool n.st.h.a,.bool n.st.h.p,.int .i64 n.st.h.n,.int .i64 n.st.mn,.int .i64 n.st.mx,.int .i64 n.st.mt,.bool n.st.mr.a,.bool n.st.mr.p,.int .i64 n.st.mr.n,.int .i64 n.st.mb,.bool n.st.ml.a,.bool n.st.ml.p,.int .i64 n.st.ml.n,.int .i64 n.st.bo,.int .i64 n.st.pa,.int .i64 n.st.wh,.int .i64 n.st.al,.int .i64 n.st.lh,.int .i64 n.st.ri,.int .i64 n.st.dn]] w fun e w'=>e = .returned (.bool (zeroS n.st)) ∧ Below w.heap.size w w':=by
 have EQ:=eqSt_run n.st
 have GD:=fun (w:World) (x y:Operand)=>run_eqGuard_agg (P:=Tryz.prog) w .eql 73 x y (#[.int .i64 n.st.sh,.int .i64 n.st.fl,.int .i64 n.st.cl,.bool n.st.w.a,.bool n.st.w.p,.int .i64 n.st.w.n,.bool n.st.h.a,.bool n.st.h.p,.int .i64 n.st.h.n,.int .i64 n.st.mn,.int .i64 n.st.mx,.int .i64 n.st.mt,.bool n.st.mr.a,.bool n.st.mr.p,.int .i64 n.st.mr.n,.int .i64 n.st.mb,.bool n.st.ml.a,.bool n.st.ml.p,.int .i64 n.st.ml.n,.int .i64 n.st.bo,.int .i64 n.st.pa,.int .i64 n.st.wh,.int .i64 n.st.al,.int .i64 n.st.lh,.int .i64 n.st.ri,.int .i64 n.st.dn]) (#[.int .i64 0,.int .i64 0,.int .i64 0,.bool false,.bool false,.int .i64 0,.bool false,.bool false,.int .i64 0,.int .i64 0,.int .i64 0,.int .i64 0,.bool false,.bool false,.int .i64 0,.int .i64 0,.bool false,.bool false,.int .i64 0,.int .i64 0,.int .i64 0,.int .i64 0,.int .i64 0,.int .i64 0,.int .i64 0,.int .i64 0]) eqSt_guard
 generalize zeroS n.st = r at EQ ⊢
 go_enter Tryz.func64,Tryz.ntmps64
 iterate 12 go_step
 refine wp_gen1 ?_
 intro W bel l0 hz
 have R0:W.rangeAt w.heap.size 2 (#[.int .i64 n.st.sh,.int .i64 n.st.fl,.int .i64 n.st.cl,.bool n.st.w.a,.bool n.st.w.p,.int .i64 n.st.w.n,.bool n.st.h.a,.bool n.st.h.p,.int .i64 n.st.h.n,.int .i64 n.st.mn,.int .i64 n.st.mx,.int .i64 n.st.mt,.bool n.st.mr.a,.bool n.st.mr.p,.int .i64 n.st.mr.n,.int .i64 n.st.mb,.bool n.st.ml.a,.bool n.st.ml.p,.int .i64 n.st.ml.n,.int .i64 n.st.bo,.int .i64 n.st.pa,.int .i64 n.st.wh,.int .i64 n.st.al,.int .i64 n.st.lh,.int .i64 n.st.ri,.int .i64 n.st.dn]:Array Value).toList:=fun j v hj=>(lies_cell l0 (2 + j)).trans (by rw [← hj,show (#[.int .i64 n.st.sh,.int .i64 n.st.fl,.int .i64 n.st.cl,.bool n.st.w.a,.bool n.st.w.p,.int .i64 n.st.w.n,.bool n.st.h.a,.bool n.st.h.p,.int .i64 n.st.h.n,.int .i64 n.st.mn,.int .i64 n.st.mx,.int .i64 n.st.mt,.bool n.st.mr.a,.bool n.st.mr.p,.int .i64 n.st.mr.n,.int .i64 n.st.mb,.bool n.st.ml.a,.bool n.st.ml.p,.int .i64 n.st.ml.n,.int .i64 n.st.bo,.int .i64 n.st.pa,.int .i64 n.st.wh,.int .i64 n.st.al,.int .i64 n.st.lh,.int .i64 n.st.ri,.int .i64 n.st.dn]:Array Value).toList = (#[.int .i64 n.up,.string n.tx,.int .i64 n.st.sh,.int .i64 n.st.fl,.int .i64 n.st.cl,.bool n.st.w.a,.bool n.st.w.p,.int .i64 n.st.w.n,.bool n.st.h.a,.bool n.st.h.p,.int .i64 n.st.h.n,.int .i64 n.st.mn,.int .i64 n.st.mx,.int .i64 n.st.mt,.bool n.st.mr.a,.bool n.st.mr.p,.int .i64 n.st.mr.n,.int .i64 n.st.mb,.bool n.st.ml.a,.bool n.st.ml.p,.int .i64 n.st.ml.n,.int .i64 n.st.bo,.int .i64 n.st.pa,.int .i64 n.st.wh,.int .i64 n.st.al,.int .i64 n.st.lh,.int .i64 n.st.ri,.int .i64 n.st.dn]:Array Value).toList.drop 2 from rfl,List.getElem?_drop];simp)
 clear l0
 go_wp2_with (first
  | (with_reducible show wpList _ _ _ (⟨some 4,Op.load 73 _,_,_,_,_⟩ :: _) _ _;refine wpList_load_mid rfl 73 _ rfl w.heap.size 2 rfl (#[.int .i64 n.st.sh,.int .i64 n.st.fl,.int .i64 n.st.cl,.bool n.st.w.a,.bool n.st.w.p,.int .i64 n.st.w.n,.bool n.st.h.a,.bool n.st.h.p,.int .i64 n.st.h.n,.int .i64 n.st.mn,.int .i64 n.st.mx,.int .i64 n.st.mt,.bool n.st.mr.a,.bool n.st.mr.p,.int .i64 n.st.mr.n,.int .i64 n.st.mb,.bool n.st.ml.a,.bool n.st.ml.p,.int .i64 n.st.ml.n,.int .i64 n.st.bo,.int .i64 n.st.pa,.int .i64 n.st.wh,.int .i64 n.st.al,.int .i64 n.st.lh,.int .i64 n.st.ri,.int .i64 n.st.dn]:Array Value).toList _ R0 Tryz.underlying73 rfl (by kernel_rfl) ?_)
  | (with_reducible show wpList _ _ _ (⟨some 5,Op.build 73 _,_,_,_,_⟩ :: _) _ _;refine wpList_buildTo rfl 73 _ rfl _ rfl (#[.int .i64 0,.int .i64 0,.int .i64 0,.bool false,.bool false,.int .i64 0,.bool false,.bool false,.int .i64 0,.int .i64 0,.int .i64 0,.int .i64 0,.bool false,.bool false,.int .i64 0,.int .i64 0,.bool false,.bool false,.int .i64 0,.int .i64 0,.int .i64 0,.int .i64 0,.int .i64 0,.int .i64 0,.int .i64 0,.int .i64 0]) (by kernel_rfl) ?_))
 go_ret
 exact ⟨rfl,bel⟩
end
end Go.Proofs.YtjnmloaopnbpgaaGreatDoor
