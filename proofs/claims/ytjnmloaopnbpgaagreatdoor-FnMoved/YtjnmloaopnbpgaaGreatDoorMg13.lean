/-
 What the gathering of boxes holds in memory; which box a style makes.
 The program's end of a text.
 The program's adding of a text.
 The program's take of a node: nodes that are gone.
-/
import Derived.Test.YtjnmloaopnbpgaaGreatDoorMg12
import Derived.Lib.Builder
import Derived.Deep.RegionLaw
namespace Go.Proofs.YtjnmloaopnbpgaaGreatDoor
open Go.ChangeShapes Go.WideShapes Go.ChangeAt Go.RowKit
set_option linter.unusedVariables false
def flatB:List Bx → List Value
 | []=>[]
 | x :: xs=>bxL x ++ flatB xs
theorem flatB_len:∀ bs:List Bx,(flatB bs).length = bs.length * 4
 | []=>rfl
 | x :: xs=>by rw [flatB,List.length_append,flatB_len xs,bxL_len,List.length_cons,Nat.succ_mul,Nat.add_comm]
theorem flatB_snoc:∀ (bs:List Bx) (x:Bx),flatB (bs ++ [x]) = flatB bs ++ bxL x
 | [],x=>by simp [flatB]
 | y :: ys,x=>by rw [List.cons_append,flatB,flatB,flatB_snoc ys x,List.append_assoc]
theorem flatB_at:∀ (bs:List Bx) (i:Nat) (x:Bx) (c:Nat) (v:Value),bs[i]? = some x → (bxL x)[c]? = some v → (flatB bs)[i * 4 + c]? = some v
 | [],i,x,c,v,h,_=>by simp at h
 | y :: ys,0,x,c,v,h,hv=>by
  simp at h
  subst h
  rw [flatB,List.getElem?_append_left (by have:=(List.getElem?_eq_some_iff.1 hv).1;rw [bxL_len] at this ⊢;omega)]
  simpa using hv
 | y :: ys,i + 1,x,c,v,h,hv=>by
  have h':ys[i]? = some x:=by simpa using h
  rw [flatB,List.getElem?_append_right (by rw [bxL_len];omega),bxL_len,show (i + 1) * 4 + c - 4 = i * 4 + c by omega]
  exact flatB_at ys i x c v h' hv
theorem own_ne {w:World} {B:Nat} {e T:TypeId} {size:Nat} {v:Value} {n:Nat} {xs:List Value} {b:Nat} {cs:Array Value} {fr:Nat × Nat} (hown:w.ownsRow B e size v n xs) (hb:w.heap[b]? = some (.cells cs T fr)) (hTe:T ≠ e):v.ownBlock ≠ some b:=by
 rcases hown.2 with ⟨rfl,_⟩ | ⟨g,cap,cur,rfl,_,hg,_⟩
 ·simp [Value.ownBlock]
 ·intro h
  simp only [Value.ownBlock,Option.some.injEq] at h
  subst h
  rw [hg] at hb
  simp only [Option.some.injEq,Obj.cells.injEq] at hb
  exact hTe hb.2.1.symm
theorem own_ne2 {w:World} {B B':Nat} {e e':TypeId} {size size':Nat} {v v':Value} {n n':Nat} {xs xs':List Value} (h:w.ownsRow B e size v n xs) (h':w.ownsRow B' e' size' v' n' xs') (hTe:e' ≠ e):v.ownBlock = none ∨ v.ownBlock ≠ v'.ownBlock:=by
 cases hv:v'.ownBlock with
 | none=>cases hv2:v.ownBlock with
  | none=>exact .inl rfl
  | some k=>exact .inr (by simp)
 | some k =>
  refine .inr ?_
  rcases h'.2 with ⟨rfl,_⟩ | ⟨g,cap,cur,rfl,_,hg,_⟩
  ·simp [Value.ownBlock] at hv
  ·simp only [Value.ownBlock,Option.some.injEq] at hv
   subst hv
   exact own_ne h hg hTe
theorem own_keep {w w':World} {B:Nat} {e:TypeId} {size:Nat} {v:Value} {n:Nat} {xs:List Value} (h:w.ownsRow B e size v n xs) (hb:Below w.heap.size w w'):w'.ownsRow B e size v n xs :=
 h.kept (row:=none) ⟨hb.os,hb.tape,hb.output,hb.size,fun k hk _=>hb.block k hk⟩ (by cases h:v.ownBlock <;> simp)
theorem own_set {w:World} {B:Nat} {e:TypeId} {size:Nat} {v:Value} {n:Nat} {xs:List Value} (h:w.ownsRow B e size v n xs) {p i:Nat} (u:Value) (hne:v.ownBlock ≠ some p):(w.setCell ⟨p,i,none⟩ u).ownsRow B e size v n xs :=
 h.kept (bxn_grown_set w p i u) (.inr hne)
theorem own_zero {w:World} {B:Nat} {e:TypeId} {size g n cap:Nat} {xs:List Value} (h:w.ownsRow B e size (.slice (some ⟨g,0,none⟩) n cap) n xs):w.ownsRow B e size (.slice (some ⟨g,0,none⟩) 0 cap) 0 []:=by
 refine ⟨by simp,?_⟩
 rcases h.2 with ⟨h',_⟩ | ⟨g',cap',cur,h',hb,hg,hn,hc,hs,_⟩
 ·simp at h'
 ·simp only [Value.slice.injEq,Option.some.injEq,Addr.mk.injEq,and_true,true_and] at h'
  obtain ⟨rfl,rfl⟩:=h'
  exact .inr ⟨g,cap,cur,rfl,hb,hg,Nat.zero_le _,hc,hs,by simp⟩
theorem lies_set {w:World} {p i:Nat} {cs:Array Value} {t:TypeId} {v:Value} (h:w.heap[p]? = some (.cells cs t (0,0))):(w.setCell ⟨p,i,none⟩ v).heap[p]? = some (.cells (cs.setIfInBounds i v) t (0,0)):=heap_setCell_same w p i cs t v h
/-- The gathering of boxes, at block p, against the pass. -/
structure Bg (w:World) (B p:Nat) (ls:Value) (S:Ps) (vb vi vt:Value):Prop where
 hp:B ≤ p
 lies:w.heap[p]? = some (.cells #[ls,vb,vi,vt,.int .i64 S.ti] 95 (0,0))
 ob:w.ownsRow B 41 4 vb S.bs.length (flatB S.bs)
 oi:w.ownsRow B 3 1 vi S.inn.length (S.inn.map (Value.int .i64))
 ot:w.ownsRow B 5 1 vt S.tx.size (Lib.strCells S.tx)
theorem Bg.keep {w w':World} {B p:Nat} {ls:Value} {S:Ps} {vb vi vt:Value} (h:Bg w B p ls S vb vi vt) (hb:Below w.heap.size w w'):Bg w' B p ls S vb vi vt :=
 ⟨h.hp,below_lies hb h.lies (lies_lt h.lies),own_keep h.ob hb,own_keep h.oi hb,own_keep h.ot hb⟩
/-- New boxes stored. -/
theorem Bg.putB {w w3:World} {B p:Nat} {ls:Value} {S:Ps} {vb vi vt vb':Value} {bs':List Bx} (h:Bg w B p ls S vb vi vt) (hg:w.grownBy w3 vb.ownBlock) (ho:w3.ownsRow B 41 4 vb' bs'.length (flatB bs')):Bg (w3.setCell ⟨p,1,none⟩ vb') B p ls { S with bs:=bs' } vb' vi vt:=by
 have l3:w3.heap[p]? = _:=(hg.block p (lies_lt h.lies) (fun e=>own_ne h.ob h.lies (by decide) e.symm)).trans h.lies
 exact ⟨h.hp,lies_set l3,own_set ho _ (own_ne ho l3 (by decide)),own_set (h.oi.kept hg (own_ne2 h.oi h.ob (by decide))) _ (own_ne h.oi h.lies (by decide)),own_set (h.ot.kept hg (own_ne2 h.ot h.ob (by decide))) _ (own_ne h.ot h.lies (by decide))⟩
/-- New rows of what is around stored. -/
theorem Bg.putI {w w3:World} {B p:Nat} {ls:Value} {S:Ps} {vb vi vt vi':Value} {l:List Int} (h:Bg w B p ls S vb vi vt) (hg:w.grownBy w3 vi.ownBlock) (ho:w3.ownsRow B 3 1 vi' l.length (l.map (Value.int .i64))):Bg (w3.setCell ⟨p,2,none⟩ vi') B p ls { S with inn:=l } vb vi' vt:=by
 have l3:w3.heap[p]? = _:=(hg.block p (lies_lt h.lies) (fun e=>own_ne h.oi h.lies (by decide) e.symm)).trans h.lies
 exact ⟨h.hp,lies_set l3,own_set (h.ob.kept hg (own_ne2 h.ob h.oi (by decide))) _ (own_ne h.ob h.lies (by decide)),own_set ho _ (own_ne ho l3 (by decide)),own_set (h.ot.kept hg (own_ne2 h.ot h.oi (by decide))) _ (own_ne h.ot h.lies (by decide))⟩
/-- A new text stored. -/
theorem Bg.putT {w w3:World} {B p:Nat} {ls:Value} {S:Ps} {vb vi vt vt':Value} {t:ByteArray} (h:Bg w B p ls S vb vi vt) (hg:w.grownBy w3 vt.ownBlock) (ho:w3.ownsRow B 5 1 vt' t.size (Lib.strCells t)):Bg (w3.setCell ⟨p,3,none⟩ vt') B p ls { S with tx:=t } vb vi vt':=by
 have l3:w3.heap[p]? = _:=(hg.block p (lies_lt h.lies) (fun e=>own_ne h.ot h.lies (by decide) e.symm)).trans h.lies
 exact ⟨h.hp,lies_set l3,own_set (h.ob.kept hg (own_ne2 h.ob h.ot (by decide))) _ (own_ne h.ob h.lies (by decide)),own_set (h.oi.kept hg (own_ne2 h.oi h.ot (by decide))) _ (own_ne h.oi h.lies (by decide)),own_set ho _ (own_ne ho l3 (by decide))⟩
theorem Bg.putN {w:World} {B p:Nat} {ls:Value} {S:Ps} {vb vi vt:Value} (h:Bg w B p ls S vb vi vt) (z:Int):Bg (w.setCell ⟨p,4,none⟩ (.int .i64 z)) B p ls { S with ti:=z } vb vi vt :=
 ⟨h.hp,lies_set h.lies,own_set h.ob _ (own_ne h.ob h.lies (by decide)),own_set h.oi _ (own_ne h.oi h.lies (by decide)),own_set h.ot _ (own_ne h.ot h.lies (by decide))⟩
theorem grown_refl (w:World) (r:Option Nat):w.grownBy w r:=⟨rfl,rfl,rfl,Nat.le_refl _,fun _ _ _=>rfl⟩
theorem kind_fix (s:St):kindS s = if ¬ (fixSt s).sh = 1 then 0 else if ¬ (fixSt s).fl = 0 then 3 else 1:=by
 unfold kindS fixSt
 by_cases h:s.sh = 3
 ·simp [h]
 ·by_cases h2:s.fl = 0
  ·by_cases h3:s.sh = 2
   ·simp [h2,h3]
   ·by_cases h4:s.sh = 1 <;> simp [h,h2,h3,h4]
  ·simp [h,h2]
set_option maxRecDepth 100000 in
set_option maxHeartbeats 4000000 in
theorem boxKind_any (s:St) (w:World) :
  Calls Tryz.prog 41 #[.agg (stCells s)] w fun e w'=>e = .returned (.int .i64 (kindS s)) ∧ Below w.heap.size w w':=by
 have HK:Hid (kindS s = if ¬ (fixSt s).sh = 1 then 0 else if ¬ (fixSt s).fl = 0 then 3 else 1):=kind_fix s
 have l0:(w.alloc (.cells (stCells s) 73)).heap[w.heap.size]? = some (.cells (stCells s) 73 (0,0)):=heap_at _ _ _ rfl
 have bel:Below w.heap.size w (w.alloc (.cells (stCells s) 73)):=(Below.refl _ _).alloc (Nat.le_refl _) _
 have FX:=fun W=>fixed_any s W
 have hcell:∀ (W:World),W.heap[w.heap.size]? = some (.cells (stCells (fixSt s)) 73 (0,0)) → W.cell? ⟨w.heap.size,0,none⟩ = some (.int .i64 (fixSt s).sh) ∧ W.cell? ⟨w.heap.size,1,none⟩ = some (.int .i64 (fixSt s).fl):=fun W h=>⟨(lies_cell h 0).trans rfl,(lies_cell h 1).trans rfl⟩
 have hput:∀ l:List Value,l = (stCells s).toList → putA (stCells s) 0 (stCells (fixSt s)).toList = stCells (fixSt s):=fun l _=>by kernel_rfl
 obtain ⟨zs,hz1⟩:∃ z,z = (fixSt s).sh:=⟨_,rfl⟩
 obtain ⟨zf,hz2⟩:∃ z,z = (fixSt s).fl:=⟨_,rfl⟩
 rw [← hz1,← hz2] at HK
 rw [← hz1,← hz2] at hcell
 clear hz1 hz2
 rw [HK.out]
 by_cases h1:zs = 1
 ·by_cases h2:zf = 0
  ·rw [if_neg (by simpa using h1),if_neg (by simpa using h2)]
   clear HK
   go_enter Tryz.func41,Tryz.ntmps41
   go_wp2_with (first
    | ((with_reducible show wpList _ _ _ (⟨some 3,Op.load 73 _,_,_,_,_⟩ :: _) _ _);refine wpList_load_row rfl 73 _ rfl w.heap.size rfl _ (stCells s) _ _ l0 Tryz.underlying73 rfl (by kernel_rfl) ?_)
    | (go_at_call 67;refine (FX _).mono ?_;rintro e w1 ⟨rfl,hb⟩;replace bel:=bel.trans (hb.mono bel.size);replace l0:=below_lies hb l0 (lies_lt l0);clear hb)
    | ((with_reducible show wpList _ _ _ (⟨none,Op.store 73 (Operand.tmp 1) (Operand.tmp 4),_,_,_,_⟩ :: _) _ _);refine wpList_putA rfl _ _ _ rfl rfl _ 0 26 (stCells (fixSt s)).toList _ _ rfl rfl l0 rfl (by kernel_rfl) (by kernel_rfl) (by kernel_rfl) ?_;intro w9 p9 l9 n9;replace l0:=l9.trans (congrArg (fun c=>some (Obj.cells c 73 (0,0))) (hput _ rfl));replace bel:=p9.below bel (by omega);clear l9 n9 p9;obtain ⟨hc0,hc1⟩:=hcell _ l0))
   go_ret
   exact ⟨rfl,bel⟩
  ·rw [if_neg (by simpa using h1),if_pos (by simpa using h2)]
   clear HK
   go_enter Tryz.func41,Tryz.ntmps41
   go_wp2_with (first
    | ((with_reducible show wpList _ _ _ (⟨some 3,Op.load 73 _,_,_,_,_⟩ :: _) _ _);refine wpList_load_row rfl 73 _ rfl w.heap.size rfl _ (stCells s) _ _ l0 Tryz.underlying73 rfl (by kernel_rfl) ?_)
    | (go_at_call 67;refine (FX _).mono ?_;rintro e w1 ⟨rfl,hb⟩;replace bel:=bel.trans (hb.mono bel.size);replace l0:=below_lies hb l0 (lies_lt l0);clear hb)
    | ((with_reducible show wpList _ _ _ (⟨none,Op.store 73 (Operand.tmp 1) (Operand.tmp 4),_,_,_,_⟩ :: _) _ _);refine wpList_putA rfl _ _ _ rfl rfl _ 0 26 (stCells (fixSt s)).toList _ _ rfl rfl l0 rfl (by kernel_rfl) (by kernel_rfl) (by kernel_rfl) ?_;intro w9 p9 l9 n9;replace l0:=l9.trans (congrArg (fun c=>some (Obj.cells c 73 (0,0))) (hput _ rfl));replace bel:=p9.below bel (by omega);clear l9 n9 p9;obtain ⟨hc0,hc1⟩:=hcell _ l0))
   go_ret
   exact ⟨rfl,bel⟩
 ·rw [if_pos (by simpa using h1)]
  clear HK
  go_enter Tryz.func41,Tryz.ntmps41
  go_wp2_with (first
   | ((with_reducible show wpList _ _ _ (⟨some 3,Op.load 73 _,_,_,_,_⟩ :: _) _ _);refine wpList_load_row rfl 73 _ rfl w.heap.size rfl _ (stCells s) _ _ l0 Tryz.underlying73 rfl (by kernel_rfl) ?_)
   | (go_at_call 67;refine (FX _).mono ?_;rintro e w1 ⟨rfl,hb⟩;replace bel:=bel.trans (hb.mono bel.size);replace l0:=below_lies hb l0 (lies_lt l0);clear hb)
   | ((with_reducible show wpList _ _ _ (⟨none,Op.store 73 (Operand.tmp 1) (Operand.tmp 4),_,_,_,_⟩ :: _) _ _);refine wpList_putA rfl _ _ _ rfl rfl _ 0 26 (stCells (fixSt s)).toList _ _ rfl rfl l0 rfl (by kernel_rfl) (by kernel_rfl) (by kernel_rfl) ?_;intro w9 p9 l9 n9;replace l0:=l9.trans (congrArg (fun c=>some (Obj.cells c 73 (0,0))) (hput _ rfl));replace bel:=p9.below bel (by omega);clear l9 n9 p9;obtain ⟨hc0,hc1⟩:=hcell _ l0))
  go_ret
  exact ⟨rfl,bel⟩
theorem own_form {w:World} {B:Nat} {e:TypeId} {size:Nat} {v:Value} {n:Nat} {xs:List Value} (h:w.ownsRow B e size v n xs):∃ a cap,v = .slice a n cap:=by
 rcases h.2 with ⟨rfl,rfl⟩ | ⟨g,cap,cur,rfl,_⟩
 ·exact ⟨_,_,rfl⟩
 ·exact ⟨_,_,rfl⟩
theorem own_some {w:World} {B:Nat} {e:TypeId} {size:Nat} {v:Value} {n:Nat} {xs:List Value} (h:w.ownsRow B e size v n xs) (hn:0 < n):∃ g cap,v = .slice (some ⟨g,0,none⟩) n cap:=by
 rcases h.2 with ⟨rfl,rfl⟩ | ⟨g,cap,cur,rfl,_⟩
 ·omega
 ·exact ⟨_,_,rfl⟩
theorem conv_text {W:World} {B g cap n:Nat} {t:ByteArray} (hn:n = t.size) (h:W.ownsRow B 5 1 (.slice (some ⟨g,0,none⟩) n cap) n (Lib.strCells t)) :
  (convert 22 9 (.slice (some ⟨g,0,none⟩) n cap)).run Tryz.prog W = .ok (.string t) W:=by
 have hl:n = t.data.toList.length:=by rw [hn];rfl
 have:=run_convert_bytes_back W 22 9 5 ⟨g,0,none⟩ cap t.data.toList Tryz.underlying22 Tryz.underlying5 Tryz.underlying9 (fun j hj=>by
  have h1:=h.cells (g:=g) rfl j (.int .u8 ((t.data.toList[j]).toNat:Int)) (by unfold Lib.strCells;rw [List.getElem?_map,List.getElem?_eq_getElem hj];rfl)
  exact h1)
 rw [← hl] at this
 exact this
/-- What the nodes hold for a walk. -/
structure NdAt (w:World) (B b off n:Nat) (ns:List Nd):Prop where
 lt:b < B
 len:n = ns.length
 le:n ≤ 40
 rows:∀ (i:Nat) (x:Nd),ns[i]? = some x → w.rangeAt b (off + i * 28) (ndL x)
theorem NdAt.below {w w':World} {B b off n:Nat} {ns:List Nd} (h:NdAt w B b off n ns) (hb:Below B w w'):NdAt w' B b off n ns:=⟨h.lt,h.len,h.le,fun i x hx=>range_below (h.rows i x hx) hb h.lt⟩
/-- What is wanted of the pass where a text ends. -/
structure PsW (ns:List Nd) (k:Nat) (S:Ps):Prop where
 many:S.bs.length + (if S.tx.size = 0 then 0 else 1) ≤ k
 size:S.tx.size ≤ 200 * k
 good:textB true S.tx = true
 ti:S.tx.size ≠ 0 → 0 ≤ S.ti ∧ S.ti < S.bs.length
 nds:∀ (j:Nat) (b:Bx),S.bs[j]? = some b → ∃ i:Nat,b.nd = (i:Int) ∧ i < k ∧ isT ns i = false
theorem PsOk.w {ns:List Nd} {k:Nat} {S:Ps} (h:PsOk ns k S):PsW ns k S:=⟨h.many,h.size,h.good,h.ti,h.nds⟩
def WhOk (ns:List Nd):Prop:=∀ i,i < ns.length → isT ns i = false → inB 1 5 (ns.getD i nd0).st.wh = true
theorem endB_short {ns:List Nd} {S:Ps} (h:¬ S.tx.size = 0) (h2:S.tx.size ≤ 200 → (keepT (ns.getD (nodeOf S).toNat nd0).st.wh S.tx).size = 0):endB ns S = S.bs:=by
 unfold endB
 rw [if_neg h]
 split
 ·unfold lineOf
  rw [if_pos (h2 ‹_›)]
  simp
 ·rfl
theorem endB_more {ns:List Nd} {S:Ps} (h:¬ S.tx.size = 0) (h2:S.tx.size ≤ 200) (h3:¬ (keepT (ns.getD (nodeOf S).toNat nd0).st.wh S.tx).size = 0):endB ns S = S.bs ++ [⟨2,nodeOf S,S.ti,keepT (ns.getD (nodeOf S).toNat nd0).st.wh S.tx⟩]:=by
 unfold endB
 rw [if_neg h,if_pos h2]
 unfold lineOf
 rw [if_neg h3]
theorem keepN_long {wh:Int} {t:ByteArray} (h:¬ t.size ≤ 200):keepN wh t = ⟨#[]⟩ ∧ keepB wh t = false:=by
 have:okB true t = false:=by simp [okB,h]
 simp [keepN,keepB,this]
theorem keepN_ok {wh:Int} {t:ByteArray} (h:t.size ≤ 200) (hw:inB 1 5 wh = true) (ht:textB true t = true):keepN wh t = keepT wh t ∧ keepB wh t = true:=by
 have:okB true t = true:=by simp [okB,h,ht]
 simp [keepN,keepB,keepT,this,hw]
set_option maxRecDepth 100000 in
set_option maxHeartbeats 4000000 in
theorem endText_none (B p k n:Nat) (ls:Value) (ns:List Nd) (S:Ps) (vb vi vt:Value) (w:World) (hbg:Bg w B p ls S vb vi vt) (h0:S.tx.size = 0) :
  Calls Tryz.prog 43 #[.pointer (some ⟨p,0,none⟩)] w fun e w'=>e = .returned (.bool (endO S)) ∧ (∃ vb' vt',Bg w' B p ls { S with bs:=endB ns S,tx:=ByteArray.empty } vb' vi vt') ∧ Below B w w':=by
 obtain ⟨at_,ct,rfl⟩:=own_form hbg.ot
 have c3:w.cell? ⟨p,3,none⟩ = some (.slice at_ S.tx.size ct):=(lies_cell hbg.lies 3).trans rfl
 have R:Bg w B p ls { S with bs:=endB ns S,tx:=ByteArray.empty } vb vi (.slice at_ S.tx.size ct):=by rw [endB_empty h0,← size_zero h0];exact hbg
 have HR:Hid (Bg w B p ls { S with bs:=endB ns S,tx:=ByteArray.empty } vb vi (.slice at_ S.tx.size ct)):=R
 have HE:Hid (endO S = true):=endO_empty h0
 rw [HE.out]
 clear hbg R
 rw [h0] at c3 HR
 clear h0
 go_enter Tryz.func43,Tryz.ntmps43
 go_wp2
 go_ret
 exact ⟨rfl,⟨_,_,HR.out⟩,Below.refl _ _⟩
set_option maxRecDepth 100000 in
set_option maxHeartbeats 8000000 in
theorem endText_some (B p k b off n cap:Nat) (ns:List Nd) (S:Ps) (vb vi vt:Value) (w:World) (hbg:Bg w B p (.slice (some ⟨b,off,none⟩) n cap) S vb vi vt) (hok:PsW ns k S) (hk:k ≤ n) (hnd:NdAt w B b off n ns) (hwh:WhOk ns) (h0:¬ S.tx.size = 0) :
  Calls Tryz.prog 43 #[.pointer (some ⟨p,0,none⟩)] w fun e w'=>e = .returned (.bool (endO S)) ∧ (∃ vb' vt',Bg w' B p (.slice (some ⟨b,off,none⟩) n cap) { S with bs:=endB ns S,tx:=ByteArray.empty } vb' vi vt') ∧ Below B w w':=by
 obtain ⟨t0,t1⟩:=hok.ti h0
 obtain ⟨t,ht⟩:∃ t:Nat,t = S.ti.toNat:=⟨_,rfl⟩
 have hti:S.ti = (t:Int):=by omega
 have htl:t < S.bs.length:=by omega
 obtain ⟨gb,cb,rfl⟩:=own_some hbg.ob (by omega)
 obtain ⟨gt,ct,rfl⟩:=own_some hbg.ot (by omega)
 obtain ⟨x,hx⟩:∃ x,S.bs[t]? = some x:=⟨_,List.getElem?_eq_getElem htl⟩
 obtain ⟨i,hxi,hik,hiT⟩:=hok.nds t x hx
 have hin:i < ns.length:=by rw [← hnd.len];omega
 obtain ⟨y,hy⟩:∃ y,ns[i]? = some y:=⟨_,List.getElem?_eq_getElem hin⟩
 have hyD:ns.getD i nd0 = y:=by rw [List.getD_eq_getElem?_getD,hy];rfl
 have hwy:inB 1 5 y.st.wh = true:=by rw [← hyD];exact hwh i hin hiT
 have hno:nodeOf S = (i:Int):=by unfold nodeOf;rw [← ht,List.getD_eq_getElem?_getD,hx];exact hxi
 have c0:w.cell? ⟨p,0,none⟩ = some (.slice (some ⟨b,off,none⟩) n cap):=(lies_cell hbg.lies 0).trans rfl
 have c1:w.cell? ⟨p,1,none⟩ = some (.slice (some ⟨gb,0,none⟩) S.bs.length cb):=(lies_cell hbg.lies 1).trans rfl
 have c3:w.cell? ⟨p,3,none⟩ = some (.slice (some ⟨gt,0,none⟩) S.tx.size ct):=(lies_cell hbg.lies 3).trans rfl
 have c4:w.cell? ⟨p,4,none⟩ = some (.int .i64 (t:Int)):=by rw [← hti];exact (lies_cell hbg.lies 4).trans rfl
 have qb:w.cell? ⟨gb,t * 4 + 1,none⟩ = some (.int .i64 (i:Int)):=(hbg.ob.cellAt (t * 4 + 1) (by omega)).trans (flatB_at S.bs t x 1 _ hx (by show some (Value.int .i64 x.nd) = _;rw [hxi]))
 have qy:w.cell? ⟨b,off + i * 28 + 2 + 21,none⟩ = some (.int .i64 y.st.wh):=by have:=hnd.rows i y hy 23 (.int .i64 y.st.wh) rfl;rwa [Nat.add_assoc (off + i * 28) 2 21]
 have lp:=lies_lt hbg.lies
 have kc:=fun W (h:Below w.heap.size w W)=>conv_text (B:=B) (W:=W) rfl (own_keep hbg.ot h)
 have hts:S.tx.size ≤ 8000:=by have:=hok.size;have:=hnd.le;omega
 have KT:=fun W=>implKeep_any y.st.wh S.tx W (by unfold maxLen;omega)
 have hbl:b < w.heap.size:=Nat.lt_of_lt_of_le hnd.lt (Nat.le_trans hbg.hp (Nat.le_of_lt lp))
 have HG:Hid (Bg w B p (.slice (some ⟨b,off,none⟩) n cap) S (.slice (some ⟨gb,0,none⟩) S.bs.length cb) vi (.slice (some ⟨gt,0,none⟩) S.tx.size ct)):=hbg
 have HB:Hid (B ≤ w.heap.size):=Nat.le_trans hbg.hp (Nat.le_of_lt lp)
 have hm:t < S.bs.length:=htl
 have hbl40:S.bs.length ≤ 40:=by have:=hok.many;have:=hnd.le;omega
 have hni:i < n:=by omega
 have hn40:=hnd.le
 have HK:Hid (keepN y.st.wh S.tx = ⟨#[]⟩ ∧ keepB y.st.wh S.tx = endO S ∧ endB ns S = S.bs ∨ ∃ c,¬ c.size = 0 ∧ keepN y.st.wh S.tx = c ∧ keepB y.st.wh S.tx = true ∧ endO S = true ∧ endB ns S = S.bs ++ [⟨2,(i:Int),(t:Int),c⟩]):=by
  show _ ∨ _
  have hD:(ns.getD (nodeOf S).toNat nd0).st.wh = y.st.wh:=by rw [hno,show ((i:Int)).toNat = i by simp,hyD]
  by_cases h2:S.tx.size ≤ 200
  ·obtain ⟨e1,e2⟩:=keepN_ok h2 hwy hok.good
   have hE:endO S = true:=by simp [endO,h2]
   by_cases h3:(keepT y.st.wh S.tx).size = 0
   ·refine .inl ⟨by rw [e1,size_zero h3];rfl,by rw [e2,hE],endB_short h0 (fun _=>by rw [hD];exact h3)⟩
   ·refine .inr ⟨keepT y.st.wh S.tx,h3,e1,e2,hE,?_⟩
    have:=endB_more (ns:=ns) h0 h2 (by rw [hD];exact h3)
    rw [hD,hno,hti] at this
    exact this
  ·obtain ⟨e1,e2⟩:=keepN_long (wh:=y.st.wh) h2
   exact .inl ⟨e1,by rw [e2];simp [endO,h2],endB_short h0 (fun h=>absurd h h2)⟩
 obtain ⟨inf,hinf,hz0,hz1,hz2⟩:=info_parts infoBox
 generalize endO S = eo at HK ⊢
 generalize endB ns S = eb at HK ⊢
 obtain ⟨m,hmm⟩:∃ m,m = S.bs.length:=⟨_,rfl⟩
 obtain ⟨ts,hts'⟩:∃ m,m = S.tx.size:=⟨_,rfl⟩
 rw [← hmm] at c1 HG hm hbl40
 rw [← hts'] at c3 HG kc h0 hts
 have HM:Hid (m = S.bs.length):=hmm
 have HT:Hid (ts = S.tx.size):=hts'
 have HTI:Hid (S.ti = (t:Int)):=hti
 have hts0:¬ ((ts:Int) = 0):=by omega
 clear hbg hok hnd hwh t0 t1 ht hti htl hx hxi hiT hin hyD hwy hno hy hmm hts'
 generalize keepN y.st.wh S.tx = kn at KT HK
 generalize keepB y.st.wh S.tx = kb at KT HK
 generalize hSt:S.tx = st at KT kc
 clear hSt
 generalize y.st.wh = wh at qy KT
 go_enter Tryz.func43,Tryz.ntmps43
 go_wp2_with fail
 go_quiet (fail)
 go_wp2_with fail
 have hgt:gt < w.heap.size:=(HG.out.ot.lt gt rfl).2
 go_region_held3 (fun w'=>w'.cell? ⟨p,0,none⟩ = some (.slice (some ⟨b,off,none⟩) n cap) ∧ w'.cell? ⟨p,3,none⟩ = some (.slice (some ⟨gt,0,none⟩) ts ct) ∧ w'.cell? ⟨b,off + i * 28 + 2 + 21,none⟩ = some (.int .i64 wh) ∧ (convert 22 9 (.slice (some ⟨gt,0,none⟩) ts ct)).run Tryz.prog w' = .ok (.string st) w')
  (first | exact hx | exact ⟨c0,c3,qy,kc _ ⟨rfl,rfl,rfl,Nat.le_refl _,fun _ _=>rfl⟩⟩)
  ((first
   | (go_at_call 69;refine (KT _).mono ?_;rintro e w2 ⟨rfl,hb⟩;have hb':Below w.heap.size w w2:=⟨hb.os,hb.tape,hb.output,hb.size,hb.block⟩;have hx:=And.intro ((hb'.cell (p:=⟨p,0,none⟩) lp).trans c0) (And.intro ((hb'.cell (p:=⟨p,3,none⟩) lp).trans c3) (And.intro ((hb'.cell (p:=⟨b,off + i * 28 + 2 + 21,none⟩) hbl).trans qy) (kc w2 hb'))))
   | fail))
 have G2:=HG.out.keep hb'
 have B2:Below B w w2:=hb'.mono HB.out
 have d1:w2.cell? ⟨p,1,none⟩ = some (.slice (some ⟨gb,0,none⟩) m cb):=(lies_cell G2.lies 1).trans rfl
 have d3:w2.cell? ⟨p,3,none⟩ = some (.slice (some ⟨gt,0,none⟩) ts ct):=(lies_cell G2.lies 3).trans rfl
 have d4:w2.cell? ⟨p,4,none⟩ = some (.int .i64 (t:Int)):=by rw [← HTI.out];exact (lies_cell G2.lies 4).trans rfl
 have fz:∀ j,w2.frozen? ⟨p,j,none⟩ = false:=fun j=>Lib.frozen_of_heap G2.lies j
 have HG2:Hid (Bg w2 B p (.slice (some ⟨b,off,none⟩) n cap) S (.slice (some ⟨gb,0,none⟩) m cb) vi (.slice (some ⟨gt,0,none⟩) ts ct)):=G2
 have hB2:B ≤ w2.heap.size:=Nat.le_trans HB.out hb'.size
 have lp2:p < w2.heap.size:=lies_lt G2.lies
 clear hb hb' hx kc KT c0 c1 c3 c4 qb qy G2 HG HB lp hbl hgt
 rcases HK.out with ⟨rfl,rfl,he⟩ | ⟨c,hne,rfl,rfl,rfl,he⟩
 ·subst he
  have R:=Bg.putT (vt':=.slice (some ⟨gt,0,none⟩) 0 ct) (t:=ByteArray.empty) HG2.out (grown_refl _ _) (by have h:=HG2.out.ot;rw [← HT.out] at h;exact own_zero h)
  have RB:=B2.setCell (p:=⟨p,3,none⟩) HG2.out.hp (.slice (some ⟨gt,0,none⟩) 0 ct)
  have HRR:Hid (_ ∧ _):=And.intro R RB
  clear HK R RB
  have fz3:=fz 3
  go_wp2
  go_ret
  exact ⟨rfl,⟨_,_,HRR.out.1⟩,HRR.out.2⟩
 ·subst he
  clear HK
  have hke:kn.toList.isEmpty = false:=by rw [← Bool.not_eq_true,ByteArray.toList_eq,List.isEmpty_iff_length_eq_zero];simpa using hne
  have G2:=HG2.out
  have ltb:gb < w2.heap.size:=(G2.ob.lt gb rfl).2
  have neb:gb ≠ p:=fun e=>own_ne G2.ob G2.lies (by decide) (congrArg some e)
  have ow:∀ W:World,W.heap = (w2.alloc (.cells #[.int .i64 2,.int .i64 (i:Int),.int .i64 (t:Int),.string kn] 41)).heap → W.ownsRow B 41 4 (.slice (some ⟨gb,0,none⟩) m cb) m (flatB S.bs):=fun W hW=>by
   have:=G2.ob.alloc (.cells #[.int .i64 2,.int .i64 (i:Int),.int .i64 (t:Int),.string kn] 41)
   rw [← HM.out] at this
   unfold World.ownsRow at this ⊢
   rw [hW]
   exact this
  have HOW:Hid (∀ W:World,W.heap = (w2.alloc (.cells #[.int .i64 2,.int .i64 (i:Int),.int .i64 (t:Int),.string kn] 41)).heap → W.ownsRow B 41 4 (.slice (some ⟨gb,0,none⟩) m cb) m (flatB S.bs)):=ow
  have one4:∀ u ∈ [Value.int .i64 2,.int .i64 (i:Int),.int .i64 (t:Int),.string kn],u.oneCell' = true:=by
   intro u hu
   simp only [List.mem_cons,List.not_mem_nil,or_false] at hu
   rcases hu with rfl | rfl | rfl | rfl <;> rfl
  have H1:Hid (∀ u ∈ [Value.int .i64 2,.int .i64 (i:Int),.int .i64 (t:Int),.string kn],u.oneCell' = true):=one4
  have nw:∀ W:World,W.heap = (w2.alloc (.cells #[.int .i64 2,.int .i64 (i:Int),.int .i64 (t:Int),.string kn] 41)).heap → ∀ j u,[Value.int .i64 2,.int .i64 (i:Int),.int .i64 (t:Int),.string kn][j]? = some u → W.cell? ((⟨w2.heap.size,0,none⟩:Addr).add j) = some u:=fun W hW =>
   World.news_of_block (cs:=#[.int .i64 2,.int .i64 (i:Int),.int .i64 (t:Int),.string kn]) (t:=41) (fr:=(0,0)) (by rw [hW];exact heap_at _ _ _ rfl)
  have HNW:Hid (∀ W:World,W.heap = (w2.alloc (.cells #[.int .i64 2,.int .i64 (i:Int),.int .i64 (t:Int),.string kn] 41)).heap → ∀ j u,[Value.int .i64 2,.int .i64 (i:Int),.int .i64 (t:Int),.string kn][j]? = some u → W.cell? ((⟨w2.heap.size,0,none⟩:Addr).add j) = some u):=nw
  have l2:Hid (∀ W w3:World,W.grownBy w3 (some gb) → W.heap = (w2.alloc (.cells #[.int .i64 2,.int .i64 (i:Int),.int .i64 (t:Int),.string kn] 41)).heap → w3.heap[p]? = some (.cells #[.slice (some ⟨b,off,none⟩) n cap,.slice (some ⟨gb,0,none⟩) m cb,vi,.slice (some ⟨gt,0,none⟩) ts ct,.int .i64 S.ti] 95 (0,0))):=by
   show ∀ W w3:World,_
   intro W w3 hg hW
   have:W.heap[p]? = _:=(congrArg (fun h=>h[p]?) hW).trans (heap_in G2.lies)
   exact (hg.block p (lies_lt this) (fun e=>neb (by simpa using e.symm))).trans this
  have gb2:Hid (∀ W w3:World,∀ v',W.grownBy w3 (some gb) → w3.ownsRow B 41 4 v' (m + 1) (flatB S.bs ++ [.int .i64 2,.int .i64 (i:Int),.int .i64 (t:Int),.string kn]) → W.heap = (w2.alloc (.cells #[.int .i64 2,.int .i64 (i:Int),.int .i64 (t:Int),.string kn] 41)).heap → W.os = w2.os → W.tape = w2.tape → W.output = w2.output → Bg (w3.setCell ⟨p,1,none⟩ v') B p (.slice (some ⟨b,off,none⟩) n cap) { S with bs:=S.bs ++ [⟨2,(i:Int),(t:Int),kn⟩] } v' vi (.slice (some ⟨gt,0,none⟩) ts ct) ∧ Below B w (w3.setCell ⟨p,1,none⟩ v')):=by
   show ∀ W w3:World,_
   intro W w3 v' hg hown hW ho ht hp
   have bW:Below w2.heap.size w2 W:=⟨ho,ht,hp,by rw [hW];simp,fun k hk=>by rw [hW];exact heap_alloc_old w2 _ hk⟩
   have GW:=G2.keep bW
   refine ⟨GW.putB (bs':=S.bs ++ [⟨2,(i:Int),(t:Int),kn⟩]) hg (by rw [flatB_snoc,List.length_append,← HM.out];exact hown),?_⟩
   exact (((B2.trans (bW.mono hB2))).grown hg (Nat.le_trans hB2 bW.size) (fun k hk=>by cases hk;exact (G2.ob.lt gb rfl).1)).setCell (p:=⟨p,1,none⟩) G2.hp _
  have HB2:Hid (Below B w w2):=B2
  have hti:=HTI.out
  have HTI2:Hid (S.ti = (t:Int)):=hti
  have fz1:=fz 1
  have fz3:=fz 3
  clear G2 ow nw B2 fz hti one4
  go_wp2_with fail
  go_region_law (refine step_append_lies _ (by rfl) _ _ _ (by rfl) B 41 inf _ 4 40 Tryz.underlying24 hinf hz0 hz1 hz2 rfl (by omega) (.slice (some ⟨gb,0,none⟩) m cb) m (flatB S.bs) (by rfl) (HOW.out _ rfl) ⟨w2.heap.size,0,none⟩ 1 1 [.int .i64 2,.int .i64 (i:Int),.int .i64 (t:Int),.string kn] (by rfl) (by rfl) (HNW.out _ rfl) H1.out (by omega) (by unfold maxLen;omega) (by omega) (by simp;omega) _ rfl ?_;intro g9 cap9 w3 hown3 hgrow3 hat3 hlt3;have l3:=l2.out _ w3 hgrow3 rfl;have e1:w3.cell? ⟨p,1,none⟩ = some (.slice (some ⟨gb,0,none⟩) m cb):=(lies_cell l3 1).trans rfl;have f1:w3.frozen? ⟨p,1,none⟩ = false:=Lib.frozen_of_heap l3 1;have GG:=gb2.out _ w3 _ hgrow3 hown3 rfl rfl rfl rfl)
  all_goals
   obtain ⟨G4,B4⟩:=GG
   clear l3 e1 f1 hown3 hgrow3 hat3 hlt3 HOW H1 HNW l2 gb2 d1 d3 d4 fz1 fz3 HG2 HB2
   generalize World.setCell w3 _ _ = w4 at G4 B4 ⊢
   have d3:w4.cell? ⟨p,3,none⟩ = some (.slice (some ⟨gt,0,none⟩) ts ct):=(lies_cell G4.lies 3).trans rfl
   have fz3:w4.frozen? ⟨p,3,none⟩ = false:=Lib.frozen_of_heap G4.lies 3
   have R:=Bg.putT (vt':=.slice (some ⟨gt,0,none⟩) 0 ct) (t:=ByteArray.empty) G4 (grown_refl _ _) (by have h:=G4.ot;simp only at h;rw [← HT.out] at h;exact own_zero h)
   have RB:=B4.setCell (p:=⟨p,3,none⟩) G4.hp (.slice (some ⟨gt,0,none⟩) 0 ct)
   have HRR:Hid (_ ∧ _):=And.intro R RB
   clear R RB G4 B4
   go_wp2
   go_ret
   exact ⟨rfl,⟨_,_,HRR.out.1⟩,HRR.out.2⟩
theorem endText_any (B p k b off n cap:Nat) (ns:List Nd) (S:Ps) (vb vi vt:Value) (w:World) (hbg:Bg w B p (.slice (some ⟨b,off,none⟩) n cap) S vb vi vt) (hok:PsW ns k S) (hk:k ≤ n) (hnd:NdAt w B b off n ns) (hwh:WhOk ns) :
  Calls Tryz.prog 43 #[.pointer (some ⟨p,0,none⟩)] w fun e w'=>e = .returned (.bool (endO S)) ∧ (∃ vb' vt',Bg w' B p (.slice (some ⟨b,off,none⟩) n cap) { S with bs:=endB ns S,tx:=ByteArray.empty } vb' vi vt') ∧ Below B w w':=by
 by_cases h0:S.tx.size = 0
 ·exact endText_none B p k n _ ns S vb vi vt w hbg h0
 ·exact endText_some B p k b off n cap ns S vb vi vt w hbg hok hk hnd hwh h0
theorem bgInfo5:∃ i0,Tryz.prog.info? 5 = some i0 ∧ i0.zero = some (.int .u8 0) ∧ i0.size = 1 ∧ i0.bytes = 1:=info_parts (by kernel_rfl)
theorem str_app (a b:ByteArray):Lib.strCells a ++ Lib.strCells b = Lib.strCells (a ++ b):=by simp [Lib.strCells]
set_option maxRecDepth 100000 in
set_option maxHeartbeats 4000000 in
theorem addText_same (B p:Nat) (ls:Value) (S:Ps) (vb vi vt:Value) (tx:ByteArray) (w:World) (hbg:Bg w B p ls S vb vi vt) (h1:S.tx.size ≤ 8000) (h2:tx.size ≤ 200) :
  Calls Tryz.prog 68 #[.pointer (some ⟨p,0,none⟩),.int .i64 S.ti,.string tx] w fun e w'=>e = .returned (.bool true) ∧ (∃ vt',Bg w' B p ls { S with tx:=S.tx ++ tx } vb vi vt') ∧ Below B w w':=by
 obtain ⟨i0,hi,hz0,hz1,hz2⟩:=bgInfo5
 obtain ⟨at_,ct,rfl⟩:=own_form hbg.ot
 have c3:w.cell? ⟨p,3,none⟩ = some (.slice at_ S.tx.size ct):=(lies_cell hbg.lies 3).trans rfl
 have c4:w.cell? ⟨p,4,none⟩ = some (.int .i64 S.ti):=(lies_cell hbg.lies 4).trans rfl
 have f4:w.frozen? ⟨p,4,none⟩ = false:=Lib.frozen_of_heap hbg.lies 4
 have lp:=lies_lt hbg.lies
 have G1:=hbg.putN S.ti
 have G1':Bg (w.setCell ⟨p,4,none⟩ (.int .i64 S.ti)) B p ls S vb vi (.slice at_ S.tx.size ct):=G1
 have HG:Hid (Bg (w.setCell ⟨p,4,none⟩ (.int .i64 S.ti)) B p ls S vb vi (.slice at_ S.tx.size ct)):=G1'
 have HB:Hid (Below B w (w.setCell ⟨p,4,none⟩ (.int .i64 S.ti))):=(Below.refl B w).setCell (p:=⟨p,4,none⟩) hbg.hp _
 have e3:(w.setCell ⟨p,4,none⟩ (.int .i64 S.ti)).cell? ⟨p,3,none⟩ = some (.slice at_ S.tx.size ct):=(lies_cell G1'.lies 3).trans rfl
 have hBs:B ≤ w.heap.size:=Nat.le_trans hbg.hp (Nat.le_of_lt lp)
 clear hbg G1 G1'
 go_enter Tryz.func68,Tryz.ntmps68
 go_wp2_with (at_builtin;refine Lib.wpList_append_own_string _ rfl _ _ 22 9 rfl B 5 i0 Tryz.underlying22 Tryz.underlying9 hi hz0 hz1 hz2 _ _ _ rfl HG.out.ot tx rfl ?q3 ?q4 ?q5 ?_)
 case q3=>unfold maxLen;omega
 case q4=>omega
 case q5=>simpa using hBs
 intro v' w2 hown' hgrow _
 obtain ⟨a2,c2,rfl⟩:=own_form hown'
 have lp2:w2.heap[p]? = _:=(hgrow.block p (lies_lt HG.out.lies) (fun e=>own_ne HG.out.ot HG.out.lies (by decide) e.symm)).trans HG.out.lies
 have d3:w2.cell? ⟨p,3,none⟩ = some (.slice at_ S.tx.size ct):=(lies_cell lp2 3).trans rfl
 have f3:w2.frozen? ⟨p,3,none⟩ = false:=Lib.frozen_of_heap lp2 3
 have R:=Bg.putT (vt':=.slice a2 (S.tx.size + tx.size) c2) (t:=S.tx ++ tx) HG.out hgrow (by rw [ByteArray.size_append,← str_app];exact hown')
 have RB:=(HB.out.grown hgrow (Nat.le_trans hBs HB.out.size) (fun k hk=>(HG.out.ot.lt k hk).1)).setCell (p:=⟨p,3,none⟩) HG.out.hp (.slice a2 (S.tx.size + tx.size) c2)
 have HR:Hid (_ ∧ _):=And.intro R RB
 clear R RB HG HB hown' hgrow lp2 e3 c3 c4
 go_wp2
 go_ret
 exact ⟨rfl,⟨_,HR.out.1⟩,HR.out.2⟩
set_option maxRecDepth 100000 in
set_option maxHeartbeats 4000000 in
theorem addText_other (B p k b off n cap:Nat) (ns:List Nd) (S:Ps) (vb vi vt:Value) (z:Int) (tx:ByteArray) (w:World) (hbg:Bg w B p (.slice (some ⟨b,off,none⟩) n cap) S vb vi vt) (hok:PsW ns k S) (hk:k ≤ n) (hnd:NdAt w B b off n ns) (hwh:WhOk ns) (hz:¬ z = S.ti) (h2:tx.size ≤ 200) :
  Calls Tryz.prog 68 #[.pointer (some ⟨p,0,none⟩),.int .i64 z,.string tx] w fun e w'=>e = .returned (.bool (endO S)) ∧ (∃ vb' vt',Bg w' B p (.slice (some ⟨b,off,none⟩) n cap) { S with bs:=endB ns S,tx:=tx,ti:=z } vb' vi vt') ∧ Below B w w':=by
 obtain ⟨i0,hi,hz0,hz1,hz2⟩:=bgInfo5
 have ET:=endText_any B p k b off n cap ns S vb vi vt w hbg hok hk hnd hwh
 have c4:w.cell? ⟨p,4,none⟩ = some (.int .i64 S.ti):=(lies_cell hbg.lies 4).trans rfl
 have lp:=lies_lt hbg.lies
 have hBs:B ≤ w.heap.size:=Nat.le_trans hbg.hp (Nat.le_of_lt lp)
 have hzb:(z == S.ti) = false:=by simpa using hz
 generalize endO S = eo at ET ⊢
 generalize endB ns S = eb at ET ⊢
 clear hbg hok hnd hwh
 go_enter Tryz.func68,Tryz.ntmps68
 go_wp2_with fail
 refine ET.mono ?_
 rintro e w1 ⟨rfl,⟨vb',vt',G⟩,B1⟩
 clear ET c4
 obtain ⟨at_,ct,rfl⟩:=own_form G.ot
 have hp:=G.hp
 have c4:w1.cell? ⟨p,4,none⟩ = some (.int .i64 S.ti):=(lies_cell G.lies 4).trans rfl
 have f4:w1.frozen? ⟨p,4,none⟩ = false:=Lib.frozen_of_heap G.lies 4
 have G1:=G.putN z
 have B2:=B1.setCell (p:=⟨p,4,none⟩) hp (.int .i64 z)
 have HG:Hid (Bg (w1.setCell ⟨p,4,none⟩ (.int .i64 z)) B p (.slice (some ⟨b,off,none⟩) n cap) { S with bs:=eb,tx:=ByteArray.empty,ti:=z } vb' vi (.slice at_ 0 ct)):=G1
 have HB:Hid (Below B w (w1.setCell ⟨p,4,none⟩ (.int .i64 z))):=B2
 have e3:(w1.setCell ⟨p,4,none⟩ (.int .i64 z)).cell? ⟨p,3,none⟩ = some (.slice at_ 0 ct):=(lies_cell G1.lies 3).trans rfl
 have hB1:B ≤ w1.heap.size:=Nat.le_trans hBs B1.size
 clear G G1 B1 B2
 go_wp2_with (at_builtin;refine Lib.wpList_append_own_string _ rfl _ _ 22 9 rfl B 5 i0 Tryz.underlying22 Tryz.underlying9 hi hz0 hz1 hz2 _ _ _ rfl HG.out.ot tx rfl ?q3 ?q4 ?q5 ?_)
 case q3=>unfold maxLen;omega
 case q4=>omega
 case q5=>simpa using hB1
 intro v' w2 hown' hgrow _
 obtain ⟨a2,c2,rfl⟩:=own_form hown'
 have lp2:w2.heap[p]? = _:=(hgrow.block p (lies_lt HG.out.lies) (fun e=>own_ne HG.out.ot HG.out.lies (by decide) e.symm)).trans HG.out.lies
 have d3:w2.cell? ⟨p,3,none⟩ = some (.slice at_ 0 ct):=(lies_cell lp2 3).trans rfl
 have f3:w2.frozen? ⟨p,3,none⟩ = false:=Lib.frozen_of_heap lp2 3
 have hown2:w2.ownsRow B 5 1 (.slice a2 tx.size c2) tx.size (Lib.strCells tx):=hown'
 have R:=Bg.putT (t:=tx) HG.out hgrow hown2
 have RB:=(HB.out.grown hgrow (Nat.le_trans hBs HB.out.size) (fun k hk=>(HG.out.ot.lt k hk).1)).setCell (p:=⟨p,3,none⟩) HG.out.hp (.slice a2 tx.size c2)
 have HR:Hid (_ ∧ _):=And.intro R RB
 clear R RB HG HB hown' hown2 hgrow lp2 e3 c4
 go_wp2
 go_ret
 exact ⟨rfl,⟨_,_,HR.out.1⟩,HR.out.2⟩
theorem range_drewN {W:World} {g o k:Nat} {cs:List Value} (h:W.rangeAt g o cs):(W.drewN k).rangeAt g o cs:=fun j v hj=>h j v hj
theorem bgInfo3:∃ i0,Tryz.prog.info? 3 = some i0 ∧ i0.zero = some (.int .i64 0) ∧ i0.size = 1 ∧ i0.bytes = 8:=info_parts (by kernel_rfl)
theorem getI {ns:List Nd} {k:Nat} {x:Nd} (h:ns[k]? = some x):upL ns k = x.up ∧ isT ns k = zeroS x.st ∧ ns.getD k nd0 = x:=by
 have e:=getD_of h
 exact ⟨by unfold upL;rw [e],by unfold isT;rw [e],e⟩
theorem snocI {w:World} {B n:Nat} {v:Value} {zs:List Int} {z:Int} (hn:n = zs.length) (h:w.ownsRow B 3 1 v (n + 1) (zs.map (Value.int .i64) ++ [.int .i64 z])):w.ownsRow B 3 1 v (zs ++ [z]).length ((zs ++ [z]).map (Value.int .i64)):=by
 subst hn
 rw [List.length_append,List.map_append]
 exact h
set_option maxRecDepth 100000 in
set_option maxHeartbeats 8000000 in
theorem take_gone1 (B p i b off n cap:Nat) (ns:List Nd) (S:Ps) (vb vi vt:Value) (w:World) (hbg:Bg w B p (.slice (some ⟨b,off,none⟩) n cap) S vb vi vt) (hok:PsOk ns i S) (hns:NsOk ns) (hi:i < n) (hnd:NdAt w B b off n ns) (hwh:WhOk ns) (hS:S.ok = true) (h0:0 < i) (ha:arP ns S i = -1) :
  Calls Tryz.prog 42 #[.pointer (some ⟨p,0,none⟩),.int .i64 (i:Int)] w fun e w'=>e = .returned (.bool (takeP ns S i).ok) ∧ (∃ vb' vi' vt',Bg w' B p (.slice (some ⟨b,off,none⟩) n cap) (takeP ns S i) vb' vi' vt') ∧ Below B w w':=by
 obtain ⟨i0,hinf,hz0,hz1,hz2⟩:=bgInfo3
 have hin:i < ns.length:=by rw [← hnd.len];exact hi
 obtain ⟨y,hy⟩:∃ y,ns[i]? = some y:=⟨_,List.getElem?_eq_getElem hin⟩
 obtain ⟨gU,gT,gD⟩:=getI hy
 have HT:Hid (takeP ns S i = { S with inn:=S.inn ++ [-1] }):=by
  show _ = _
  unfold takeP
  rw [if_pos (by unfold goneP;rw [decide_eq_true_eq];exact Or.inl ⟨h0,ha⟩)]
 rw [HT.out]
 show Calls _ _ _ _ fun e w'=>e = .returned (.bool S.ok) ∧ _
 rw [hS]
 clear HT
 have hr:=hnd.rows i y hy
 have hn40:=hnd.le
 have lp:=lies_lt hbg.lies
 have hBs:B ≤ w.heap.size:=Nat.le_trans hbg.hp (Nat.le_of_lt lp)
 have c0:w.cell? ⟨p,0,none⟩ = some (.slice (some ⟨b,off,none⟩) n cap):=(lies_cell hbg.lies 0).trans rfl
 have BK:=fun W=>boxKind_any y.st W
 have TX:=fun W=>implIsText_any y W
 obtain ⟨u,hu,eu,_⟩:=(hns.stands i hin).ups h0
 have hyu:y.up = (u:Int):=by rw [← gU];exact eu
 have hin':S.inn.length = i:=hok.len
 obtain ⟨gi,ci,hvi⟩:=own_some hbg.oi (by omega)
 rw [hin'] at hvi
 subst hvi
 have hoi:=hbg.oi
 rw [hin'] at hoi
 have HAR:Hid (arP ns S i = S.inn.getD u 0):=by show _ = _;unfold arP;rw [gU,hyu,if_pos (by omega)];rfl
 obtain ⟨ar,har0⟩:∃ ar,ar = S.inn.getD u 0:=⟨_,rfl⟩
 have HA2:Hid (arP ns S i = ar):=HAR.out.trans har0.symm
 rw [HA2.out] at ha
 have qi:w.cell? ⟨gi,u,none⟩ = some (.int .i64 ar):=by
  have h:=(hoi.cellAt u (by omega))
  rw [h,List.getElem?_map,har0,List.getD_eq_getElem?_getD,List.getElem?_eq_getElem (by omega)]
  rfl
 have lgi:gi < w.heap.size:=(hbg.oi.lt gi rfl).2
 clear har0 hoi eu HAR
 have c2w:w.cell? ⟨p,2,none⟩ = some (.slice (some ⟨gi,0,none⟩) i ci):=(lies_cell hbg.lies 2).trans rfl
 have hui:(u:Int) < (i:Int):=by omega
 have HG:Hid (Bg w B p (.slice (some ⟨b,off,none⟩) n cap) S vb (.slice (some ⟨gi,0,none⟩) i ci) vt):=hbg
 clear hbg
 go_enter Tryz.func42,Tryz.ntmps42
 go_wp2_with (first
  | (with_reducible show wpList _ _ _ (⟨some 15,Op.load 75 _,_,_,_,_⟩ :: _) _ _;refine wpList_load_mid rfl 75 _ rfl b (off + i * 28) rfl (ndL y) _ hr Tryz.underlying75 rfl (by kernel_rfl) ?_)
  | (with_reducible show wpList _ _ _ (⟨none,Op.store 75 _ _,_,_,_,_⟩ :: _) _ _;refine wpList_store_box rfl 75 _ _ rfl rfl (#[.int .i64 y.up,.string y.tx,.int .i64 y.st.sh,.int .i64 y.st.fl,.int .i64 y.st.cl,.bool y.st.w.a,.bool y.st.w.p,.int .i64 y.st.w.n,.bool y.st.h.a,.bool y.st.h.p,.int .i64 y.st.h.n,.int .i64 y.st.mn,.int .i64 y.st.mx,.int .i64 y.st.mt,.bool y.st.mr.a,.bool y.st.mr.p,.int .i64 y.st.mr.n,.int .i64 y.st.mb,.bool y.st.ml.a,.bool y.st.ml.p,.int .i64 y.st.ml.n,.int .i64 y.st.bo,.int .i64 y.st.pa,.int .i64 y.st.wh,.int .i64 y.st.al,.int .i64 y.st.lh,.int .i64 y.st.ri,.int .i64 y.st.dn]) rfl rfl (by kernel_rfl) rfl (by kernel_rfl) ?_;intro W bel l0 hsz;refine stay ?_)
  | fail)
 unfold Stay
 have cu:W.cell? ⟨w.heap.size,0,none⟩ = some (.int .i64 ((u:Int))):=(lies_cell l0 0).trans (by rw [hyu];rfl)
 have RS:Hid (W.rangeAt w.heap.size 2 (stCells y.st).toList):=fun j v hj=>(lies_cell l0 (2 + j)).trans (by rw [← hj,show (stCells y.st).toList = (#[.int .i64 y.up,.string y.tx,.int .i64 y.st.sh,.int .i64 y.st.fl,.int .i64 y.st.cl,.bool y.st.w.a,.bool y.st.w.p,.int .i64 y.st.w.n,.bool y.st.h.a,.bool y.st.h.p,.int .i64 y.st.h.n,.int .i64 y.st.mn,.int .i64 y.st.mx,.int .i64 y.st.mt,.bool y.st.mr.a,.bool y.st.mr.p,.int .i64 y.st.mr.n,.int .i64 y.st.mb,.bool y.st.ml.a,.bool y.st.ml.p,.int .i64 y.st.ml.n,.int .i64 y.st.bo,.int .i64 y.st.pa,.int .i64 y.st.wh,.int .i64 y.st.al,.int .i64 y.st.lh,.int .i64 y.st.ri,.int .i64 y.st.dn]:Array Value).toList.drop 2 from rfl,List.getElem?_drop];simp)
 have cp2:W.cell? ⟨p,2,none⟩ = some (.slice (some ⟨gi,0,none⟩) i ci):=(bel.cell (p:=⟨p,2,none⟩) lp).trans c2w
 have cgi:W.cell? ⟨gi,u,none⟩ = some (.int .i64 ar):=(bel.cell (p:=⟨gi,u,none⟩) lgi).trans qi
 have HL0:Hid (W.heap[w.heap.size]? = some (.cells (#[.int .i64 y.up,.string y.tx,.int .i64 y.st.sh,.int .i64 y.st.fl,.int .i64 y.st.cl,.bool y.st.w.a,.bool y.st.w.p,.int .i64 y.st.w.n,.bool y.st.h.a,.bool y.st.h.p,.int .i64 y.st.h.n,.int .i64 y.st.mn,.int .i64 y.st.mx,.int .i64 y.st.mt,.bool y.st.mr.a,.bool y.st.mr.p,.int .i64 y.st.mr.n,.int .i64 y.st.mb,.bool y.st.ml.a,.bool y.st.ml.p,.int .i64 y.st.ml.n,.int .i64 y.st.bo,.int .i64 y.st.pa,.int .i64 y.st.wh,.int .i64 y.st.al,.int .i64 y.st.lh,.int .i64 y.st.ri,.int .i64 y.st.dn]) 75 (0,0))):=l0
 clear l0 qi c2w hr c0
 go_wp2_with fail
 go_quiet (fail)
 go_wp2_with (first
  | (with_reducible show wpList _ _ _ (⟨some 28,Op.load 73 _,_,_,_,_⟩ :: _) _ _;refine wpList_load_mid rfl 73 _ rfl w.heap.size 2 rfl (stCells y.st).toList _ (range_drewN RS.out) Tryz.underlying73 rfl (by kernel_rfl) ?_)
  | fail)
 refine (BK _).mono ?_
 rintro e w2 ⟨rfl,hb⟩
 have hbW:Below W.heap.size W w2:=⟨hb.os,hb.tape,hb.output,hb.size,hb.block⟩
 have b2:Below w.heap.size w w2:=bel.trans (hbW.mono bel.size)
 have G2:=HG.out.keep b2
 have l2:Hid (w2.heap[w.heap.size]? = some (.cells (#[.int .i64 y.up,.string y.tx,.int .i64 y.st.sh,.int .i64 y.st.fl,.int .i64 y.st.cl,.bool y.st.w.a,.bool y.st.w.p,.int .i64 y.st.w.n,.bool y.st.h.a,.bool y.st.h.p,.int .i64 y.st.h.n,.int .i64 y.st.mn,.int .i64 y.st.mx,.int .i64 y.st.mt,.bool y.st.mr.a,.bool y.st.mr.p,.int .i64 y.st.mr.n,.int .i64 y.st.mb,.bool y.st.ml.a,.bool y.st.ml.p,.int .i64 y.st.ml.n,.int .i64 y.st.bo,.int .i64 y.st.pa,.int .i64 y.st.wh,.int .i64 y.st.al,.int .i64 y.st.lh,.int .i64 y.st.ri,.int .i64 y.st.dn]) 75 (0,0))):=below_lies hbW HL0.out (by omega)
 have B2:Below B w w2:=b2.mono hBs
 have s0:w2.cell? ⟨w.heap.size,2,none⟩ = some (.int .i64 y.st.sh):=(lies_cell l2.out 2).trans rfl
 have s1:w2.cell? ⟨w.heap.size,1,none⟩ = some (.string y.tx):=(lies_cell l2.out 1).trans rfl
 have c2:w2.cell? ⟨p,2,none⟩ = some (.slice (some ⟨gi,0,none⟩) i ci):=(lies_cell G2.lies 2).trans rfl
 have f2:w2.frozen? ⟨p,2,none⟩ = false:=Lib.frozen_of_heap G2.lies 2
 have lw:w.heap.size < w2.heap.size:=lies_lt l2.out
 clear hb hbW HL0 RS cu cp2 cgi bel HG BK b2
 have hi0:(0:Int) < (i:Int):=by omega
 subst ha
 have HG2:Hid (Bg w2 B p (.slice (some ⟨b,off,none⟩) n cap) S vb (.slice (some ⟨gi,0,none⟩) i ci) vt):=G2
 have o2:w2.ownsRow B 3 1 (.slice (some ⟨gi,0,none⟩) i ci) i (S.inn.map (Value.int .i64)):=by have h:=HG2.out.oi;rw [hin'] at h;exact h
 have hBw:B ≤ w2.heap.size:=Nat.le_trans hBs B2.size
 have HB2:Hid (Below B w w2):=B2
 clear G2 B2
 go_wp2_with (at_builtin;refine wpList_append_own_at _ rfl (.tmp 47) (.tmp 48) 69 rfl B 3 i0 (.int .i64 0) 1 8 Tryz.underlying69 hinf hz0 hz1 hz2 rfl (by decide) _ _ _ rfl (o2.alloc _) ⟨w2.heap.size,0,none⟩ 1 1 [.int .i64 (-1)] rfl rfl (cell_one_new _ _ _) (one_i64 _) (by unfold maxLen;omega) (by omega) (by simp;omega) ?_)
 intro v' w3 hown3 hgrow3 _ _
 obtain ⟨a3,k3,rfl⟩:=own_form hown3
 have GA:=HG2.out.keep ((Below.refl _ _).alloc (Nat.le_refl _) (.cells #[.int .i64 (-1)] 3))
 have l3:w3.heap[p]? = _:=(hgrow3.block p (lies_lt GA.lies) (fun e=>own_ne GA.oi GA.lies (by decide) e.symm)).trans GA.lies
 have d2:w3.cell? ⟨p,2,none⟩ = some (.slice (some ⟨gi,0,none⟩) i ci):=(lies_cell l3 2).trans rfl
 have g2:w3.frozen? ⟨p,2,none⟩ = false:=Lib.frozen_of_heap l3 2
 have R:=GA.putI (l:=S.inn ++ [-1]) hgrow3 (snocI hin'.symm hown3)
 have RB:=((HB2.out.alloc hBw _).grown hgrow3 (by simp;omega) (fun k hk=>(GA.oi.lt k hk).1)).setCell (p:=⟨p,2,none⟩) GA.hp (.slice a3 (i + 1) k3)
 have HR:Hid (_ ∧ _):=And.intro R RB
 clear R RB GA l3 hown3 hgrow3 o2 HG2 HB2
 go_wp2
 go_ret
 refine ⟨rfl,?_,HR.out.2⟩
 have h:=HR.out.1
 rw [hS] at h
 exact ⟨_,_,_,h⟩
set_option maxRecDepth 100000 in
set_option maxHeartbeats 8000000 in
theorem take_gone2 (B p i b off n cap:Nat) (ns:List Nd) (S:Ps) (vb vi vt:Value) (w:World) (hbg:Bg w B p (.slice (some ⟨b,off,none⟩) n cap) S vb vi vt) (hok:PsOk ns i S) (hns:NsOk ns) (hi:i < n) (hnd:NdAt w B b off n ns) (hwh:WhOk ns) (hS:S.ok = true) (h0:0 < i) (ha:¬ arP ns S i = -1) (h3:(ns.getD i nd0).st.sh = 3) :
  Calls Tryz.prog 42 #[.pointer (some ⟨p,0,none⟩),.int .i64 (i:Int)] w fun e w'=>e = .returned (.bool (takeP ns S i).ok) ∧ (∃ vb' vi' vt',Bg w' B p (.slice (some ⟨b,off,none⟩) n cap) (takeP ns S i) vb' vi' vt') ∧ Below B w w':=by
 obtain ⟨i0,hinf,hz0,hz1,hz2⟩:=bgInfo3
 have hin:i < ns.length:=by rw [← hnd.len];exact hi
 obtain ⟨y,hy⟩:∃ y,ns[i]? = some y:=⟨_,List.getElem?_eq_getElem hin⟩
 obtain ⟨gU,gT,gD⟩:=getI hy
 have HT:Hid (takeP ns S i = { S with inn:=S.inn ++ [-1] }):=by
  show _ = _
  unfold takeP
  rw [if_pos (by unfold goneP;rw [decide_eq_true_eq];exact Or.inr h3)]
 rw [HT.out]
 show Calls _ _ _ _ fun e w'=>e = .returned (.bool S.ok) ∧ _
 rw [hS]
 clear HT
 rw [gD] at h3
 have hr:=hnd.rows i y hy
 have hn40:=hnd.le
 have lp:=lies_lt hbg.lies
 have hBs:B ≤ w.heap.size:=Nat.le_trans hbg.hp (Nat.le_of_lt lp)
 have c0:w.cell? ⟨p,0,none⟩ = some (.slice (some ⟨b,off,none⟩) n cap):=(lies_cell hbg.lies 0).trans rfl
 have BK:=fun W=>boxKind_any y.st W
 have TX:=fun W=>implIsText_any y W
 obtain ⟨u,hu,eu,_⟩:=(hns.stands i hin).ups h0
 have hyu:y.up = (u:Int):=by rw [← gU];exact eu
 have hin':S.inn.length = i:=hok.len
 obtain ⟨gi,ci,hvi⟩:=own_some hbg.oi (by omega)
 rw [hin'] at hvi
 subst hvi
 have hoi:=hbg.oi
 rw [hin'] at hoi
 have HAR:Hid (arP ns S i = S.inn.getD u 0):=by show _ = _;unfold arP;rw [gU,hyu,if_pos (by omega)];rfl
 obtain ⟨ar,har0⟩:∃ ar,ar = S.inn.getD u 0:=⟨_,rfl⟩
 have HA2:Hid (arP ns S i = ar):=HAR.out.trans har0.symm
 rw [HA2.out] at ha
 have qi:w.cell? ⟨gi,u,none⟩ = some (.int .i64 ar):=by
  have h:=(hoi.cellAt u (by omega))
  rw [h,List.getElem?_map,har0,List.getD_eq_getElem?_getD,List.getElem?_eq_getElem (by omega)]
  rfl
 have lgi:gi < w.heap.size:=(hbg.oi.lt gi rfl).2
 clear har0 hoi eu HAR
 have c2w:w.cell? ⟨p,2,none⟩ = some (.slice (some ⟨gi,0,none⟩) i ci):=(lies_cell hbg.lies 2).trans rfl
 have hui:(u:Int) < (i:Int):=by omega
 have HG:Hid (Bg w B p (.slice (some ⟨b,off,none⟩) n cap) S vb (.slice (some ⟨gi,0,none⟩) i ci) vt):=hbg
 clear hbg
 go_enter Tryz.func42,Tryz.ntmps42
 go_wp2_with (first
  | (with_reducible show wpList _ _ _ (⟨some 15,Op.load 75 _,_,_,_,_⟩ :: _) _ _;refine wpList_load_mid rfl 75 _ rfl b (off + i * 28) rfl (ndL y) _ hr Tryz.underlying75 rfl (by kernel_rfl) ?_)
  | (with_reducible show wpList _ _ _ (⟨none,Op.store 75 _ _,_,_,_,_⟩ :: _) _ _;refine wpList_store_box rfl 75 _ _ rfl rfl (#[.int .i64 y.up,.string y.tx,.int .i64 y.st.sh,.int .i64 y.st.fl,.int .i64 y.st.cl,.bool y.st.w.a,.bool y.st.w.p,.int .i64 y.st.w.n,.bool y.st.h.a,.bool y.st.h.p,.int .i64 y.st.h.n,.int .i64 y.st.mn,.int .i64 y.st.mx,.int .i64 y.st.mt,.bool y.st.mr.a,.bool y.st.mr.p,.int .i64 y.st.mr.n,.int .i64 y.st.mb,.bool y.st.ml.a,.bool y.st.ml.p,.int .i64 y.st.ml.n,.int .i64 y.st.bo,.int .i64 y.st.pa,.int .i64 y.st.wh,.int .i64 y.st.al,.int .i64 y.st.lh,.int .i64 y.st.ri,.int .i64 y.st.dn]) rfl rfl (by kernel_rfl) rfl (by kernel_rfl) ?_;intro W bel l0 hsz;refine stay ?_)
  | fail)
 unfold Stay
 have cu:W.cell? ⟨w.heap.size,0,none⟩ = some (.int .i64 ((u:Int))):=(lies_cell l0 0).trans (by rw [hyu];rfl)
 have RS:Hid (W.rangeAt w.heap.size 2 (stCells y.st).toList):=fun j v hj=>(lies_cell l0 (2 + j)).trans (by rw [← hj,show (stCells y.st).toList = (#[.int .i64 y.up,.string y.tx,.int .i64 y.st.sh,.int .i64 y.st.fl,.int .i64 y.st.cl,.bool y.st.w.a,.bool y.st.w.p,.int .i64 y.st.w.n,.bool y.st.h.a,.bool y.st.h.p,.int .i64 y.st.h.n,.int .i64 y.st.mn,.int .i64 y.st.mx,.int .i64 y.st.mt,.bool y.st.mr.a,.bool y.st.mr.p,.int .i64 y.st.mr.n,.int .i64 y.st.mb,.bool y.st.ml.a,.bool y.st.ml.p,.int .i64 y.st.ml.n,.int .i64 y.st.bo,.int .i64 y.st.pa,.int .i64 y.st.wh,.int .i64 y.st.al,.int .i64 y.st.lh,.int .i64 y.st.ri,.int .i64 y.st.dn]:Array Value).toList.drop 2 from rfl,List.getElem?_drop];simp)
 have cp2:W.cell? ⟨p,2,none⟩ = some (.slice (some ⟨gi,0,none⟩) i ci):=(bel.cell (p:=⟨p,2,none⟩) lp).trans c2w
 have cgi:W.cell? ⟨gi,u,none⟩ = some (.int .i64 ar):=(bel.cell (p:=⟨gi,u,none⟩) lgi).trans qi
 have HL0:Hid (W.heap[w.heap.size]? = some (.cells (#[.int .i64 y.up,.string y.tx,.int .i64 y.st.sh,.int .i64 y.st.fl,.int .i64 y.st.cl,.bool y.st.w.a,.bool y.st.w.p,.int .i64 y.st.w.n,.bool y.st.h.a,.bool y.st.h.p,.int .i64 y.st.h.n,.int .i64 y.st.mn,.int .i64 y.st.mx,.int .i64 y.st.mt,.bool y.st.mr.a,.bool y.st.mr.p,.int .i64 y.st.mr.n,.int .i64 y.st.mb,.bool y.st.ml.a,.bool y.st.ml.p,.int .i64 y.st.ml.n,.int .i64 y.st.bo,.int .i64 y.st.pa,.int .i64 y.st.wh,.int .i64 y.st.al,.int .i64 y.st.lh,.int .i64 y.st.ri,.int .i64 y.st.dn]) 75 (0,0))):=l0
 clear l0 qi c2w hr c0
 go_wp2_with fail
 go_quiet (fail)
 go_wp2_with (first
  | (with_reducible show wpList _ _ _ (⟨some 28,Op.load 73 _,_,_,_,_⟩ :: _) _ _;refine wpList_load_mid rfl 73 _ rfl w.heap.size 2 rfl (stCells y.st).toList _ (range_drewN RS.out) Tryz.underlying73 rfl (by kernel_rfl) ?_)
  | fail)
 refine (BK _).mono ?_
 rintro e w2 ⟨rfl,hb⟩
 have hbW:Below W.heap.size W w2:=⟨hb.os,hb.tape,hb.output,hb.size,hb.block⟩
 have b2:Below w.heap.size w w2:=bel.trans (hbW.mono bel.size)
 have G2:=HG.out.keep b2
 have l2:Hid (w2.heap[w.heap.size]? = some (.cells (#[.int .i64 y.up,.string y.tx,.int .i64 y.st.sh,.int .i64 y.st.fl,.int .i64 y.st.cl,.bool y.st.w.a,.bool y.st.w.p,.int .i64 y.st.w.n,.bool y.st.h.a,.bool y.st.h.p,.int .i64 y.st.h.n,.int .i64 y.st.mn,.int .i64 y.st.mx,.int .i64 y.st.mt,.bool y.st.mr.a,.bool y.st.mr.p,.int .i64 y.st.mr.n,.int .i64 y.st.mb,.bool y.st.ml.a,.bool y.st.ml.p,.int .i64 y.st.ml.n,.int .i64 y.st.bo,.int .i64 y.st.pa,.int .i64 y.st.wh,.int .i64 y.st.al,.int .i64 y.st.lh,.int .i64 y.st.ri,.int .i64 y.st.dn]) 75 (0,0))):=below_lies hbW HL0.out (by omega)
 have B2:Below B w w2:=b2.mono hBs
 have s0:w2.cell? ⟨w.heap.size,2,none⟩ = some (.int .i64 y.st.sh):=(lies_cell l2.out 2).trans rfl
 have s1:w2.cell? ⟨w.heap.size,1,none⟩ = some (.string y.tx):=(lies_cell l2.out 1).trans rfl
 have c2:w2.cell? ⟨p,2,none⟩ = some (.slice (some ⟨gi,0,none⟩) i ci):=(lies_cell G2.lies 2).trans rfl
 have f2:w2.frozen? ⟨p,2,none⟩ = false:=Lib.frozen_of_heap G2.lies 2
 have lw:w.heap.size < w2.heap.size:=lies_lt l2.out
 clear hb hbW HL0 RS cu cp2 cgi bel HG BK b2
 have hi0:(0:Int) < (i:Int):=by omega
 rw [h3] at s0
 have HG2:Hid (Bg w2 B p (.slice (some ⟨b,off,none⟩) n cap) S vb (.slice (some ⟨gi,0,none⟩) i ci) vt):=G2
 have o2:w2.ownsRow B 3 1 (.slice (some ⟨gi,0,none⟩) i ci) i (S.inn.map (Value.int .i64)):=by have h:=HG2.out.oi;rw [hin'] at h;exact h
 have hBw:B ≤ w2.heap.size:=Nat.le_trans hBs B2.size
 have HB2:Hid (Below B w w2):=B2
 clear G2 B2
 go_wp2_with (at_builtin;refine wpList_append_own_at _ rfl (.tmp 47) (.tmp 48) 69 rfl B 3 i0 (.int .i64 0) 1 8 Tryz.underlying69 hinf hz0 hz1 hz2 rfl (by decide) _ _ _ rfl (o2.alloc _) ⟨w2.heap.size,0,none⟩ 1 1 [.int .i64 (-1)] rfl rfl (cell_one_new _ _ _) (one_i64 _) (by unfold maxLen;omega) (by omega) (by simp;omega) ?_)
 intro v' w3 hown3 hgrow3 _ _
 obtain ⟨a3,k3,rfl⟩:=own_form hown3
 have GA:=HG2.out.keep ((Below.refl _ _).alloc (Nat.le_refl _) (.cells #[.int .i64 (-1)] 3))
 have l3:w3.heap[p]? = _:=(hgrow3.block p (lies_lt GA.lies) (fun e=>own_ne GA.oi GA.lies (by decide) e.symm)).trans GA.lies
 have d2:w3.cell? ⟨p,2,none⟩ = some (.slice (some ⟨gi,0,none⟩) i ci):=(lies_cell l3 2).trans rfl
 have g2:w3.frozen? ⟨p,2,none⟩ = false:=Lib.frozen_of_heap l3 2
 have R:=GA.putI (l:=S.inn ++ [-1]) hgrow3 (snocI hin'.symm hown3)
 have RB:=((HB2.out.alloc hBw _).grown hgrow3 (by simp;omega) (fun k hk=>(GA.oi.lt k hk).1)).setCell (p:=⟨p,2,none⟩) GA.hp (.slice a3 (i + 1) k3)
 have HR:Hid (_ ∧ _):=And.intro R RB
 clear R RB GA l3 hown3 hgrow3 o2 HG2 HB2
 go_wp2
 go_ret
 refine ⟨rfl,?_,HR.out.2⟩
 have h:=HR.out.1
 rw [hS] at h
 exact ⟨_,_,_,h⟩
end Go.Proofs.YtjnmloaopnbpgaaGreatDoor
