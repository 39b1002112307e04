/-
 A context of the model's layout in memory: what it is, which blocks it may write to, and what keeps it so.
 Rows of a context that grow, and the small functions of the model's contexts.
 What is asked of the model's layout of a box, and laws on stores and reads that it is walked by.
 The model's floats, whatever their numbers are: each function ends, and the next bottom is further down.
 The model's next bottom, what is clear, and the place of a float, whatever the numbers are.
-/
import Derived.Test.YtjnmloaopnbpgaaGreatDoorMg16
import Derived.OrdersHeld
import Derived.Laws.Rows
namespace Go.Proofs.YtjnmloaopnbpgaaGreatDoor
open Go.ChangeShapes Go.WideShapes Go.ChangeAt Go.RowKit
set_option linter.unusedVariables false
/-- What a layout reads: a font, nodes, boxes, and where they lie. -/
structure Le where
 fa:Int
 fd:Int
 fn:Int
 fu:Int
 fb:Int
 ns:List Nd
 bs:List Bx
 nb:Nat
 noff:Nat
 n:Nat
 ncap:Nat
 xb:Nat
 xoff:Nat
 m:Nat
 xcap:Nat
/-- What is asked of it. -/
structure LeOk (E:Le):Prop where
 n:E.n = E.ns.length
 m:E.m = E.bs.length
 n40:E.n ≤ 40
 m80:E.m ≤ 80
 font:1 ≤ E.fn ∧ E.fn ≤ 6400 ∧ 1 ≤ E.fu ∧ E.fu ≤ 6400 ∧ 1 ≤ E.fb ∧ E.fb ≤ 6400
 nd:∀ (i:Nat) (x:Bx),E.bs[i]? = some x → ∃ k:Nat,x.nd = (k:Int) ∧ k < E.n
 up:∀ (i:Nat) (x:Bx),E.bs[i]? = some x → -1 ≤ x.up ∧ x.up < (i:Int)
 tx:∀ (i:Nat) (x:Bx),E.bs[i]? = some x → x.tx.size ≤ 200
/-- Nodes and boxes lie in blocks below B. -/
structure LeAt (w:World) (B:Nat) (E:Le):Prop where
 nlt:E.nb < B
 xlt:E.xb < B
 nds:∀ i x,E.ns[i]? = some x → w.rangeAt E.nb (E.noff + i * 28) (ndL x)
 bxs:∀ i x,E.bs[i]? = some x → w.rangeAt E.xb (E.xoff + i * 4) (bxL x)
theorem LeAt.below {w w':World} {B:Nat} {E:Le} (h:LeAt w B E) (hb:Below B w w'):LeAt w' B E :=
 ⟨h.nlt,h.xlt,fun i x hx=>range_below (h.nds i x hx) hb h.nlt,fun i x hx=>bx_below (h.bxs i x hx) hb h.xlt⟩
theorem LeAt.mono {w:World} {B B':Nat} {E:Le} (h:LeAt w B E) (hB:B ≤ B'):LeAt w B' E:=⟨Nat.lt_of_lt_of_le h.nlt hB,Nat.lt_of_lt_of_le h.xlt hB,h.nds,h.bxs⟩
/-- What a context holds. -/
structure Cs where
 xs:List Ln
 fs:List Asd
 os:List Int
 ps:List Int
 y:Int
 up:Int
 dn:Int
 many:Bool
 vl:Value
 vf:Value
 vo:Value
/-- The blocks that are a context's own. -/
def Cs.own (c:Cs) (g P b:Nat):Prop:=b = g ∨ b = P ∨ c.vl.ownBlock = some b ∨ c.vf.ownBlock = some b ∨ c.vo.ownBlock = some b
def intsV (l:List Int):List Value:=l.map (Value.int .i64)
structure Ctx (w:World) (B g P:Nat) (E:Le) (c:Cs):Prop where
 hg:B ≤ g
 lies:w.heap[g]? = some (.cells #[.int .i64 E.fa,.int .i64 E.fd,.int .i64 E.fn,.int .i64 E.fu,.int .i64 E.fb,.slice (some ⟨E.nb,E.noff,none⟩) E.n E.ncap,.slice (some ⟨E.xb,E.xoff,none⟩) E.m E.xcap,.slice (some ⟨P,0,none⟩) E.m E.m,c.vl,c.vf,.int .i64 c.y,.int .i64 c.up,.int .i64 c.dn,c.vo,.bool c.many] 90 (0,0))
 hP:B ≤ P
 pl:w.heap[P]? = some (.cells (intsV c.ps).toArray 35 (0,0))
 psl:c.ps.length = E.m * 4
 ol:w.ownsRow B 37 6 c.vl c.xs.length (flatLn c.xs)
 of:w.ownsRow B 61 5 c.vf c.fs.length (flatA c.fs)
 oo:w.ownsRow B 3 1 c.vo c.os.length (intsV c.os)
 lok:∀ x ∈ c.xs,(0 ≤ x.bx ∧ x.bx < (E.m:Int)) ∧ x.tx.size ≤ 200
 ook:∀ z ∈ c.os,∃ k:Nat,z = (k:Int) ∧ k < E.m
/-- All blocks but some stand. -/
structure Moves (O:Nat → Prop) (w w':World):Prop where
 os:w'.os = w.os
 tape:w'.tape = w.tape
 output:w'.output = w.output
 size:w.heap.size ≤ w'.heap.size
 block:∀ b,b < w.heap.size → ¬ O b → w'.heap[b]? = w.heap[b]?
structure Goes (B g P:Nat) (E:Le) (c:Cs) (w:World) (c':Cs) (w':World):Prop where
 ctx:Ctx w' B g P E c'
 mv:Moves (c.own g P) w w'
 ow:∀ b,c'.own g P b → c.own g P b ∨ w.heap.size ≤ b
theorem Goes.refl {w:World} {B g P:Nat} {E:Le} {c:Cs} (h:Ctx w B g P E c):Goes B g P E c w c w:=⟨h,⟨rfl,rfl,rfl,Nat.le_refl _,fun _ _ _=>rfl⟩,fun _ hb=>.inl hb⟩
theorem Goes.trans {B g P:Nat} {E:Le} {c c' c'':Cs} {w w' w'':World} (h:Goes B g P E c w c' w') (k:Goes B g P E c' w' c'' w''):Goes B g P E c w c'' w'' :=
 ⟨k.ctx,⟨k.mv.os.trans h.mv.os,k.mv.tape.trans h.mv.tape,k.mv.output.trans h.mv.output,Nat.le_trans h.mv.size k.mv.size,
  fun b hb hO=>(k.mv.block b (Nat.lt_of_lt_of_le hb h.mv.size) (fun hh=>(h.ow b hh).elim hO (fun hle=>by omega))).trans (h.mv.block b hb hO)⟩,
  fun b hb=>(k.ow b hb).elim (h.ow b) (fun hle=>.inr (Nat.le_trans h.mv.size hle))⟩
theorem Ctx.own_base {w:World} {B g P:Nat} {E:Le} {c:Cs} (h:Ctx w B g P E c) {b:Nat} (hb:c.own g P b):B ≤ b:=by
 rcases hb with rfl | rfl | hb | hb | hb
 ·exact h.hg
 ·exact h.hP
 ·exact (h.ol.lt b hb).1
 ·exact (h.of.lt b hb).1
 ·exact (h.oo.lt b hb).1
theorem Ctx.own_lt {w:World} {B g P:Nat} {E:Le} {c:Cs} (h:Ctx w B g P E c) {b:Nat} (hb:c.own g P b):b < w.heap.size:=by
 rcases hb with rfl | rfl | hb | hb | hb
 ·exact lies_lt h.lies
 ·exact lies_lt h.pl
 ·exact (h.ol.lt b hb).2
 ·exact (h.of.lt b hb).2
 ·exact (h.oo.lt b hb).2
/-- What lies below the context stands. -/
theorem Goes.below {B g P:Nat} {E:Le} {c c':Cs} {w w':World} (h:Goes B g P E c w c' w') (hc:Ctx w B g P E c):Below B w w' :=
 ⟨h.mv.os,h.mv.tape,h.mv.output,h.mv.size,fun b hb=>h.mv.block b (Nat.lt_of_lt_of_le hb (Nat.le_trans hc.hg (Nat.le_of_lt (lies_lt hc.lies)))) (fun hO=>by have:=hc.own_base hO;omega)⟩
/-- A block that is none of the context's own stands. -/
theorem Goes.other {B g P b:Nat} {E:Le} {c c':Cs} {w w':World} {x:Obj} (h:Goes B g P E c w c' w') (hx:w.heap[b]? = some x) (hO:¬ c.own g P b):w'.heap[b]? = some x:=(h.mv.block b (lies_lt hx) hO).trans hx
theorem Goes.not_own {B g P b:Nat} {E:Le} {c c':Cs} {w w':World} (h:Goes B g P E c w c' w') (hb:b < w.heap.size) (hO:¬ c.own g P b):¬ c'.own g P b:=fun hh=>(h.ow b hh).elim hO (fun hle=>by omega)
theorem Ctx.keep {w w':World} {B g P:Nat} {E:Le} {c:Cs} (h:Ctx w B g P E c) (hb:Below w.heap.size w w'):Ctx w' B g P E c :=
 ⟨h.hg,below_lies hb h.lies (lies_lt h.lies),h.hP,below_lies hb h.pl (lies_lt h.pl),h.psl,own_keep h.ol hb,own_keep h.of hb,own_keep h.oo hb,h.lok,h.ook⟩
theorem Goes.keep {w w':World} {B g P:Nat} {E:Le} {c:Cs} (h:Ctx w B g P E c) (hb:Below w.heap.size w w'):Goes B g P E c w c w' :=
 ⟨h.keep hb,⟨hb.os,hb.tape,hb.output,hb.size,fun b hlt _=>hb.block b hlt⟩,fun _ hh=>.inl hh⟩
theorem Ctx.ne {w:World} {B g P:Nat} {E:Le} {c:Cs} (h:Ctx w B g P E c):P ≠ g:=fun e=>by
 have h1:=h.pl
 rw [e,h.lies] at h1
 injection h1 with h1
 injection h1 with _ h2
 exact absurd h2 (by decide)
theorem moves_set {O:Nat → Prop} (w:World) (b i:Nat) (v:Value) (hO:O b):Moves O w (w.setCell ⟨b,i,none⟩ v) :=
 ⟨rfl,rfl,rfl,by simp,fun k hk hn=>Below.heap_setCell w ⟨b,i,none⟩ v k (fun e=>hn (by rw [e];exact hO))⟩
/-- A number of the context is set. -/
theorem Ctx.setG {w:World} {B g P i:Nat} {E:Le} {c c':Cs} {v:Value} (h:Ctx w B g P E c) (h1:c'.xs = c.xs ∧ c'.fs = c.fs ∧ c'.os = c.os ∧ c'.ps = c.ps ∧ c'.vl = c.vl ∧ c'.vf = c.vf ∧ c'.vo = c.vo)
  (hc:(#[.int .i64 E.fa,.int .i64 E.fd,.int .i64 E.fn,.int .i64 E.fu,.int .i64 E.fb,.slice (some ⟨E.nb,E.noff,none⟩) E.n E.ncap,.slice (some ⟨E.xb,E.xoff,none⟩) E.m E.xcap,.slice (some ⟨P,0,none⟩) E.m E.m,c.vl,c.vf,.int .i64 c.y,.int .i64 c.up,.int .i64 c.dn,c.vo,.bool c.many]:Array Value).setIfInBounds i v = (fun c=>(#[.int .i64 E.fa,.int .i64 E.fd,.int .i64 E.fn,.int .i64 E.fu,.int .i64 E.fb,.slice (some ⟨E.nb,E.noff,none⟩) E.n E.ncap,.slice (some ⟨E.xb,E.xoff,none⟩) E.m E.xcap,.slice (some ⟨P,0,none⟩) E.m E.m,c.vl,c.vf,.int .i64 c.y,.int .i64 c.up,.int .i64 c.dn,c.vo,.bool c.many]:Array Value)) c'):Goes B g P E c w c' (w.setCell ⟨g,i,none⟩ v):=by
 obtain ⟨e1,e2,e3,e4,e5,e6,e7⟩:=h1
 refine ⟨⟨h.hg,?_,h.hP,?_,by rw [e4];exact h.psl,by rw [e5,e1];exact own_set h.ol _ (own_ne h.ol h.lies (by decide)),by rw [e6,e2];exact own_set h.of _ (own_ne h.of h.lies (by decide)),by rw [e7,e3];exact own_set h.oo _ (own_ne h.oo h.lies (by decide)),by rw [e1];exact h.lok,by rw [e3];exact h.ook⟩,moves_set w g i v (.inl rfl),fun b hb=>.inl ?_⟩
 ·rw [lies_set h.lies,hc]
 ·rw [e4]
  exact (Below.heap_setCell w ⟨g,i,none⟩ v P h.ne).trans h.pl
 ·unfold Cs.own at hb ⊢
  rw [e5,e6,e7] at hb
  exact hb
theorem Ctx.setY {w:World} {B g P:Nat} {E:Le} {c:Cs} (h:Ctx w B g P E c) (z:Int):Goes B g P E c w { c with y:=z } (w.setCell ⟨g,10,none⟩ (.int .i64 z)):=h.setG ⟨rfl,rfl,rfl,rfl,rfl,rfl,rfl⟩ rfl
theorem Ctx.setUp {w:World} {B g P:Nat} {E:Le} {c:Cs} (h:Ctx w B g P E c) (z:Int):Goes B g P E c w { c with up:=z } (w.setCell ⟨g,11,none⟩ (.int .i64 z)):=h.setG ⟨rfl,rfl,rfl,rfl,rfl,rfl,rfl⟩ rfl
theorem Ctx.setDn {w:World} {B g P:Nat} {E:Le} {c:Cs} (h:Ctx w B g P E c) (z:Int):Goes B g P E c w { c with dn:=z } (w.setCell ⟨g,12,none⟩ (.int .i64 z)):=h.setG ⟨rfl,rfl,rfl,rfl,rfl,rfl,rfl⟩ rfl
theorem Ctx.setMany {w:World} {B g P:Nat} {E:Le} {c:Cs} (h:Ctx w B g P E c) (b:Bool):Goes B g P E c w { c with many:=b } (w.setCell ⟨g,14,none⟩ (.bool b)):=h.setG ⟨rfl,rfl,rfl,rfl,rfl,rfl,rfl⟩ rfl
/-- A number of a place is set. -/
theorem Ctx.setP {w:World} {B g P:Nat} {E:Le} {c:Cs} (h:Ctx w B g P E c) (j:Nat) (z:Int):Goes B g P E c w { c with ps:=c.ps.set j z } (w.setCell ⟨P,j,none⟩ (.int .i64 z)):=by
 refine ⟨⟨h.hg,(Below.heap_setCell w ⟨P,j,none⟩ _ g (Ne.symm h.ne)).trans h.lies,h.hP,?_,by simp only [List.length_set];exact h.psl,own_set h.ol _ (own_ne h.ol h.pl (by decide)),own_set h.of _ (own_ne h.of h.pl (by decide)),own_set h.oo _ (own_ne h.oo h.pl (by decide)),h.lok,h.ook⟩,moves_set w P j _ (.inr (.inl rfl)),fun b hb=>.inl hb⟩
 rw [lies_set h.pl]
 simp [intsV]
theorem grown_keep {w w':World} {B:Nat} {e:TypeId} {size:Nat} {v:Value} {n:Nat} {xs:List Value} {r:Option Nat} (h:w.ownsRow B e size v n xs) (hg:w.grownBy w' r) (hne:∀ b,v.ownBlock = some b → r ≠ some b):w'.ownsRow B e size v n xs:=by
 refine ⟨h.1,?_⟩
 rcases h.2 with hn | ⟨g,cap,cur,rfl,hbg,hgg,rest⟩
 ·exact .inl hn
 ·exact .inr ⟨g,cap,cur,rfl,hbg,(hg.block g (lies_lt hgg) (Ne.symm (hne g rfl))).trans hgg,rest⟩
theorem own_diff {w:World} {B:Nat} {e e':TypeId} {size size':Nat} {v v':Value} {n n':Nat} {xs xs':List Value} (h:w.ownsRow B e size v n xs) (h':w.ownsRow B e' size' v' n' xs') (hne:e ≠ e'):∀ b,v.ownBlock = some b → v'.ownBlock ≠ some b:=fun b hb hb'=>by
 rcases h.2 with ⟨rfl,_⟩ | ⟨g,cap,cur,rfl,_,hg,_⟩
 ·cases hb
 ·rcases h'.2 with ⟨rfl,_⟩ | ⟨g',cap',cur',rfl,_,hg',_⟩
  ·cases hb'
  ·have e1:g = b:=by simpa [Value.ownBlock] using hb
   have e2:g' = b:=by simpa [Value.ownBlock] using hb'
   subst e1 e2
   rw [hg] at hg'
   injection hg' with hg'
   injection hg' with _ h2
   exact hne h2
/-- The open boxes are turned. -/
theorem Ctx.putO {w0 w:World} {B g P:Nat} {E:Le} {c:Cs} (h:Ctx w0 B g P E c) (hb:Below w0.heap.size w0 w) (v:Value) (os':List Int) (ho:w.ownsRow B 3 1 v os'.length (intsV os')) (hv:∀ b,v.ownBlock = some b → w0.heap.size ≤ b) (hk:∀ z ∈ os',∃ k:Nat,z = (k:Int) ∧ k < E.m) :
  Goes B g P E c w0 { c with os:=os',vo:=v } (w.setCell ⟨g,13,none⟩ v):=by
 have k:=h.keep hb
 refine ⟨⟨h.hg,?_,h.hP,?_,h.psl,own_set k.ol _ (own_ne k.ol k.lies (by decide)),own_set k.of _ (own_ne k.of k.lies (by decide)),own_set ho _ (own_ne ho k.lies (by decide)),h.lok,hk⟩,⟨hb.os,hb.tape,hb.output,by simpa using hb.size,fun b hlt hO=>?_⟩,fun b hO=>?_⟩
 ·rw [lies_set k.lies]
  rfl
 ·exact (Below.heap_setCell w ⟨g,13,none⟩ v P h.ne).trans k.pl
 ·exact (Below.heap_setCell w ⟨g,13,none⟩ v b (fun e=>hO (.inl e))).trans (hb.block b hlt)
 ·rcases hO with hO | hO | hO | hO | hO
  ·exact .inl (.inl hO)
  ·exact .inl (.inr (.inl hO))
  ·exact .inl (.inr (.inr (.inl hO)))
  ·exact .inl (.inr (.inr (.inr (.inl hO))))
  ·exact .inr (hv b hO)
/-- Lines are put behind. -/
theorem Ctx.putL {w0 w:World} {B g P:Nat} {E:Le} {c:Cs} (h:Ctx w0 B g P E c) (hb:w0.grownBy w c.vl.ownBlock) (v:Value) (xs':List Ln) (ho:w.ownsRow B 37 6 v xs'.length (flatLn xs')) (hv:∀ b,v.ownBlock = some b → c.vl.ownBlock = some b ∨ w0.heap.size ≤ b) (hk:∀ x ∈ xs',(0 ≤ x.bx ∧ x.bx < (E.m:Int)) ∧ x.tx.size ≤ 200) :
  Goes B g P E c w0 { c with xs:=xs',vl:=v } (w.setCell ⟨g,8,none⟩ v):=by
 have kl:w.heap[g]? = some (.cells #[.int .i64 E.fa,.int .i64 E.fd,.int .i64 E.fn,.int .i64 E.fu,.int .i64 E.fb,.slice (some ⟨E.nb,E.noff,none⟩) E.n E.ncap,.slice (some ⟨E.xb,E.xoff,none⟩) E.m E.xcap,.slice (some ⟨P,0,none⟩) E.m E.m,c.vl,c.vf,.int .i64 c.y,.int .i64 c.up,.int .i64 c.dn,c.vo,.bool c.many] 90 (0,0)):=(hb.block g (lies_lt h.lies) (fun e=>own_ne h.ol h.lies (by decide) e.symm)).trans h.lies
 have kp:w.heap[P]? = some (.cells (intsV c.ps).toArray 35 (0,0)):=(hb.block P (lies_lt h.pl) (fun e=>own_ne h.ol h.pl (by decide) e.symm)).trans h.pl
 have kf:=grown_keep h.of hb (fun b hb' e=>own_diff h.of h.ol (by decide) b hb' e)
 have ko:=grown_keep h.oo hb (fun b hb' e=>own_diff h.oo h.ol (by decide) b hb' e)
 refine ⟨⟨h.hg,?_,h.hP,?_,h.psl,own_set ho _ (own_ne ho kl (by decide)),own_set kf _ (own_ne kf kl (by decide)),own_set ko _ (own_ne ko kl (by decide)),hk,h.ook⟩,⟨hb.os,hb.tape,hb.output,by simpa using hb.size,fun b hlt hO=>?_⟩,fun b hO=>?_⟩
 ·rw [lies_set kl]
  rfl
 ·exact (Below.heap_setCell w ⟨g,8,none⟩ v P h.ne).trans kp
 ·exact (Below.heap_setCell w ⟨g,8,none⟩ v b (fun e=>hO (.inl e))).trans (hb.block b hlt (fun e=>hO (.inr (.inr (.inl e.symm)))))
 ·rcases hO with hO | hO | hO | hO | hO
  ·exact .inl (.inl hO)
  ·exact .inl (.inr (.inl hO))
  ·exact (hv b hO).elim (fun e=>.inl (.inr (.inr (.inl e)))) .inr
  ·exact .inl (.inr (.inr (.inr (.inl hO))))
  ·exact .inl (.inr (.inr (.inr (.inr hO))))
/-- Floats are put behind. -/
theorem Ctx.putF {w0 w:World} {B g P:Nat} {E:Le} {c:Cs} (h:Ctx w0 B g P E c) (hb:w0.grownBy w c.vf.ownBlock) (v:Value) (fs':List Asd) (ho:w.ownsRow B 61 5 v fs'.length (flatA fs')) (hv:∀ b,v.ownBlock = some b → c.vf.ownBlock = some b ∨ w0.heap.size ≤ b) :
  Goes B g P E c w0 { c with fs:=fs',vf:=v } (w.setCell ⟨g,9,none⟩ v):=by
 have kl:w.heap[g]? = some (.cells #[.int .i64 E.fa,.int .i64 E.fd,.int .i64 E.fn,.int .i64 E.fu,.int .i64 E.fb,.slice (some ⟨E.nb,E.noff,none⟩) E.n E.ncap,.slice (some ⟨E.xb,E.xoff,none⟩) E.m E.xcap,.slice (some ⟨P,0,none⟩) E.m E.m,c.vl,c.vf,.int .i64 c.y,.int .i64 c.up,.int .i64 c.dn,c.vo,.bool c.many] 90 (0,0)):=(hb.block g (lies_lt h.lies) (fun e=>own_ne h.of h.lies (by decide) e.symm)).trans h.lies
 have kp:w.heap[P]? = some (.cells (intsV c.ps).toArray 35 (0,0)):=(hb.block P (lies_lt h.pl) (fun e=>own_ne h.of h.pl (by decide) e.symm)).trans h.pl
 have kf:=grown_keep h.ol hb (fun b hb' e=>own_diff h.ol h.of (by decide) b hb' e)
 have ko:=grown_keep h.oo hb (fun b hb' e=>own_diff h.oo h.of (by decide) b hb' e)
 refine ⟨⟨h.hg,?_,h.hP,?_,h.psl,own_set kf _ (own_ne kf kl (by decide)),own_set ho _ (own_ne ho kl (by decide)),own_set ko _ (own_ne ko kl (by decide)),h.lok,h.ook⟩,⟨hb.os,hb.tape,hb.output,by simpa using hb.size,fun b hlt hO=>?_⟩,fun b hO=>?_⟩
 ·rw [lies_set kl]
  rfl
 ·exact (Below.heap_setCell w ⟨g,9,none⟩ v P h.ne).trans kp
 ·exact (Below.heap_setCell w ⟨g,9,none⟩ v b (fun e=>hO (.inl e))).trans (hb.block b hlt (fun e=>hO (.inr (.inr (.inr (.inl e.symm))))))
 ·rcases hO with hO | hO | hO | hO | hO
  ·exact .inl (.inl hO)
  ·exact .inl (.inr (.inl hO))
  ·exact .inl (.inr (.inr (.inl hO)))
  ·exact (hv b hO).elim (fun e=>.inl (.inr (.inr (.inr (.inl e))))) .inr
  ·exact .inl (.inr (.inr (.inr (.inr hO))))
/-- The cells of a context. -/
theorem Ctx.cells {w:World} {B g P:Nat} {E:Le} {c:Cs} (h:Ctx w B g P E c):w.cell? ⟨g,10,none⟩ = some (.int .i64 c.y) ∧ w.cell? ⟨g,11,none⟩ = some (.int .i64 c.up) ∧ w.cell? ⟨g,12,none⟩ = some (.int .i64 c.dn) ∧ w.cell? ⟨g,13,none⟩ = some c.vo ∧ w.cell? ⟨g,7,none⟩ = some (.slice (some ⟨P,0,none⟩) E.m E.m) ∧ w.cell? ⟨g,8,none⟩ = some c.vl ∧ w.cell? ⟨g,9,none⟩ = some c.vf ∧ w.cell? ⟨g,14,none⟩ = some (.bool c.many) :=
 ⟨(lies_cell h.lies 10).trans rfl,(lies_cell h.lies 11).trans rfl,(lies_cell h.lies 12).trans rfl,(lies_cell h.lies 13).trans rfl,(lies_cell h.lies 7).trans rfl,(lies_cell h.lies 8).trans rfl,(lies_cell h.lies 9).trans rfl,(lies_cell h.lies 14).trans rfl⟩
theorem Ctx.reads {w:World} {B g P:Nat} {E:Le} {c:Cs} (h:Ctx w B g P E c):w.cell? ⟨g,0,none⟩ = some (.int .i64 E.fa) ∧ w.cell? ⟨g,1,none⟩ = some (.int .i64 E.fd) ∧ w.cell? ⟨g,2,none⟩ = some (.int .i64 E.fn) ∧ w.cell? ⟨g,3,none⟩ = some (.int .i64 E.fu) ∧ w.cell? ⟨g,4,none⟩ = some (.int .i64 E.fb) ∧
  w.cell? ⟨g,5,none⟩ = some (.slice (some ⟨E.nb,E.noff,none⟩) E.n E.ncap) ∧ w.cell? ⟨g,6,none⟩ = some (.slice (some ⟨E.xb,E.xoff,none⟩) E.m E.xcap) :=
 ⟨(lies_cell h.lies 0).trans rfl,(lies_cell h.lies 1).trans rfl,(lies_cell h.lies 2).trans rfl,(lies_cell h.lies 3).trans rfl,(lies_cell h.lies 4).trans rfl,(lies_cell h.lies 5).trans rfl,(lies_cell h.lies 6).trans rfl⟩
theorem Ctx.free {w:World} {B g P:Nat} {E:Le} {c:Cs} (h:Ctx w B g P E c) (i:Nat):w.frozen? ⟨g,i,none⟩ = false:=Lib.frozen_of_heap h.lies i
theorem Ctx.freeP {w:World} {B g P:Nat} {E:Le} {c:Cs} (h:Ctx w B g P E c) (i:Nat):w.frozen? ⟨P,i,none⟩ = false:=Lib.frozen_of_heap h.pl i
theorem Ctx.place {w:World} {B g P:Nat} {E:Le} {c:Cs} (h:Ctx w B g P E c) (j:Nat) (hj:j < E.m * 4):w.cell? ⟨P,j,none⟩ = some (.int .i64 (c.ps.getD j 0)):=by
 rw [lies_cell h.pl j]
 have:j < c.ps.length:=by rw [h.psl];exact hj
 simp [intsV,List.getD_eq_getElem?_getD,List.getElem?_eq_getElem this]
set_option maxRecDepth 100000 in
set_option maxHeartbeats 2000000 in
theorem mark_ctx {B g P:Nat} {E:Le} {c:Cs} (w:World) (h:Ctx w B g P E c) :
  Calls Tryz.prog 59 #[.pointer (some ⟨g,0,none⟩)] w fun e w'=>∃ z:Int,e = .returned (.int .i64 z) ∧ Below w.heap.size w w':=by
 obtain ⟨c10,c11,c12,-⟩:=h.cells
 go_enter Tryz.func59,Tryz.ntmps59
 go_wp2
 go_quiet (fail)
 all_goals
  go_wp2
  go_ret
  exact ⟨_,rfl,below_drewN (Below.refl _ _) _⟩
set_option maxRecDepth 100000 in
set_option maxHeartbeats 2000000 in
theorem pend_ctx {B g P:Nat} {E:Le} {c:Cs} (z:Int) (w:World) (h:Ctx w B g P E c) :
  Calls Tryz.prog 57 #[.pointer (some ⟨g,0,none⟩),.int .i64 z] w fun e w'=>e = .returned (.tuple #[]) ∧ ∃ u d:Int,Goes B g P E c w { c with up:=u,dn:=d } w':=by
 obtain ⟨c10,c11,c12,-⟩:=h.cells
 have f11:=h.free 11
 have f12:=h.free 12
 have G1:=h.setUp z
 have G2:=h.setDn z
 have G3:=G1.trans (G1.ctx.setDn z)
 by_cases h1:c.up < z
 ·by_cases h2:z < c.dn
  ·go_enter Tryz.func57,Tryz.ntmps57
   go_wp2
   exact bodyPost_end (results_none Tryz.results57 _ _ _) rfl ⟨rfl,_,_,G3⟩
  ·go_enter Tryz.func57,Tryz.ntmps57
   go_wp2
   exact bodyPost_end (results_none Tryz.results57 _ _ _) rfl ⟨rfl,_,_,G1⟩
 ·by_cases h2:z < c.dn
  ·go_enter Tryz.func57,Tryz.ntmps57
   go_wp2
   exact bodyPost_end (results_none Tryz.results57 _ _ _) rfl ⟨rfl,_,_,G2⟩
  ·go_enter Tryz.func57,Tryz.ntmps57
   go_wp2
   exact bodyPost_end (results_none Tryz.results57 _ _ _) rfl ⟨rfl,c.up,c.dn,Goes.refl h⟩
theorem Ctx.open_cell {w:World} {B g P cap N:Nat} {E:Le} {c:Cs} {a:Option Addr} (h:Ctx w B g P E c) (hv:c.vo = .slice a N cap) {j:Nat} (hj:j < c.os.length):∃ (b off k:Nat),a = some ⟨b,off,none⟩ ∧ w.cell? ⟨b,off + j,none⟩ = some (.int .i64 (k:Int)) ∧ k < E.m:=by
 obtain ⟨a',cap',h1,h2⟩:=OwnI.row h.oo
 rw [hv] at h1
 injection h1 with h1
 subst h1
 rcases h2 with h0 | ⟨b,off,rfl,hc⟩
 ·rw [h0] at hj;simp at hj
 ·obtain ⟨k,hk,hlt⟩:=h.ook (c.os.getD j 0) (by rw [List.getD_eq_getElem?_getD,List.getElem?_eq_getElem hj];exact List.getElem_mem hj)
  exact ⟨b,off,k,rfl,by rw [hc j hj,hk],hlt⟩
theorem Ctx.open_row {w:World} {B g P:Nat} {E:Le} {c:Cs} (h:Ctx w B g P E c):∃ (a:Option Addr) (cap:Nat),c.vo = .slice a c.os.length cap ∧ Row w a c.os:=OwnI.row h.oo
set_option maxRecDepth 100000 in
set_option maxHeartbeats 4000000 in
theorem settle_ctx {B g P:Nat} {E:Le} {c:Cs} (w:World) (h:Ctx w B g P E c) (hno:c.os.length ≤ 1000) :
  Calls Tryz.prog 37 #[.pointer (some ⟨g,0,none⟩)] w fun e w'=>e = .returned (.tuple #[]) ∧ ∃ (y:Int) (ps:List Int),Goes B g P E c w { c with y:=y,up:=0,dn:=0,os:=[],vo:=.slice none 0 0,ps:=ps } w':=by
 obtain ⟨a,cap,hvo,hrow⟩:=h.open_row
 obtain ⟨N,hN⟩:∃ N,N = c.os.length:=⟨_,rfl⟩
 have HN:Hid (N = c.os.length):=hN
 have HC:Hid (Ctx w B g P E c):=h
 rw [← hN] at hvo hno
 have lg:=lies_lt h.lies
 have hne:=h.ne
 have f10:=fun W (k:Ctx W B g P E c)=>k.free 10
 clear h hN
 go_enter Tryz.func37,Tryz.ntmps37
 go_wp2_with fail
 refine (mark_ctx _ HC.out).mono ?_
 rintro e w1 ⟨z,rfl,hb⟩
 have K0:=HC.out.keep hb
 have G0:=Goes.keep HC.out hb
 have G1:=G0.trans (K0.setY z)
 have G2:=G1.trans (G1.ctx.setUp 0)
 have G3:=G2.trans (G2.ctx.setDn 0)
 have R3:Row w1 a c.os:=hrow.below hb
 obtain ⟨c10,c11,c12,c13,c7,-⟩:=K0.cells
 have g10:=K0.free 10
 have g11:=K0.free 11
 have g12:=K0.free 12
 have HG3:Hid (_):=G3
 clear G0 G1 G2 G3 hb hrow f10
 rw [hvo] at c13
 have HW:Hid (c.vo = .slice a N cap):=hvo
 clear hvo K0 R3
 go_wp2_with fail
 go_loopw [20] (fun i wr=>∃ (j:Nat) (ps:List Int),j ≤ N ∧ i = .int .i64 j ∧ Goes B g P E c w { c with y:=z,up:=0,dn:=0,ps:=ps } wr) (fun i _=>N - (intOf i).toNat)
 case atStart=>exact ⟨0,_,Nat.zero_le _,rfl,HG3.out⟩
 case round =>
  obtain ⟨j,ps,hj,rfl,hG⟩:=hrel
  clear HG3
  have hk:=hG.ctx
  by_cases hlt:j < N
  ·obtain ⟨b,off,k,ha,hcx,hkm⟩:=hk.open_cell HW.out (j:=j) (by show j < c.os.length;rw [← HN.out];exact hlt)
   obtain ⟨d10,d11,d12,d13,d7,-⟩:=hk.cells
   have fP:=hk.freeP (k * 4 + 1)
   have hpl:=hk.place (k * 4 + 1) (by omega)
   have HGX:Hid (Goes B g P E c w { c with y:=z,up:=0,dn:=0,ps:=ps } wr):=hG
   subst ha
   have k0:(0:Int) ≤ (k:Int):=by omega
   have k1:(k:Int) < (E.m:Int):=by omega
   have NX1:=HGX.out.trans (HGX.out.ctx.setP (k * 4 + 1) z)
   have NXT:Hid (_):=NX1.trans (Goes.keep NX1.ctx ((Below.refl _ _).drew))
   clear NX1
   clear hk hG
   go_wp2_with fail
   go_region_held3 (fun w'=>w'.cell? ⟨g,7,none⟩ = some (.slice (some ⟨P,0,none⟩) E.m E.m) ∧ w'.cell? ⟨g,10,none⟩ = some (.int .i64 z)) (go_keep) (fail)
   all_goals
    go_wp2
    go_roundw
    case rel=>exact ⟨j + 1,_,by omega,by go_num,NXT.out⟩
    case measure=>simp [intOf];omega
  ·have f13:=hk.free 13
   obtain ⟨d10,d11,d12,d13,d7,-⟩:=hk.cells
   have FIN:Hid (_):=hG.trans (hk.putO (Below.refl _ _) (.slice none 0 0) [] (World.ownsRow_nil _ _ _ _) (fun b hb=>by cases hb) (fun z hz=>by cases hz))
   rw [show ({ c with y:=z,up:=0,dn:=0,ps:=ps }:Cs).vo = c.vo from rfl,HW.out] at d13
   clear hk hG
   go_wp2
   exact bodyPost_end (results_none Tryz.results37 _ _ _) rfl ⟨rfl,z,ps,FIN.out⟩
/-- Some truth is answered. -/
def RetB (e:Ending):Prop:=∃ b:Bool,e = .returned (.bool b)
theorem retB (b:Bool):RetB (.returned (.bool b)):=⟨b,rfl⟩
set_option maxRecDepth 100000 in
set_option maxHeartbeats 2000000 in
theorem isOpen_ctx {B g P:Nat} {E:Le} {c:Cs} (k:Int) (w:World) (h:Ctx w B g P E c) (hno:c.os.length ≤ 1000) :
  Calls Tryz.prog 62 #[.pointer (some ⟨g,0,none⟩),.int .i64 k] w fun e w'=>RetB e ∧ w' = w:=by
 obtain ⟨a,cap,hvo,hrow⟩:=h.open_row
 obtain ⟨-,-,-,c13,-⟩:=h.cells
 rw [hvo] at c13
 obtain ⟨N,hN⟩:∃ N,N = c.os.length:=⟨_,rfl⟩
 have HN:Hid (N = c.os.length):=hN
 rw [← hN] at c13 hno
 clear hvo h hN
 go_enter Tryz.func62,Tryz.ntmps62
 go_wp2_with fail
 go_loop [12] (fun i=>∃ j:Nat,j ≤ N ∧ i = .int .i64 j) (fun i=>N - (intOf i).toNat)
 case atStart=>exact ⟨0,Nat.zero_le _,rfl⟩
 case round =>
  obtain ⟨j,hj,rfl⟩:=hrel
  by_cases hlt:j < N
  ·rcases hrow with h0 | ⟨b,off,rfl,hc⟩
   ·have:=HN.out;rw [h0] at this;simp at this;omega
   ·have hcx:=hc j (by rw [← HN.out];exact hlt)
    generalize c.os.getD j 0 = z at hcx
    clear hc
    by_cases hz:z = k
    ·subst hz
     go_wp2
     go_ret
     exact ⟨retB _,rfl⟩
    ·have bz:(z == k) = false:=by simpa using hz
     go_wp2
     go_round
     case rel=>exact ⟨j + 1,by omega,by go_num⟩
     case measure=>simp [intOf];omega
  ·go_wp2
   go_ret
   exact ⟨retB _,rfl⟩
theorem range9 {W:World} {g:Nat} {c:Array Value} {t:TypeId} {fr:Nat × Nat} {L:List Value} (h:W.heap[g]? = some (.cells c t fr)) (o:Nat) (hL:(c.toList.drop o).take L.length = L):W.rangeAt g o L:=fun j v hj=>by
 have hlt:j < L.length:=(List.getElem?_eq_some_iff.1 hj).1
 have h1:(c.toList.drop o)[j]? = some v:=by
  rw [← hL,List.getElem?_take_of_lt hlt] at hj
  exact hj
 rw [List.getElem?_drop] at h1
 exact (lies_cell h (o + j)).trans (by simpa using h1)
theorem wp_put9 {o:Oper} {a:Act} {w:World} {K:Act → World → Prop} {Q:Exit → Act → World → Prop} (ty:TypeId) (x y:Operand) (ho:o.op = .store ty x y)
  (hd:o.dst = none) (g i n:Nat) (vs:List Value) (c:Array Value) (t:TypeId) (hx:a.eval x = .pointer (some ⟨g,i,none⟩)) (hy:(a.eval y).cells.toList = vs)
  (hg:w.heap[g]? = some (.cells c t (0,0))) (hn:c.size = n) (hi:(Tryz.prog.info? ty).map (·.size) = some vs.length) (hl:Nat.ble (i + vs.length) n = true) (h1:vs.all (·.oneCell') = true)
  (h:∀ w',Put g w w' → w'.heap[g]? = some (.cells (putA c i vs) t (0,0)) → K a w'):o.wp Tryz.prog a w K Q:=by
 have hl':i + vs.length ≤ c.size:=by rw [hn];exact Nat.le_of_ble_eq_true hl
 unfold Oper.wp execOp
 have hs:=run_storeCells_at (P:=Tryz.prog) g i t vs 0 c w hg (by simpa using hl') (fun v hv=>(List.all_eq_true.1 h1) v hv)
 simp only [Nat.add_zero] at hs
 cases hq:Tryz.prog.info? ty with
 | none=>simp [hq] at hi
 | some inf =>
  have hsz:(a.eval y).cells.size = inf.size:=by
   have:=congrArg List.length hy
   simp [hq] at hi
   simp at this
   omega
  have hsv:(storeVar ty ⟨g,i,none⟩ (a.eval y)).run Tryz.prog w = .ok () (w.setRow g (c.toList.take i ++ vs ++ c.toList.drop (i + vs.length)).toArray):=by
   simp [storeVar,sizeOf,typeInfo,hq,hsz,hy,hs]
  simp only [ho,hx,Instr.storeAt,Instr.sureAddr,Sem.run_bind,Sem.run_pure,Result.andThen_ok,hsv]
  have hf:K (a.put o.dst undef) (w.setRow g (c.toList.take i ++ vs ++ c.toList.drop (i + vs.length)).toArray):=by
   rw [hd]
   refine h _ (put_setRow _ _ _) ?_
   rw [putA,putL_eq vs c.toList i (by simpa using hl')]
   exact setRow_heap w g c _ t _ hg
  exact hf
/-- How much a context may grow. -/
def Grow (c c':Cs) (l n:Nat):Prop:=c'.xs.length ≤ c.xs.length + l ∧ c'.fs.length ≤ c.fs.length + n ∧ c'.os.length ≤ c.os.length + n
def Small (c:Cs) (l n:Nat):Prop:=c.xs.length + l ≤ 100000 ∧ c.fs.length + n ≤ 1000 ∧ c.os.length + n ≤ 1000
/-- A function of the layout, at a box: it ends, and the context grows by so much at most. -/
def LayOk (E:Le) (F:FuncId) (l n k:Nat):Prop :=
 ∀ (B g P:Nat) (c:Cs) (left around:Int) (w:World),Ctx w B g P E c → LeAt w B E → Small c l n →
  Calls Tryz.prog F #[.pointer (some ⟨g,0,none⟩),.int .i64 (k:Int),.int .i64 left,.int .i64 around] w fun e w'=>e = .returned (.tuple #[]) ∧ ∃ c',Goes B g P E c w c' w' ∧ Grow c c' l n
/-- A style reads as the cells of a node. -/
theorem LeAt.style {w:World} {B:Nat} {E:Le} (h:LeAt w B E) {i:Nat} {x:Nd} (hx:E.ns[i]? = some x):w.rangeAt E.nb (E.noff + i * 28 + 2) (stCells x.st).toList:=fun j v hj=>by
 have:=h.nds i x hx (2 + j) v (by
  have e:(stCells x.st).toList = (ndL x).drop 2:=rfl
  rw [e,List.getElem?_drop] at hj
  exact hj)
 rw [← this,Nat.add_assoc (E.noff + i * 28) 2 j]
def AcrossOk:Prop:=∀ (s:St) (around:Int) (w:World),Calls Tryz.prog 56 #[.agg (stCells s),.int .i64 around] w fun e w'=>∃ a b d:Int,e = .returned (.agg #[.int .i64 a,.int .i64 b,.int .i64 d]) ∧ Below w.heap.size w w'
def ClearOk:Prop:=∀ (a:Option Addr) (n cap:Nat) (l:List Asd) (cl y:Int) (w:World),n = l.length → AsRow w a l → n ≤ 1000 → Calls Tryz.prog 58 #[.slice a n cap,.int .i64 cl,.int .i64 y] w fun e w'=>∃ z:Int,e = .returned (.int .i64 z) ∧ Below w.heap.size w w'
def ClampOk:Prop:=∀ (a b d:Int) (w:World),Calls Tryz.prog 61 #[.int .i64 a,.int .i64 b,.int .i64 d] w fun e w'=>∃ z:Int,e = .returned (.int .i64 z) ∧ w' = w
/-- The lengths of a context's rows stand. -/
def Len (c c':Cs):Prop:=c'.xs.length = c.xs.length ∧ c'.fs.length = c.fs.length ∧ c'.os.length = c.os.length
theorem Ctx.setPd {w:World} {B g P:Nat} {E:Le} {c:Cs} (h:Ctx w B g P E c) (j:Nat) (z:Int):Goes B g P E c w { c with ps:=c.ps.set j z } ((w.setCell ⟨P,j,none⟩ (.int .i64 z)).drew) :=
 (h.setP j z).trans (Goes.keep (h.setP j z).ctx ((Below.refl _ _).drew))
theorem Ctx.setYd {w:World} {B g P:Nat} {E:Le} {c:Cs} (h:Ctx w B g P E c) (z:Int):Goes B g P E c w { c with y:=z } ((w.setCell ⟨g,10,none⟩ (.int .i64 z)).drew) :=
 (h.setY z).trans (Goes.keep (h.setY z).ctx ((Below.refl _ _).drew))
/-- The same rows are open again. -/
theorem Ctx.sameO {w:World} {B g P:Nat} {E:Le} {c:Cs} (h:Ctx w B g P E c):Goes B g P E c w c (w.setCell ⟨g,13,none⟩ c.vo):=h.setG ⟨rfl,rfl,rfl,rfl,rfl,rfl,rfl⟩ rfl
theorem own_empty (w:World):(w.alloc (.cells #[] 3)).ownsRow w.heap.size 3 1 (.slice (some ⟨w.heap.size,0,none⟩) 0 0) 0 [] :=
 ⟨by simp,.inr ⟨w.heap.size,0,#[],rfl,Nat.le_refl _,heap_alloc_new w _,Nat.le_refl _,by simp,by simp,by simp⟩⟩
theorem cell_oth {w:World} {b i b' j:Nat} {v u:Value} (h:w.cell? ⟨b',j,none⟩ = some u) (hne:b ≠ b' ∨ i ≠ j):((w.setCell ⟨b,i,none⟩ v).drew).cell? ⟨b',j,none⟩ = some u:=by
 have e:(⟨b,i,none⟩:Addr) ≠ ⟨b',j,none⟩:=fun e=>by
  injection e with e1 e2
  rcases hne with h | h
  ·exact h e1
  ·exact h e2
 exact (World.cell?_setCell_other _ _ _ _ e).trans h
def botB (x:Asd):Int:=wrap64 (x.y + x.h)
/-- What 'at a stretch' answers. -/
def AtRet (x:Asd) (y:Int) (e:Ending):Prop:=∃ b:Bool,e = .returned (.bool b) ∧ (b = true → y < botB x)
theorem atRet_yes {x:Asd} {y:Int} (h:y < botB x) (b:Bool):AtRet x y (.returned (.bool b)):=⟨b,rfl,fun _=>h⟩
theorem atRet_no {x:Asd} {y:Int}:AtRet x y (.returned (.bool false)):=⟨false,rfl,fun h=>by cases h⟩
set_option maxHeartbeats 2000000 in
theorem at_some (x:Asd) (y high:Int) (w:World) :
  Calls Tryz.prog 109 #[.agg #[.int .i64 x.sd,.int .i64 x.x,.int .i64 x.y,.int .i64 x.w,.int .i64 x.h],.int .i64 y,.int .i64 high] w fun e w'=>AtRet x y e ∧ Below w.heap.size w w':=by
 have HB:Hid (botB x = wrap64 (x.y + x.h)):=rfl
 have bel:=(Below.refl w.heap.size w).alloc (Nat.le_refl _) (.cells #[.int .i64 x.sd,.int .i64 x.x,.int .i64 x.y,.int .i64 x.w,.int .i64 x.h] 61)
 have HBE:Hid (_):=bel
 clear bel
 by_cases h2:y < wrap64 (x.y + x.h)
 ·have h3:y < botB x:=h2
  have HR:Hid (∀ b,AtRet x y (.returned (.bool b))):=atRet_yes h3
  clear h3
  by_cases h0:high = 0
  ·subst h0
   by_cases h1:x.y < wrap64 (y + 1)
   all_goals
    go_enter Tryz.func109,Tryz.ntmps109
    go_wp2
    go_ret
    exact ⟨HR.out _,HBE.out⟩
  ·have b0:(high == 0) = false:=by simpa using h0
   by_cases h1:x.y < wrap64 (y + high)
   all_goals
    go_enter Tryz.func109,Tryz.ntmps109
    go_wp2
    go_ret
    exact ⟨HR.out _,HBE.out⟩
 ·have HR:Hid (AtRet x y (.returned (.bool false))):=atRet_no
  by_cases h0:high = 0
  ·subst h0
   by_cases h1:x.y < wrap64 (y + 1)
   all_goals
    go_enter Tryz.func109,Tryz.ntmps109
    go_wp2
    go_ret
    exact ⟨HR.out,HBE.out⟩
  ·have b0:(high == 0) = false:=by simpa using h0
   by_cases h1:x.y < wrap64 (y + high)
   all_goals
    go_enter Tryz.func109,Tryz.ntmps109
    go_wp2
    go_ret
    exact ⟨HR.out,HBE.out⟩
/-- What 'any at a stretch' answers. -/
def AnyRet (l:List Asd) (y:Int) (e:Ending):Prop:=∃ b:Bool,e = .returned (.bool b) ∧ (b = true → ∃ x ∈ l,y < botB x)
set_option maxHeartbeats 2000000 in
theorem any_some (a:Option Addr) (n cap:Nat) (l:List Asd) (y high:Int) (w:World) (hn:n = l.length) (hr:AsRow w a l) (hl:n ≤ 1000) :
  Calls Tryz.prog 100 #[.slice a n cap,.int .i64 y,.int .i64 high] w fun e w'=>AnyRet l y e ∧ Below w.heap.size w w':=by
 have HN:Hid (n = l.length):=hn
 have HR:Hid (AsRow w a l):=hr
 have NO:Hid (AnyRet l y (.returned (.bool false))):=⟨false,rfl,fun h=>by cases h⟩
 clear hn hr
 go_enter Tryz.func100,Tryz.ntmps100
 go_wp2_with fail
 go_loopw [11] (fun i wr=>∃ j:Nat,j ≤ n ∧ i = .int .i64 j ∧ Below w.heap.size w wr) (fun i _=>n - (intOf i).toNat)
 case atStart=>exact ⟨0,Nat.zero_le _,rfl,Below.refl _ _⟩
 case round =>
  obtain ⟨j,hj,rfl,hbw⟩:=hrel
  by_cases hlt:j < n
  rotate_left
  ·go_wp2
   go_ret
   exact ⟨NO.out,hbw⟩
  obtain ⟨x,hx⟩:∃ x,l[j]? = some x:=⟨_,List.getElem?_eq_getElem (by have:=HN.out;omega)⟩
  obtain ⟨b,off,rfl,hc⟩:=as_some HR.out hx
  have hr:=as_below (hc j x hx) hbw (as_lt (hc j x hx))
  obtain ⟨q0,q1,q2,q3,q4⟩:=as_cells hr
  have HX:Hid (x ∈ l):=List.mem_of_getElem? hx
  have B2:=fun o=>hbw.alloc hbw.size o
  clear hc hx hr
  go_wp2_with fail
  refine (at_some x y high _).mono ?_
  rintro e w2 ⟨⟨bo,rfl,hbo⟩,hb⟩
  have b2:Below w.heap.size w w2:=(B2 _).trans (hb.mono (by have:=hbw.size;simp;omega))
  clear hb B2 hbw q0 q1 q2 q3 q4
  cases bo
  ·clear hbo
   go_wp2
   go_roundw
   case rel=>exact ⟨j + 1,by omega,by go_num,b2⟩
   case measure=>simp [intOf];omega
  ·have YES:Hid (AnyRet l y (.returned (.bool true))):=⟨true,rfl,fun _=>⟨x,HX.out,hbo rfl⟩⟩
   clear hbo
   go_wp2
   go_ret
   exact ⟨YES.out,b2⟩
set_option maxHeartbeats 4000000 in
theorem room_some (a:Option Addr) (n cap:Nat) (l:List Asd) (y high left right:Int) (w:World) (hn:n = l.length) (hr:AsRow w a l) (hl:n ≤ 1000) :
  Calls Tryz.prog 97 #[.slice a n cap,.int .i64 y,.int .i64 high,.int .i64 left,.int .i64 right] w fun e w'=>∃ p q:Int,e = .returned (.tuple #[.int .i64 p,.int .i64 q]) ∧ Below w.heap.size w w':=by
 have HN:Hid (n = l.length):=hn
 have HR:Hid (AsRow w a l):=hr
 clear hn hr
 go_enter Tryz.func97,Tryz.ntmps97
 go_wp2_with fail
 go_loopw [3,4,16] (fun s t i wr=>∃ (j:Nat) (p q:Int),j ≤ n ∧ i = .int .i64 j ∧ s = .int .i64 p ∧ t = .int .i64 q ∧ Below w.heap.size w wr) (fun _ _ i _=>n - (intOf i).toNat)
 case atStart=>exact ⟨0,_,_,Nat.zero_le _,rfl,rfl,rfl,Below.refl _ _⟩
 case round =>
  obtain ⟨j,p,q,hj,rfl,rfl,rfl,hbw⟩:=hrel
  by_cases hlt:j < n
  rotate_left
  ·go_wp2
   go_ret2
   exact ⟨_,_,rfl,hbw⟩
  obtain ⟨x,hx⟩:∃ x,l[j]? = some x:=⟨_,List.getElem?_eq_getElem (by have:=HN.out;omega)⟩
  obtain ⟨b,off,rfl,hc⟩:=as_some HR.out hx
  have hr:=as_below (hc j x hx) hbw (as_lt (hc j x hx))
  obtain ⟨q0,q1,q2,q3,q4⟩:=as_cells hr
  have B2:=fun o=>hbw.alloc hbw.size o
  clear hc hx hr
  go_wp2_with fail
  refine (at_some x y high _).mono ?_
  rintro e w2 ⟨⟨bo,rfl,-⟩,hb⟩
  have l2:=below_lies hb (heap_alloc_new wr _) (by simp)
  have r0:w2.cell? ⟨wr.heap.size,0,none⟩ = some (.int .i64 x.sd):=(lies_cell l2 0).trans rfl
  have r1:w2.cell? ⟨wr.heap.size,1,none⟩ = some (.int .i64 x.x):=(lies_cell l2 1).trans rfl
  have r3:w2.cell? ⟨wr.heap.size,3,none⟩ = some (.int .i64 x.w):=(lies_cell l2 3).trans rfl
  have b2:Below w.heap.size w w2:=(B2 _).trans (hb.mono (by have:=hbw.size;simp;omega))
  clear hb B2 hbw q0 q1 q2 q3 q4 l2
  cases bo
  ·clear r0 r1 r3
   go_wp2
   go_roundw
   case rel=>exact ⟨j + 1,_,_,by omega,by go_num,rfl,rfl,b2⟩
   case measure=>simp [intOf];omega
  ·by_cases h1:x.sd = 1
   ·rw [h1] at r0
    by_cases h2:p < wrap64 (x.x + x.w)
    all_goals
     go_wp2
     go_roundw
     case rel=>exact ⟨j + 1,_,_,by omega,by go_num,rfl,rfl,b2⟩
     case measure=>simp [intOf];omega
   ·have b1:(x.sd == 1) = false:=by simpa using h1
    by_cases h3:x.sd = 2
    ·rw [h3] at r0
     by_cases h2:x.x < q
     all_goals
      go_wp2
      go_roundw
      case rel=>exact ⟨j + 1,_,_,by omega,by go_num,rfl,rfl,b2⟩
      case measure=>simp [intOf];omega
    ·have b3:(x.sd == 2) = false:=by simpa using h3
     go_wp2
     go_roundw
     case rel=>exact ⟨j + 1,_,_,by omega,by go_num,rfl,rfl,b2⟩
     case measure=>simp [intOf];omega
def NextRet (l:List Asd) (y:Int) (e:Ending):Prop:=∃ (o:Int) (f:Bool),e = .returned (.tuple #[.int .i64 o,.bool f]) ∧ (f = true → ∃ x ∈ l,o = botB x ∧ y < o) ∧ (f = false → ∀ x ∈ l,¬ y < botB x)
def NextAt (l:List Asd) (y:Int) (j:Nat) (o:Int) (f:Bool):Prop:=(f = true → ∃ x ∈ l,o = botB x ∧ y < o) ∧ (f = false → ∀ x ∈ l.take j,¬ y < botB x)
theorem next_stay {l:List Asd} {y:Int} {j:Nat} {o:Int} {f:Bool} {x:Asd} (h:NextAt l y j o f) (hx:l[j]? = some x) (hn:f = true ∨ ¬ y < botB x):NextAt l y (j + 1) o f :=
 ⟨h.1,fun hf z hz=>by
  rw [List.take_add_one,hx] at hz
  rcases List.mem_append.1 hz with hz | hz
  ·exact h.2 hf z hz
  ·have:z = x:=by simpa using hz
   subst this
   rcases hn with hn | hn
   ·rw [hf] at hn;cases hn
   ·exact hn⟩
theorem next_take {l:List Asd} {y:Int} {j:Nat} {x:Asd} (hx:l[j]? = some x) (hn:y < botB x):NextAt l y (j + 1) (botB x) true :=
 ⟨fun _=>⟨x,List.mem_of_getElem? hx,rfl,hn⟩,fun h=>by cases h⟩
set_option maxHeartbeats 4000000 in
theorem next_some (a:Option Addr) (n cap:Nat) (l:List Asd) (y:Int) (w:World) (hn:n = l.length) (hr:AsRow w a l) (hl:n ≤ 1000) :
  Calls Tryz.prog 101 #[.slice a n cap,.int .i64 y] w fun e w'=>NextRet l y e ∧ Below w.heap.size w w':=by
 have HN:Hid (n = l.length):=hn
 have HR:Hid (AsRow w a l):=hr
 have ST:Hid (NextAt l y 0 0 false):=⟨(fun h=>by cases h),(fun _ x hx=>by simp at hx)⟩
 clear hn hr
 go_enter Tryz.func101,Tryz.ntmps101
 go_wp2_with fail
 go_loopw [6,7,13] (fun s t i wr=>∃ (j:Nat) (o:Int) (f:Bool),j ≤ n ∧ i = .int .i64 j ∧ s = .int .i64 o ∧ t = .bool f ∧ NextAt l y j o f ∧ Below w.heap.size w wr) (fun _ _ i _=>n - (intOf i).toNat)
 case atStart=>exact ⟨0,0,false,Nat.zero_le _,rfl,rfl,rfl,ST.out,Below.refl _ _⟩
 case round =>
  obtain ⟨j,o,f,hj,rfl,rfl,rfl,hat,hbw⟩:=hrel
  by_cases hlt:j < n
  rotate_left
  ·have e:l.take j = l:=List.take_of_length_le (by have:=HN.out;omega)
   have RES:Hid (∀ e',e' = Ending.returned (.tuple #[.int .i64 o,.bool f]) → NextRet l y e'):=fun e' h=>⟨o,f,h,hat.1,fun hf=>by have:=hat.2 hf;rwa [e] at this⟩
   clear hat e
   go_wp2
   go_ret2
   exact ⟨RES.out _ rfl,hbw⟩
  obtain ⟨x,hx⟩:∃ x,l[j]? = some x:=⟨_,List.getElem?_eq_getElem (by have:=HN.out;omega)⟩
  obtain ⟨b,off,rfl,hc⟩:=as_some HR.out hx
  have hr:=as_below (hc j x hx) hbw (as_lt (hc j x hx))
  obtain ⟨q0,q1,q2,q3,q4⟩:=as_cells hr
  have B2:=fun o=>hbw.alloc hbw.size o
  have HX:Hid (l[j]? = some x):=hx
  have HAT:Hid (NextAt l y j o f):=hat
  have HBB:Hid (botB x = wrap64 (x.y + x.h)):=rfl
  clear hc hx hr hat
  by_cases h1:y < wrap64 (x.y + x.h)
  ·have TK:Hid (NextAt l y (j + 1) (wrap64 (x.y + x.h)) true):=next_take HX.out h1
   cases f
   ·go_wp2
    go_roundw
    case rel=>exact ⟨j + 1,_,_,by omega,by go_num,rfl,rfl,TK.out,B2 _⟩
    case measure=>simp [intOf];omega
   ·have SY:Hid (NextAt l y (j + 1) o true):=next_stay HAT.out HX.out (.inl rfl)
    by_cases h2:wrap64 (x.y + x.h) < o
    ·go_wp2
     go_roundw
     case rel=>exact ⟨j + 1,_,_,by omega,by go_num,rfl,rfl,TK.out,B2 _⟩
     case measure=>simp [intOf];omega
    ·go_wp2
     go_roundw
     case rel=>exact ⟨j + 1,_,_,by omega,by go_num,rfl,rfl,SY.out,B2 _⟩
     case measure=>simp [intOf];omega
  ·have SY:Hid (NextAt l y (j + 1) o f):=next_stay HAT.out HX.out (.inr h1)
   go_wp2
   go_roundw
   case rel=>exact ⟨j + 1,_,_,by omega,by go_num,rfl,rfl,SY.out,B2 _⟩
   case measure=>simp [intOf];omega
set_option maxHeartbeats 4000000 in
theorem clear_some:ClearOk:=by
 intro a n cap l cl y w hn hr hl
 have HN:Hid (n = l.length):=hn
 have HR:Hid (AsRow w a l):=hr
 clear hn hr
 go_enter Tryz.func58,Tryz.ntmps58
 go_wp2_with fail
 go_loopw [2,11] (fun s i wr=>∃ (j:Nat) (o:Int),j ≤ n ∧ i = .int .i64 j ∧ s = .int .i64 o ∧ Below w.heap.size w wr) (fun _ i _=>n - (intOf i).toNat)
 case atStart=>exact ⟨0,_,Nat.zero_le _,rfl,rfl,Below.refl _ _⟩
 case round =>
  obtain ⟨j,o,hj,rfl,rfl,hbw⟩:=hrel
  by_cases hlt:j < n
  rotate_left
  ·go_wp2
   go_ret
   exact ⟨_,rfl,hbw⟩
  obtain ⟨x,hx⟩:∃ x,l[j]? = some x:=⟨_,List.getElem?_eq_getElem (by have:=HN.out;omega)⟩
  obtain ⟨b,off,rfl,hc⟩:=as_some HR.out hx
  have hr:=as_below (hc j x hx) hbw (as_lt (hc j x hx))
  obtain ⟨q0,q1,q2,q3,q4⟩:=as_cells hr
  have B2:=fun o=>hbw.alloc hbw.size o
  clear hc hx hr
  by_cases h3:o < wrap64 (x.y + x.h)
  all_goals by_cases h1:cl = 3
  all_goals by_cases h2:cl = x.sd
  all_goals
   first
    | have b1:(cl == 3) = true:=by simpa using h1
    | have b1:(cl == 3) = false:=by simpa using h1
   first
    | have b2:(cl == x.sd) = true:=by simpa using h2
    | have b2:(cl == x.sd) = false:=by simpa using h2
   clear h1 h2
   go_wp2
   go_roundw
   case rel=>exact ⟨j + 1,_,by omega,by go_num,rfl,B2 _⟩
   case measure=>simp [intOf];omega
end Go.Proofs.YtjnmloaopnbpgaaGreatDoor
