/-
 Contracts of a font's small functions, of the program and of its model: a number between two, a good font, the law's own copy of a font; for every five ints.
 Laws on structs of many cells in memory: a whole struct stored into the block that was laid last; which block lies where.
 Styles as plain data, and contracts of the small functions over them: the law's copies, its comparisons of a style with itself, the plain style of both sides.
 When a style is good, as a Bool function of its fields; contracts of the model's small functions on numbers and sizes, and of the program's method 'good' on one thing of a style.
-/
import Derived.Test.YtjnmloaopnbpgaaGreatDoorRows
import Derived.WalkKit
import Derived.ProofKit
import Derived.OpenShut
import Derived.WalkSpells
import Derived.WalkLawsBesides
import Derived.Deep.QuietTactic
import Derived.BigQuiet
import Derived.Great.Walk
import Derived.Below
namespace Go.Proofs.YtjnmloaopnbpgaaGreatDoor
open Go.ChangeShapes Go.WideShapes Go.ChangeAt Go.RowKit
set_option linter.unusedVariables false
/-- Between two numbers, both of them too. -/
def inB (lo hi n:Int):Bool:=decide (lo ≤ n ∧ n ≤ hi)
theorem inB_yes {lo hi n:Int} (h:inB lo hi n = true):lo ≤ n ∧ n ≤ hi:=of_decide_eq_true h
theorem inB_no {lo hi n:Int} (h:inB lo hi n = false):¬ (lo ≤ n ∧ n ≤ hi):=of_decide_eq_false h
theorem below_drewN {B:Nat} {a w:World} (h:Below B a w) (n:Nat):Below B a (w.drewN n):=⟨h.os,h.tape,h.output,h.size,h.block⟩
theorem ret_bool {a b:Bool} (h:a = b):Ending.returned (.bool a) = .returned (.bool b):=by rw [h]
theorem l1In_any (n lo hi:Int) (w:World):Calls Tryz.prog 21 #[.int .i64 n,.int .i64 lo,.int .i64 hi] w fun e w'=>e = .returned (.bool (inB lo hi n)) ∧ w' = w:=by
 by_cases h1:lo ≤ n <;> by_cases h2:n ≤ hi <;>
 ·go_enter Tryz.func21,Tryz.ntmps21
  go_wp2
  go_ret
  exact ⟨ret_bool (by simp [inB,h1,h2]),rfl⟩
/-- A good font. -/
def fontB (fa fd fn fu fb:Int):Bool:=decide (0 ≤ fa ∧ fa ≤ 6400 ∧ 0 ≤ fd ∧ fd ≤ 6400 ∧ 1 ≤ fn ∧ fn ≤ 6400 ∧ 1 ≤ fu ∧ fu ≤ 6400 ∧ 1 ≤ fb ∧ fb ≤ 6400)
theorem fontB_yes {fa fd fn fu fb:Int} (h:fontB fa fd fn fu fb = true):0 ≤ fa ∧ fa ≤ 6400 ∧ 0 ≤ fd ∧ fd ≤ 6400 ∧ 1 ≤ fn ∧ fn ≤ 6400 ∧ 1 ≤ fu ∧ fu ≤ 6400 ∧ 1 ≤ fb ∧ fb ≤ 6400:=of_decide_eq_true h
theorem fontB_mk {fa fd fn fu fb:Int} (h:0 ≤ fa ∧ fa ≤ 6400 ∧ 0 ≤ fd ∧ fd ≤ 6400 ∧ 1 ≤ fn ∧ fn ≤ 6400 ∧ 1 ≤ fu ∧ fu ≤ 6400 ∧ 1 ≤ fb ∧ fb ≤ 6400):true = fontB fa fd fn fu fb:=(decide_eq_true h).symm
theorem fontB_not {fa fd fn fu fb:Int} (h:¬ (0 ≤ fa ∧ fa ≤ 6400 ∧ 0 ≤ fd ∧ fd ≤ 6400 ∧ 1 ≤ fn ∧ fn ≤ 6400 ∧ 1 ≤ fu ∧ fu ≤ 6400 ∧ 1 ≤ fb ∧ fb ≤ 6400)):false = fontB fa fd fn fu fb:=(decide_eq_false h).symm
/-- The first k of a font's parts lie between 0 and 6400. -/
def partsOk (fa fd fn fu fb:Int) (k:Nat):Prop:=(0 < k → 0 ≤ fa ∧ fa ≤ 6400) ∧ (1 < k → 0 ≤ fd ∧ fd ≤ 6400) ∧ (2 < k → 0 ≤ fn ∧ fn ≤ 6400) ∧ (3 < k → 0 ≤ fu ∧ fu ≤ 6400) ∧ (4 < k → 0 ≤ fb ∧ fb ≤ 6400)
set_option maxHeartbeats 4000000 in
theorem specGood_any (fa fd fn fu fb:Int) (w:World) :
  Calls Tryz.prog 33 #[.agg #[.int .i64 fa,.int .i64 fd,.int .i64 fn,.int .i64 fu,.int .i64 fb]] w fun e w'=>e = .returned (.bool (fontB fa fd fn fu fb)) ∧ Below w.heap.size w w':=by
 go_enter Tryz.func33,Tryz.ntmps33
 go_wp2
 go_loop [17] (fun i=>∃ k:Nat,k ≤ 5 ∧ i = .int .i64 k ∧ partsOk fa fd fn fu fb k) (fun i=>5 - (intOf i).toNat)
 case atStart=>exact ⟨0,by omega,rfl,by unfold partsOk;omega⟩
 case round =>
  obtain ⟨k,hk,rfl,hp⟩:=hrel
  have HP:Hid (partsOk fa fd fn fu fb k):=hp
  clear hp
  have hx:k = 0 ∨ k = 1 ∨ k = 2 ∨ k = 3 ∨ k = 4 ∨ k = 5:=by omega
  rcases hx with rfl | rfl | rfl | rfl | rfl | rfl
  ·cases hB:inB 0 6400 fa
   ·go_wp2_with (go_at_call 21;refine (l1In_any _ _ _ _).mono ?_;rintro e w' ⟨rfl,rfl⟩)
    go_ret
    exact ⟨ret_bool (fontB_not (by have:=inB_no hB;omega)),((Below.refl _ _).alloc (Nat.le_refl _) _).alloc (by simp) _⟩
   ·go_wp2_with (go_at_call 21;refine (l1In_any _ _ _ _).mono ?_;rintro e w' ⟨rfl,rfl⟩)
    go_round
    case rel=>exact ⟨1,by omega,rfl,by have h:=HP.out;have:=inB_yes hB;unfold partsOk at h ⊢;omega⟩
    case measure=>simp [intOf]
  ·cases hB:inB 0 6400 fd
   ·go_wp2_with (go_at_call 21;refine (l1In_any _ _ _ _).mono ?_;rintro e w' ⟨rfl,rfl⟩)
    go_ret
    exact ⟨ret_bool (fontB_not (by have:=inB_no hB;omega)),((Below.refl _ _).alloc (Nat.le_refl _) _).alloc (by simp) _⟩
   ·go_wp2_with (go_at_call 21;refine (l1In_any _ _ _ _).mono ?_;rintro e w' ⟨rfl,rfl⟩)
    go_round
    case rel=>exact ⟨2,by omega,rfl,by have h:=HP.out;have:=inB_yes hB;unfold partsOk at h ⊢;omega⟩
    case measure=>simp [intOf]
  ·cases hB:inB 0 6400 fn
   ·go_wp2_with (go_at_call 21;refine (l1In_any _ _ _ _).mono ?_;rintro e w' ⟨rfl,rfl⟩)
    go_ret
    exact ⟨ret_bool (fontB_not (by have:=inB_no hB;omega)),((Below.refl _ _).alloc (Nat.le_refl _) _).alloc (by simp) _⟩
   ·go_wp2_with (go_at_call 21;refine (l1In_any _ _ _ _).mono ?_;rintro e w' ⟨rfl,rfl⟩)
    go_round
    case rel=>exact ⟨3,by omega,rfl,by have h:=HP.out;have:=inB_yes hB;unfold partsOk at h ⊢;omega⟩
    case measure=>simp [intOf]
  ·cases hB:inB 0 6400 fu
   ·go_wp2_with (go_at_call 21;refine (l1In_any _ _ _ _).mono ?_;rintro e w' ⟨rfl,rfl⟩)
    go_ret
    exact ⟨ret_bool (fontB_not (by have:=inB_no hB;omega)),((Below.refl _ _).alloc (Nat.le_refl _) _).alloc (by simp) _⟩
   ·go_wp2_with (go_at_call 21;refine (l1In_any _ _ _ _).mono ?_;rintro e w' ⟨rfl,rfl⟩)
    go_round
    case rel=>exact ⟨4,by omega,rfl,by have h:=HP.out;have:=inB_yes hB;unfold partsOk at h ⊢;omega⟩
    case measure=>simp [intOf]
  ·cases hB:inB 0 6400 fb
   ·go_wp2_with (go_at_call 21;refine (l1In_any _ _ _ _).mono ?_;rintro e w' ⟨rfl,rfl⟩)
    go_ret
    exact ⟨ret_bool (fontB_not (by have:=inB_no hB;omega)),((Below.refl _ _).alloc (Nat.le_refl _) _).alloc (by simp) _⟩
   ·go_wp2_with (go_at_call 21;refine (l1In_any _ _ _ _).mono ?_;rintro e w' ⟨rfl,rfl⟩)
    go_round
    case rel=>exact ⟨5,by omega,rfl,by have h:=HP.out;have:=inB_yes hB;unfold partsOk at h ⊢;omega⟩
    case measure=>simp [intOf]
  ·by_cases g2:0 < fn
   rotate_left
   ·go_wp2
    go_ret
    exact ⟨ret_bool (fontB_not (by omega)),((Below.refl _ _).alloc (Nat.le_refl _) _).alloc (by simp) _⟩
   by_cases g3:0 < fu
   rotate_left
   ·go_wp2
    go_ret
    exact ⟨ret_bool (fontB_not (by omega)),((Below.refl _ _).alloc (Nat.le_refl _) _).alloc (by simp) _⟩
   by_cases g4:0 < fb
   rotate_left
   ·go_wp2
    go_ret
    exact ⟨ret_bool (fontB_not (by omega)),((Below.refl _ _).alloc (Nat.le_refl _) _).alloc (by simp) _⟩
   ·go_wp2
    go_ret
    exact ⟨ret_bool (fontB_mk (by have h:=HP.out;unfold partsOk at h;omega)),((Below.refl _ _).alloc (Nat.le_refl _) _).alloc (by simp) _⟩
theorem setRow_new (w:World) (old cs:Array Value) (t:TypeId) (fr:Nat × Nat):(w.alloc (.cells old t fr)).setRow w.heap.size cs = w.alloc (.cells cs t fr):=by
 have e:(w.heap.push (.cells old t fr)).modify w.heap.size (fun | .cells _ elem frozen=>.cells cs elem frozen | o=>o) = w.heap.push (.cells cs t fr):=by
  apply Array.ext_getElem?
  intro i
  rw [Array.getElem?_modify,Array.getElem?_push,Array.getElem?_push]
  by_cases hi:i = w.heap.size
  ·subst hi;simp
  ·rw [if_neg (fun e=>hi e.symm),if_neg hi,if_neg hi]
 show ({ w.alloc (.cells old t fr) with heap:=_ }:World) = _
 exact congrArg (fun h=>({ w with heap:=h }:World)) e
theorem heap_at (w:World) (o:Obj) (g:Nat) (h:w.heap.size = g):(w.alloc o).heap[g]? = some o:=h ▸ heap_alloc_new w o
theorem heap_in {w:World} {o x:Obj} {g:Nat} (h:w.heap[g]? = some x):(w.alloc o).heap[g]? = some x:=by
 have hlt:g < w.heap.size:=(Array.getElem?_eq_some_iff.1 h).1
 exact (_root_.Go.heap_alloc_old w o hlt).trans h
section
variable {P : Program}
theorem wpList_store_new {ops:Array Oper} {rest:List Oper} {o:Oper} {a:Act} {w:World} {Q:Exit → Act → World → Prop} (hgd:o.guard = none) (ty:TypeId) (x y:Operand) (ho:o.op = .store ty x y)
  (hd:o.dst = none) (cells:Array Value) (t:TypeId) (old:Array Value) (g:Nat) (hgs:w.heap.size = g) (hx:a.eval x = .pointer (some ⟨g,0,none⟩)) (hy:a.eval y = .agg cells)
  (hi:(P.info? ty).map (·.size) = some cells.size) (hold:old.size = cells.size) (h1:cells.all (·.oneCell') = true)
  (h:wpList P ops Q rest a (w.alloc (.cells cells t))):wpList P ops Q (o :: rest) a (w.alloc (.cells old t)):=by
 subst hgs
 refine wpList_store_rowTo hgd ty x y ho hd w.heap.size cells hx hy t old (heap_alloc_new _ _) hi hold h1 ?_
 rw [setRow_new]
 exact h
/-- A row with some cells set, one behind the other. -/
def putL:List Value → Nat → List Value → List Value
 | l,_,[]=>l
 | l,i,v :: vs=>putL (l.set i v) (i + 1) vs
theorem putL_length:∀ (vs:List Value) (l:List Value) (i:Nat),(putL l i vs).length = l.length
 | [],_,_=>rfl
 | v :: vs,l,i=>by rw [putL,putL_length vs];simp
theorem putL_eq:∀ (vs:List Value) (l:List Value) (i:Nat),i + vs.length ≤ l.length → putL l i vs = l.take i ++ vs ++ l.drop (i + vs.length)
 | [],l,i,_=>by simp [putL]
 | v :: vs,l,i,h=>by
  have hi:i < l.length:=by simp at h;omega
  rw [putL,putL_eq vs (l.set i v) (i + 1) (by simp at h ⊢;omega)]
  rw [List.take_succ_eq_append_getElem (by simpa using hi)]
  have e1:(l.set i v).take i = l.take i:=by rw [List.take_set_of_le (Nat.le_refl i)]
  have e2:(l.set i v)[i]'(by simpa using hi) = v:=by simp
  have e3:(l.set i v).drop (i + 1 + vs.length) = l.drop (i + (v :: vs).length):=by
   rw [List.drop_set_of_lt (by omega)]
   congr 1
   simp
   omega
  rw [e1,e2,e3]
  simp
def putA (c:Array Value) (i:Nat) (vs:List Value):Array Value:=(putL c.toList i vs).toArray
theorem putA_size (c:Array Value) (i:Nat) (vs:List Value):(putA c i vs).size = c.size:=by simp [putA,putL_length]
/-- The world behind a store into block g: all else is as it was. -/
structure Put (g:Nat) (w w':World):Prop where
 os:w'.os = w.os
 tape:w'.tape = w.tape
 output:w'.output = w.output
 size:w'.heap.size = w.heap.size
 other:∀ k,k ≠ g → w'.heap[k]? = w.heap[k]?
theorem Put.below {g B:Nat} {w0 w w':World} (p:Put g w w') (h:Below B w0 w) (hB:B ≤ g):Below B w0 w' :=
 h.trans ⟨p.os,p.tape,p.output,Nat.le_of_eq p.size.symm,fun k hk=>p.other k (by omega)⟩
theorem Put.lies {g k:Nat} {w w':World} {x:Option Obj} (p:Put g w w') (h:w.heap[k]? = x) (ne:k ≠ g):w'.heap[k]? = x:=(p.other k ne).trans h
theorem put_setRow (w:World) (g:Nat) (cs:Array Value):Put g w (w.setRow g cs):=⟨rfl,rfl,rfl,setRow_size w g cs,fun k hk=>setRow_other w g k cs hk⟩
theorem below_lies {B k:Nat} {w w':World} {x:Option Obj} (b:Below B w w') (h:w.heap[k]? = x) (hk:k < B):w'.heap[k]? = x:=(b.block k hk).trans h
theorem lies_cell {w:World} {g:Nat} {c:Array Value} {t:TypeId} {fr:Nat × Nat} (h:w.heap[g]? = some (.cells c t fr)):∀ j,w.cell? ⟨g,j,none⟩ = c[j]?:=fun j=>cell_of_row w g j c t fr h
theorem lies_lt {w:World} {g:Nat} {x:Obj} (h:w.heap[g]? = some x):g < w.heap.size:=(Array.getElem?_eq_some_iff.1 h).1
theorem wpList_put {ops:Array Oper} {rest:List Oper} {o:Oper} {a:Act} {w:World} {Q:Exit → Act → World → Prop} (hgd:o.guard = none) (ty:TypeId) (x y:Operand) (ho:o.op = .store ty x y)
  (hd:o.dst = none) (g i:Nat) (vs:List Value) (c:Array Value) (t:TypeId) (hx:a.eval x = .pointer (some ⟨g,i,none⟩)) (hy:(a.eval y).cells.toList = vs)
  (hg:w.heap[g]? = some (.cells c t (0,0))) (hi:(P.info? ty).map (·.size) = some vs.length) (hl:i + vs.length ≤ c.size) (h1:vs.all (·.oneCell') = true)
  (h:∀ w',Put g w w' → w'.heap[g]? = some (.cells (c.toList.take i ++ vs ++ c.toList.drop (i + vs.length)).toArray t (0,0)) → wpList P ops Q rest a w'):wpList P ops Q (o :: rest) a w:=by
 refine wpList_plain hgd fun K hK=>?_
 unfold Oper.wp execOp
 have hs:=run_storeCells_at (P:=P) g i t vs 0 c w hg (by simpa using hl) (fun v hv=>(List.all_eq_true.1 h1) v hv)
 simp only [Nat.add_zero] at hs
 cases hq:P.info? ty with
 | none=>simp [hq] at hi
 | some inf =>
  have hsz:(a.eval y).cells.size = inf.size:=by
   have:=congrArg List.length hy
   simp [hq] at hi
   simp at this
   omega
  have hsv:(storeVar ty ⟨g,i,none⟩ (a.eval y)).run P w = .ok () (w.setRow g (c.toList.take i ++ vs ++ c.toList.drop (i + vs.length)).toArray):=by
   simp [storeVar,sizeOf,typeInfo,hq,hsz,hy,hs]
  simp only [ho,hx,Instr.storeAt,Instr.sureAddr,Sem.run_bind,Sem.run_pure,Result.andThen_ok,hsv]
  refine hK _ _ ?_
  rw [hd]
  exact h _ (put_setRow _ _ _) (setRow_heap w g c _ t _ hg)
theorem wpList_putA {ops:Array Oper} {rest:List Oper} {o:Oper} {a:Act} {w:World} {Q:Exit → Act → World → Prop} (hgd:o.guard = none) (ty:TypeId) (x y:Operand) (ho:o.op = .store ty x y)
  (hd:o.dst = none) (g i n:Nat) (vs:List Value) (c:Array Value) (t:TypeId) (hx:a.eval x = .pointer (some ⟨g,i,none⟩)) (hy:(a.eval y).cells.toList = vs)
  (hg:w.heap[g]? = some (.cells c t (0,0))) (hn:c.size = n) (hi:(P.info? ty).map (·.size) = some vs.length) (hl:Nat.ble (i + vs.length) n = true) (h1:vs.all (·.oneCell') = true)
  (h:∀ w',Put g w w' → w'.heap[g]? = some (.cells (putA c i vs) t (0,0)) → (putA c i vs).size = n → wpList P ops Q rest a w'):wpList P ops Q (o :: rest) a w:=by
 have hl':i + vs.length ≤ c.size:=by rw [hn];exact Nat.le_of_ble_eq_true hl
 refine wpList_put hgd ty x y ho hd g i vs c t hx hy hg hi hl' h1 fun w' p q=>h w' p ?_ ((putA_size c i vs).trans hn)
 rw [q,putA,putL_eq vs c.toList i (by simpa using hl')]
end
structure Sz where
 a:Bool
 p:Bool
 n:Int
structure St where
 sh:Int
 fl:Int
 cl:Int
 w:Sz
 h:Sz
 mn:Int
 mx:Int
 mt:Int
 mr:Sz
 mb:Int
 ml:Sz
 bo:Int
 pa:Int
 wh:Int
 al:Int
 lh:Int
 ri:Int
 dn:Int
set_option maxRecDepth 100000 in
theorem specPlain_at (w:World) :
  Calls Tryz.prog 48 #[] w fun e w'=>e = .returned (.agg #[.int .i64 1,.int .i64 0,.int .i64 0,.bool true,.bool false,.int .i64 0,.bool true,.bool false,.int .i64 0,.int .i64 0,.int .i64 (-1),.int .i64 0,.bool false,.bool false,.int .i64 0,.int .i64 0,.bool false,.bool false,.int .i64 0,.int .i64 0,.int .i64 0,.int .i64 1,.int .i64 1,.int .i64 0,.int .i64 0,.int .i64 0]) ∧ w' = w.alloc (.cells (#[.int .i64 1,.int .i64 0,.int .i64 0,.bool true,.bool false,.int .i64 0,.bool true,.bool false,.int .i64 0,.int .i64 0,.int .i64 (-1),.int .i64 0,.bool false,.bool false,.int .i64 0,.int .i64 0,.bool false,.bool false,.int .i64 0,.int .i64 0,.int .i64 0,.int .i64 1,.int .i64 1,.int .i64 0,.int .i64 0,.int .i64 0]) 73):=by
 go_enter Tryz.func48,Tryz.ntmps48
 go_wp2_with (first | (refine wpList_buildTo rfl 73 _ rfl _ rfl (#[.int .i64 1,.int .i64 0,.int .i64 0,.bool true,.bool false,.int .i64 0,.bool true,.bool false,.int .i64 0,.int .i64 0,.int .i64 (-1),.int .i64 0,.bool false,.bool false,.int .i64 0,.int .i64 0,.bool false,.bool false,.int .i64 0,.int .i64 0,.int .i64 0,.int .i64 1,.int .i64 1,.int .i64 0,.int .i64 0,.int .i64 0]) (by kernel_rfl) ?_) | (refine wpList_store_new rfl 73 _ _ rfl rfl (#[.int .i64 1,.int .i64 0,.int .i64 0,.bool true,.bool false,.int .i64 0,.bool true,.bool false,.int .i64 0,.int .i64 0,.int .i64 (-1),.int .i64 0,.bool false,.bool false,.int .i64 0,.int .i64 0,.bool false,.bool false,.int .i64 0,.int .i64 0,.int .i64 0,.int .i64 1,.int .i64 1,.int .i64 0,.int .i64 0,.int .i64 0]) 73 _ _ rfl rfl rfl (by kernel_rfl) rfl (by kernel_rfl) ?_))
 exact bodyPost_ret (v:=.agg #[.int .i64 1,.int .i64 0,.int .i64 0,.bool true,.bool false,.int .i64 0,.bool true,.bool false,.int .i64 0,.int .i64 0,.int .i64 (-1),.int .i64 0,.bool false,.bool false,.int .i64 0,.int .i64 0,.bool false,.bool false,.int .i64 0,.int .i64 0,.int .i64 0,.int .i64 1,.int .i64 1,.int .i64 0,.int .i64 0,.int .i64 0]) (results_cell_row Tryz.results48 _ _ _ _ _ _ _ rfl (heap_alloc_new _ _) Tryz.underlying73 rfl (by kernel_rfl)) rfl ⟨rfl,rfl⟩
set_option maxRecDepth 100000 in
theorem implPlain_at (w:World) :
  Calls Tryz.prog 86 #[] w fun e w'=>e = .returned (.agg #[.int .i64 1,.int .i64 0,.int .i64 0,.bool true,.bool false,.int .i64 0,.bool true,.bool false,.int .i64 0,.int .i64 0,.int .i64 (-1),.int .i64 0,.bool false,.bool false,.int .i64 0,.int .i64 0,.bool false,.bool false,.int .i64 0,.int .i64 0,.int .i64 0,.int .i64 1,.int .i64 1,.int .i64 0,.int .i64 0,.int .i64 0]) ∧ w' = w.alloc (.cells (#[.int .i64 1,.int .i64 0,.int .i64 0,.bool true,.bool false,.int .i64 0,.bool true,.bool false,.int .i64 0,.int .i64 0,.int .i64 (-1),.int .i64 0,.bool false,.bool false,.int .i64 0,.int .i64 0,.bool false,.bool false,.int .i64 0,.int .i64 0,.int .i64 0,.int .i64 1,.int .i64 1,.int .i64 0,.int .i64 0,.int .i64 0]) 73):=by
 go_enter Tryz.func86,Tryz.ntmps86
 go_wp2_with (first | (refine wpList_buildTo rfl 73 _ rfl _ rfl (#[.int .i64 1,.int .i64 0,.int .i64 0,.bool true,.bool false,.int .i64 0,.bool true,.bool false,.int .i64 0,.int .i64 0,.int .i64 (-1),.int .i64 0,.bool false,.bool false,.int .i64 0,.int .i64 0,.bool false,.bool false,.int .i64 0,.int .i64 0,.int .i64 0,.int .i64 1,.int .i64 1,.int .i64 0,.int .i64 0,.int .i64 0]) (by kernel_rfl) ?_) | (refine wpList_store_new rfl 73 _ _ rfl rfl (#[.int .i64 1,.int .i64 0,.int .i64 0,.bool true,.bool false,.int .i64 0,.bool true,.bool false,.int .i64 0,.int .i64 0,.int .i64 (-1),.int .i64 0,.bool false,.bool false,.int .i64 0,.int .i64 0,.bool false,.bool false,.int .i64 0,.int .i64 0,.int .i64 0,.int .i64 1,.int .i64 1,.int .i64 0,.int .i64 0,.int .i64 0]) 73 _ _ rfl rfl rfl (by kernel_rfl) rfl (by kernel_rfl) ?_))
 exact bodyPost_ret (v:=.agg #[.int .i64 1,.int .i64 0,.int .i64 0,.bool true,.bool false,.int .i64 0,.bool true,.bool false,.int .i64 0,.int .i64 0,.int .i64 (-1),.int .i64 0,.bool false,.bool false,.int .i64 0,.int .i64 0,.bool false,.bool false,.int .i64 0,.int .i64 0,.int .i64 0,.int .i64 1,.int .i64 1,.int .i64 0,.int .i64 0,.int .i64 0]) (results_cell_row Tryz.results86 _ _ _ _ _ _ _ rfl (heap_alloc_new _ _) Tryz.underlying73 rfl (by kernel_rfl)) rfl ⟨rfl,rfl⟩
def szB (a p:Bool) (n:Int):Bool:=if a then (!p && decide (n = 0)) else if p then inB (-100000) 100000 n else inB (-1000000) 1000000 n
theorem l3White_any (n:Int) (w:World):Calls Tryz.prog 73 #[.int .i64 n] w fun e w'=>e = .returned (.bool (inB 1 5 n)) ∧ w' = w:=by
 go_enter Tryz.func73,Tryz.ntmps73
 go_wp2_with (go_at_call 21;refine (l1In_any _ _ _ _).mono ?_;rintro e w' ⟨rfl,rfl⟩)
 go_ret
 exact ⟨rfl,rfl⟩
theorem specLen_any (n:Int) (w:World):Calls Tryz.prog 75 #[.int .i64 n] w fun e w'=>e = .returned (.bool (inB (-1000000) 1000000 n)) ∧ w' = w:=by
 go_enter Tryz.func75,Tryz.ntmps75
 go_wp2_with (go_at_call 21;refine (l1In_any _ _ _ _).mono ?_;rintro e w' ⟨rfl,rfl⟩)
 go_ret
 exact ⟨rfl,rfl⟩
theorem l4Size_any (a p:Bool) (n:Int) (w:World):Calls Tryz.prog 74 #[.agg #[.bool a,.bool p,.int .i64 n]] w fun e w'=>e = .returned (.bool (szB a p n)) ∧ Below w.heap.size w w':=by
 cases a
 ·cases p
  ·go_enter Tryz.func74,Tryz.ntmps74
   go_wp2_with (go_at_call 75;refine (specLen_any _ _).mono ?_;rintro e w' ⟨rfl,rfl⟩)
   go_ret
   exact ⟨rfl,(Below.refl _ _).alloc (Nat.le_refl _) _⟩
  ·go_enter Tryz.func74,Tryz.ntmps74
   go_wp2_with (go_at_call 21;refine (l1In_any _ _ _ _).mono ?_;rintro e w' ⟨rfl,rfl⟩)
   go_ret
   exact ⟨rfl,(Below.refl _ _).alloc (Nat.le_refl _) _⟩
 ·cases p
  ·by_cases hn:n = 0
   ·subst hn
    go_enter Tryz.func74,Tryz.ntmps74
    go_wp2
    go_ret
    exact ⟨rfl,(Below.refl _ _).alloc (Nat.le_refl _) _⟩
   ·go_enter Tryz.func74,Tryz.ntmps74
    go_wp2
    go_ret
    exact ⟨ret_bool (by simp [szB,hn]),(Below.refl _ _).alloc (Nat.le_refl _) _⟩
  ·go_enter Tryz.func74,Tryz.ntmps74
   go_wp2
   go_ret
   exact ⟨rfl,(Below.refl _ _).alloc (Nat.le_refl _) _⟩
end Go.Proofs.YtjnmloaopnbpgaaGreatDoor
