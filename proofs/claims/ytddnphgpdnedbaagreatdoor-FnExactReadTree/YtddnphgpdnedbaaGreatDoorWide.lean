/-
  Laws on structs of many cells in memory: a whole struct stored into the block that was laid last; which block lies where.
-/
import Derived.WalkKit
import Derived.ProofKit
import Derived.Great.Walk
import Derived.Below
namespace Go.Proofs.YtddnphgpdnedbaaGreatDoor
open Go.ChangeShapes Go.WideShapes Go.ChangeAt Go.RowKit
theorem setRow_new (w : World) (old cs : Array Value) (t : TypeId) (fr : Nat × Nat) : (w.alloc (.cells old t fr)).setRow w.heap.size cs = w.alloc (.cells cs t fr) := by
  have e : (w.heap.push (.cells old t fr)).modify w.heap.size (fun | .cells _ elem frozen => .cells cs elem frozen | o => o) = w.heap.push (.cells cs t fr) := by
    apply Array.ext_getElem?
    intro i
    rw [Array.getElem?_modify, Array.getElem?_push, Array.getElem?_push]
    by_cases hi : i = w.heap.size
    · subst hi; simp
    · rw [if_neg (fun e => hi e.symm), if_neg hi, if_neg hi]
  show ({ w.alloc (.cells old t fr) with heap := _ } : World) = _
  exact congrArg (fun h => ({ w with heap := h } : World)) e
theorem heap_at (w : World) (o : Obj) (g : Nat) (h : w.heap.size = g) : (w.alloc o).heap[g]? = some o := h ▸ heap_alloc_new w o
theorem heap_in {w : World} {o x : Obj} {g : Nat} (h : w.heap[g]? = some x) : (w.alloc o).heap[g]? = some x := by
  have hlt : g < w.heap.size := (Array.getElem?_eq_some_iff.1 h).1
  exact (_root_.Go.heap_alloc_old w o hlt).trans h
section
variable {P : Program}
theorem wpList_store_new {ops : Array Oper} {rest : List Oper} {o : Oper} {a : Act} {w : World} {Q : Exit → Act → World → Prop} (hgd : o.guard = none) (ty : TypeId) (x y : Operand) (ho : o.op = .store ty x y)
    (hd : o.dst = none) (cells : Array Value) (t : TypeId) (old : Array Value) (g : Nat) (hgs : w.heap.size = g) (hx : a.eval x = .pointer (some ⟨g, 0, none⟩)) (hy : a.eval y = .agg cells)
    (hi : (P.info? ty).map (·.size) = some cells.size) (hold : old.size = cells.size) (h1 : cells.all (·.oneCell') = true)
    (h : wpList P ops Q rest a (w.alloc (.cells cells t))) : wpList P ops Q (o :: rest) a (w.alloc (.cells old t)) := by
  subst hgs
  refine wpList_store_rowTo hgd ty x y ho hd w.heap.size cells hx hy t old (heap_alloc_new _ _) hi hold h1 ?_
  rw [setRow_new]
  exact h

/-- A row with some cells set, one behind the other. -/
def putL : List Value → Nat → List Value → List Value
  | l, _, [] => l
  | l, i, v :: vs => putL (l.set i v) (i + 1) vs
theorem putL_length : ∀ (vs : List Value) (l : List Value) (i : Nat), (putL l i vs).length = l.length
  | [], _, _ => rfl
  | v :: vs, l, i => by rw [putL, putL_length vs]; simp
theorem putL_eq : ∀ (vs : List Value) (l : List Value) (i : Nat), i + vs.length ≤ l.length → putL l i vs = l.take i ++ vs ++ l.drop (i + vs.length)
  | [], l, i, _ => by simp [putL]
  | v :: vs, l, i, h => by
    have hi : i < l.length := by simp at h; omega
    rw [putL, putL_eq vs (l.set i v) (i + 1) (by simp at h ⊢; omega)]
    rw [List.take_succ_eq_append_getElem (by simpa using hi)]
    have e1 : (l.set i v).take i = l.take i := by rw [List.take_set_of_le (Nat.le_refl i)]
    have e2 : (l.set i v)[i]'(by simpa using hi) = v := by simp
    have e3 : (l.set i v).drop (i + 1 + vs.length) = l.drop (i + (v :: vs).length) := by
      rw [List.drop_set_of_lt (by omega)]
      congr 1
      simp
      omega
    rw [e1, e2, e3]
    simp
def putA (c : Array Value) (i : Nat) (vs : List Value) : Array Value := (putL c.toList i vs).toArray
theorem putA_size (c : Array Value) (i : Nat) (vs : List Value) : (putA c i vs).size = c.size := by simp [putA, putL_length]

/-- The world behind a store into block g: all else is as it was. -/
structure Put (g : Nat) (w w' : World) : Prop where
  os : w'.os = w.os
  tape : w'.tape = w.tape
  output : w'.output = w.output
  size : w'.heap.size = w.heap.size
  other : ∀ k, k ≠ g → w'.heap[k]? = w.heap[k]?
theorem Put.below {g B : Nat} {w0 w w' : World} (p : Put g w w') (h : Below B w0 w) (hB : B ≤ g) : Below B w0 w' :=
  h.trans ⟨p.os, p.tape, p.output, Nat.le_of_eq p.size.symm, fun k hk => p.other k (by omega)⟩
theorem Put.lies {g k : Nat} {w w' : World} {x : Option Obj} (p : Put g w w') (h : w.heap[k]? = x) (ne : k ≠ g) : w'.heap[k]? = x := (p.other k ne).trans h
theorem put_setRow (w : World) (g : Nat) (cs : Array Value) : Put g w (w.setRow g cs) := ⟨rfl, rfl, rfl, setRow_size w g cs, fun k hk => setRow_other w g k cs hk⟩
theorem below_lies {B k : Nat} {w w' : World} {x : Option Obj} (b : Below B w w') (h : w.heap[k]? = x) (hk : k < B) : w'.heap[k]? = x := (b.block k hk).trans h
theorem lies_cell {w : World} {g : Nat} {c : Array Value} {t : TypeId} {fr : Nat × Nat} (h : w.heap[g]? = some (.cells c t fr)) : ∀ j, w.cell? ⟨g, j, none⟩ = c[j]? := fun j => cell_of_row w g j c t fr h
theorem lies_lt {w : World} {g : Nat} {x : Obj} (h : w.heap[g]? = some x) : g < w.heap.size := (Array.getElem?_eq_some_iff.1 h).1

theorem wpList_put {ops : Array Oper} {rest : List Oper} {o : Oper} {a : Act} {w : World} {Q : Exit → Act → World → Prop} (hgd : o.guard = none) (ty : TypeId) (x y : Operand) (ho : o.op = .store ty x y)
    (hd : o.dst = none) (g i : Nat) (vs : List Value) (c : Array Value) (t : TypeId) (hx : a.eval x = .pointer (some ⟨g, i, none⟩)) (hy : (a.eval y).cells.toList = vs)
    (hg : w.heap[g]? = some (.cells c t (0, 0))) (hi : (P.info? ty).map (·.size) = some vs.length) (hl : i + vs.length ≤ c.size) (h1 : vs.all (·.oneCell') = true)
    (h : ∀ w', Put g w w' → w'.heap[g]? = some (.cells (c.toList.take i ++ vs ++ c.toList.drop (i + vs.length)).toArray t (0, 0)) → wpList P ops Q rest a w') : wpList P ops Q (o :: rest) a w := by
  refine wpList_plain hgd fun K hK => ?_
  unfold Oper.wp execOp
  have hs := run_storeCells_at (P := P) g i t vs 0 c w hg (by simpa using hl) (fun v hv => (List.all_eq_true.1 h1) v hv)
  simp only [Nat.add_zero] at hs
  cases hq : P.info? ty with
  | none => simp [hq] at hi
  | some inf =>
    have hsz : (a.eval y).cells.size = inf.size := by
      have := congrArg List.length hy
      simp [hq] at hi
      simp at this
      omega
    have hsv : (storeVar ty ⟨g, i, none⟩ (a.eval y)).run P w = .ok () (w.setRow g (c.toList.take i ++ vs ++ c.toList.drop (i + vs.length)).toArray) := by
      simp [storeVar, sizeOf, typeInfo, hq, hsz, hy, hs]
    simp only [ho, hx, Instr.storeAt, Instr.sureAddr, Sem.run_bind, Sem.run_pure, Result.andThen_ok, hsv]
    refine hK _ _ ?_
    rw [hd]
    exact h _ (put_setRow _ _ _) (setRow_heap w g c _ t _ hg)

theorem wpList_putA {ops : Array Oper} {rest : List Oper} {o : Oper} {a : Act} {w : World} {Q : Exit → Act → World → Prop} (hgd : o.guard = none) (ty : TypeId) (x y : Operand) (ho : o.op = .store ty x y)
    (hd : o.dst = none) (g i n : Nat) (vs : List Value) (c : Array Value) (t : TypeId) (hx : a.eval x = .pointer (some ⟨g, i, none⟩)) (hy : (a.eval y).cells.toList = vs)
    (hg : w.heap[g]? = some (.cells c t (0, 0))) (hn : c.size = n) (hi : (P.info? ty).map (·.size) = some vs.length) (hl : Nat.ble (i + vs.length) n = true) (h1 : vs.all (·.oneCell') = true)
    (h : ∀ w', Put g w w' → w'.heap[g]? = some (.cells (putA c i vs) t (0, 0)) → (putA c i vs).size = n → wpList P ops Q rest a w') : wpList P ops Q (o :: rest) a w := by
  have hl' : i + vs.length ≤ c.size := by rw [hn]; exact Nat.le_of_ble_eq_true hl
  refine wpList_put hgd ty x y ho hd g i vs c t hx hy hg hi hl' h1 fun w' p q => h w' p ?_ ((putA_size c i vs).trans hn)
  rw [q, putA, putL_eq vs c.toList i (by simpa using hl')]

theorem wp_gen3 {c : Code} {Q : Exit → Act → World → Prop} {a : Act} {w : World} {A B C : Obj}
    (h : ∀ W, Below w.heap.size w W → W.heap[w.heap.size]? = some A → W.heap[w.heap.size + 1]? = some B → W.heap[w.heap.size + 1 + 1]? = some C → c.wp P Q a W) : c.wp P Q a (((w.alloc A).alloc B).alloc C) :=
  h _ ((((Below.refl _ _).alloc (Nat.le_refl _) _).alloc (by simp) _).alloc (by simp; omega) _) (heap_in (heap_in (heap_at _ _ _ rfl))) (heap_in (heap_at _ _ _ (by simp))) (heap_at _ _ _ (by simp))
end
end Go.Proofs.YtddnphgpdnedbaaGreatDoor
