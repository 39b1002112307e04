/-
  The program's copied: a text's bytes in memory of their own.
  The program's readNode: what a line says of a node.
  A range over strings.Lines: the iterator keeps what is left of its text in a cell of its own.
  The statement 'for line := range strings.Lines(s)', by one walk of its body.
  Lines of a tree's text as the program takes them apart: plain mathematics.
  What a round of the reader carries from step to step.
-/
import Derived.Test.YtddnphgpdnedbaaGreatDoorRows
import Derived.Test.YtddnphgpdnedbaaGreatDoorWide
import Derived.WalkSpells
import Derived.WalkSmall
import Derived.Lib.BufferWrite
import Derived.Laws.IdiomStrings
import Derived.OwnWalk
import Derived.Test.YtddnphgpdnedbaaGreatDoorMRr
import Derived.Test.YtddnphgpdnedbaaGreatDoorMGh
import Derived.Test.YtddnphgpdnedbaaGreatDoorMTr
import Derived.Test.YtddnphgpdnedbaaGreatDoorShelfD
import Derived.Test.YtddnphgpdnedbaaGreatDoorMRe
import Derived.Test.YtddnphgpdnedbaaGreatDoorShelf
import Derived.RangeFuncNested
import Derived.RangeFuncBound
import Derived.RangeFuncCalls
import Derived.RangeFuncLeaves
import Derived.RangeFuncFrom
import Derived.Shelf.Abstract
import Derived.Shelf.RegionOpen
import Derived.WalkKit
import Derived.OwnWalkIn
import Derived.TacticsInMore
import Derived.LoopNIn
import Derived.LoopIn
import Derived.Lib.TrimByte
namespace Go.Proofs.YtddnphgpdnedbaaGreatDoor
open Go.ChangeShapes Go.WideShapes Go.ChangeAt Go.RowKit
set_option linter.unusedVariables false

theorem Tryz.infoCp : (Tryz.prog.info? 5).map (fun i => (i.zero, i.size, i.bytes)) = some (some (.int .u8 0), 1, 1) := by kernel_rfl
theorem cpSize : (Tryz.prog.info? 5).map (·.size) = some 1 := by kernel_rfl
/-- Block g is the bytes l and nothing else. -/
def CRow (w : World) (g : Nat) (l : List UInt8) : Prop := w.heap[g]? = some (.cells (Lib.byteCells l).toArray 5 (0, 0))
theorem CRow.cell {w : World} {g : Nat} {l : List UInt8} (h : CRow w g l) {k : Nat} (hk : k < l.length) : w.cell? ⟨g, k, none⟩ = some (.int .u8 ((l.getD k 0).toNat : Int)) := by
  refine (lies_cell h k).trans ?_
  simp [Lib.byteCells, List.getD_eq_getElem?_getD, hk]
theorem CRow.frozen {w : World} {g : Nat} {l : List UInt8} (h : CRow w g l) (k : Nat) : w.frozen? ⟨g, k, none⟩ = false := Lib.frozen_of_heap h k
theorem CRow.below {w w' : World} {g B : Nat} {l : List UInt8} (h : CRow w g l) (hb : Below B w w') (hg : g < B) : CRow w' g l := below_lies hb h hg
theorem CRow.set {w : World} {g k : Nat} {l : List UInt8} (h : CRow w g l) (c : UInt8) (z : Int) (hz : z = (c.toNat : Int)) : CRow (w.setCell ⟨g, k, none⟩ (.int .u8 z)) g (l.set k c) := by
  show (w.setCell ⟨g, k, none⟩ (.int .u8 z)).heap[g]? = _
  rw [Lib.heap_setCell_same h, hz]
  simp [Lib.byteCells, List.map_set]
theorem CRow.back {w : World} {g : Nat} {l : List UInt8} (h : CRow w g l) (n cap : Nat) (hn : n = l.length) : (convert 58 9 (.slice (some ⟨g, 0, none⟩) n cap)).run Tryz.prog w = .ok (.string ⟨l.toArray⟩) w := by
  subst hn
  exact run_convert_bytes_back w 58 9 5 ⟨g, 0, none⟩ cap l Tryz.underlying58 Tryz.underlying5 Tryz.underlying9 (fun j hj => by
    have hadd : (⟨g, 0, none⟩ : Addr).add j = ⟨g, j, none⟩ := by unfold Addr.add; split <;> simp_all
    rw [hadd, h.cell hj]
    simp [List.getD_eq_getElem?_getD, hj])
set_option maxRecDepth 100000 in
set_option maxHeartbeats 2000000 in
theorem copied_own (s : ByteArray) (w : World) (hs : s.size ≤ 1048576) :
    Calls Tryz.prog 54 #[.string s] w fun e w' => e = .returned (.slice (some ⟨w.heap.size, 0, none⟩) s.size s.size) ∧ CRow w' w.heap.size s.data.toList ∧ Below w.heap.size w w' := by
  obtain ⟨i0, hi, hz0, hz1, hz2⟩ := info_parts Tryz.infoCp
  go_enter Tryz.func54, Tryz.ntmps54
  go_wp2_with (at_make; refine wpList_make_full _ rfl (.tmp 5) (.tmp 5) 58 rfl w.heap.size 5 i0 (.int .u8 0) 1 Tryz.underlying58 hi hz0 hz1 .i64 .i64 s.size s.size s.size rfl rfl rfl rfl (by rw [hz2]; omega) (by unfold maxLen; omega) (Nat.le_refl _) ?_; intro w1 hown hgrow)
  obtain ⟨cur, hc, hcs⟩ : ∃ cur, w1.heap[w.heap.size]? = some (.cells cur 5 (0, 0)) ∧ cur.size = s.size := by
    rcases hown.2 with ⟨h, _⟩ | ⟨g, cap, cur, h, _, hg, _, _, h2, _⟩
    · cases h
    · injection h with h3 h4 h5
      injection h3 with h3
      injection h3 with h3
      subst h3
      subst h5
      exact ⟨cur, hg, by simpa using h2⟩
  have hb1 : Below w.heap.size w w1 := (Below.refl _ _).grown hgrow (Nat.le_refl _) (by intro j hj; cases hj)
  have e1 : (cur.toList.take 0 ++ Lib.byteCells s.data.toList ++ cur.toList.drop (0 + s.size)).toArray = (Lib.byteCells s.data.toList).toArray := by
    rw [List.take_zero, List.nil_append, List.drop_eq_nil_of_le (by simp; omega), List.append_nil]
  have R := Lib.run_copy_row_string w1 58 9 3 5 w.heap.size 0 s.size s.size s cur 5 Tryz.underlying58 cpSize hc (Nat.le_refl _) (by omega)
  rw [e1] at R
  have l2 : CRow (w1.setRow w.heap.size (Lib.byteCells s.data.toList).toArray) w.heap.size s.data.toList := setRow_heap _ _ _ _ _ _ hc
  have b2 : Below w.heap.size w (w1.setRow w.heap.size (Lib.byteCells s.data.toList).toArray) := (put_setRow _ _ _).below hb1 (Nat.le_refl _)
  generalize w1.setRow w.heap.size (Lib.byteCells s.data.toList).toArray = w2 at R l2 b2
  clear e1 hc hown hgrow hb1
  go_wp2_with fail
  rw [R]
  simp only [Result.andThen]
  rw [Oper.upon_value]
  go_wp2
  go_ret
  exact ⟨rfl, l2, b2⟩
theorem copied_any (s : ByteArray) (n : Nat) (w : World) (hn : n = s.size) (hs : n ≤ 1048576) :
    Calls Tryz.prog 54 #[.string s] w fun e w' => e = .returned (.slice (some ⟨w.heap.size, 0, none⟩) n n) ∧ CRow w' w.heap.size s.data.toList ∧ Below w.heap.size w w' := by
  subst hn
  exact copied_own s w hs
end Go.Proofs.YtddnphgpdnedbaaGreatDoor

namespace Go.Proofs.YtddnphgpdnedbaaGreatDoor
open Go.ChangeShapes Go.WideShapes Go.ChangeAt Go.RowKit
set_option linter.unusedVariables false

/-- What the program reads beside its arguments. -/
structure EnvZ (w : World) : Prop where
  e : Env w
  s : ∃ au ab, Sent w au ab
  t : ErrT w
  u : ∃ et ev, w.cell? ⟨1, 0, none⟩ = some (.iface et ev)
theorem EnvZ.below {w w' : World} {B : Nat} (h : EnvZ w) (hb : Below B w w') (hB : w.heap.size ≤ B) : EnvZ w' := by
  have hb' := hb.mono hB
  obtain ⟨au, ab, hs⟩ := h.s
  obtain ⟨et, ev, hu⟩ := h.u
  exact ⟨h.e.below hb hB, ⟨au, ab, hs.below hb'⟩, h.t.below hb', ⟨et, ev, (hb'.cell (p := ⟨1, 0, none⟩) (World.block_lt_of_cell? _ ⟨1, 0, none⟩ hu)).trans hu⟩⟩
theorem readStyleZ (s : ByteArray) (w : World) (hs : s.size ≤ 1048576) (E : EnvZ w) :
    Calls Tryz.prog 55 #[.string s] w fun e w' => ((∃ Y : St, e = .returned (.tuple #[.agg (#[.int .i64 Y.sh, .int .i64 Y.fl, .int .i64 Y.cl, .bool Y.w.a, .bool Y.w.p, .int .i64 Y.w.n, .bool Y.h.a, .bool Y.h.p, .int .i64 Y.h.n, .int .i64 Y.mn, .int .i64 Y.mx, .int .i64 Y.mt, .bool Y.mr.a, .bool Y.mr.p, .int .i64 Y.mr.n, .int .i64 Y.mb, .bool Y.ml.a, .bool Y.ml.p, .int .i64 Y.ml.n, .int .i64 Y.bo, .int .i64 Y.pa, .int .i64 Y.wh, .int .i64 Y.al, .int .i64 Y.lh, .int .i64 Y.ri, .int .i64 Y.dn]), .bool true]) ∧ Rel s Y ∧ ∀ X, Rel s X → X = Y) ∨ (e = .returned (.tuple #[.agg (#[.int .i64 0, .int .i64 0, .int .i64 0, .bool false, .bool false, .int .i64 0, .bool false, .bool false, .int .i64 0, .int .i64 0, .int .i64 0, .int .i64 0, .bool false, .bool false, .int .i64 0, .int .i64 0, .bool false, .bool false, .int .i64 0, .int .i64 0, .int .i64 0, .int .i64 0, .int .i64 0, .int .i64 0, .int .i64 0, .int .i64 0]), .bool false]) ∧ ¬ ∃ X, Rel s X)) ∧ Below w.heap.size w w' := by
  obtain ⟨au, ab, hS⟩ := E.s
  exact implReadStyle_any s w hs E.e au ab hS E.t E.u (ghost s)
def cpB (t : ByteArray) (c : UInt8) : Bool := Lib.hasPrefix t.data.toList [c]
def cpT (t : ByteArray) (c : UInt8) : ByteArray := ⟨(Lib.trimPrefix t.data.toList [c]).toArray⟩
theorem cpT_size (t : ByteArray) (c : UInt8) : (cpT t c).size ≤ t.size := by
  have h := Lib.trimPrefix_le t.data.toList [c]
  have e : (cpT t c).size = (Lib.trimPrefix t.data.toList [c]).length := by
    show (Lib.trimPrefix t.data.toList [c]).toArray.size = _
    simp
  rw [e, Lib.size_eq]
  exact h
theorem cutNode_any (t : ByteArray) (c : UInt8) (w : World) :
    Calls Tryz.prog 53 #[.string t, .string ⟨#[c]⟩] w fun e w' => e = .returned (.tuple #[.string (cpT t c), .bool (cpB t c)]) ∧ w' = w := Tryz.strings_CutPrefix t ⟨#[c]⟩ w
/-- What a line says of a node. -/
def RdN (t : ByteArray) (y : Nd) (b : Bool) : Prop :=
  (cpB t 124 = true ∧ b = true ∧ y = ⟨0, cpT t 124, z0⟩) ∨
  (cpB t 124 = false ∧ ((cpB t 60 = true ∧ b = true ∧ Rel (cpT t 60) y.st ∧ (∀ X, Rel (cpT t 60) X → X = y.st) ∧ y = ⟨0, ByteArray.empty, y.st⟩) ∨ (b = false ∧ (cpB t 60 = true → ¬ ∃ X, Rel (cpT t 60) X))))
set_option maxRecDepth 100000 in
set_option maxHeartbeats 4000000 in
theorem readNode_any (t : ByteArray) (w : World) (hs : t.size ≤ 1048576) (E : EnvZ w) :
    Calls Tryz.prog 27 #[.string t] w fun e w' => (∃ (y : Nd) (b : Bool), e = .returned (.tuple #[.agg (ndL y).toArray, .bool b]) ∧ RdN t y b) ∧ Below w.heap.size w w' := by
  have C1 := fun W => cutNode_any t 124 W
  have C2 := fun W => cutNode_any t 60 W
  have s1 := cpT_size t 124
  have s2 := cpT_size t 60
  have HE : Hid (EnvZ w) := E
  clear E
  cases h1 : cpB t 124
  · have HP : Hid (∀ (y : Nd) (b : Bool), ((cpB t 60 = true ∧ b = true ∧ Rel (cpT t 60) y.st ∧ (∀ X, Rel (cpT t 60) X → X = y.st) ∧ y = ⟨0, ByteArray.empty, y.st⟩) ∨ (b = false ∧ (cpB t 60 = true → ¬ ∃ X, Rel (cpT t 60) X))) → RdN t y b) := fun y b h => .inr ⟨h1, h⟩
    have RS := fun W E => readStyleZ (cpT t 60) W (by omega) E
    rw [h1] at C1
    clear h1
    generalize cpT t 124 = x1 at C1 s1
    generalize cpT t 60 = x2 at C2 s2 RS HP
    generalize cpB t 60 = b2 at C2 HP
    go_enter Tryz.func27, Tryz.ntmps27
    iterate 12 go_step
    refine wp_gen1 ?_
    intro W bel l0 hz
    go_wp2_with fail
    refine (C1 _).mono ?_
    rintro e w1 ⟨rfl, hw⟩
    have hw := hw.symm
    subst hw
    clear C1
    go_wp2_with fail
    refine (C2 _).mono ?_
    rintro e w1 ⟨rfl, hw⟩
    have hw := hw.symm
    subst hw
    clear C2
    go_wp2_with fail
    refine (RS _ (HE.out.below bel (Nat.le_refl _))).mono ?_
    rintro e w2 ⟨hor, c⟩
    have l2 := below_lies c l0 (lies_lt l0)
    have b1 := bel.trans (c.mono bel.size)
    have z1 := lies_lt l2
    clear RS c l0 bel
    rcases hor with ⟨Y, rfl, hR, hU⟩ | ⟨rfl, hNo⟩
    · have HR : Hid (Rel x2 Y ∧ ∀ X, Rel x2 X → X = Y) := ⟨hR, hU⟩
      clear hR hU
      go_wp2_with ((with_reducible show wpList _ _ _ (⟨none, Op.store 34 (Operand.tmp 8) _, _, _, _, _⟩ :: _) _ _); refine wpList_store_box rfl 34 _ _ rfl rfl (#[.int .i64 Y.sh, .int .i64 Y.fl, .int .i64 Y.cl, .bool Y.w.a, .bool Y.w.p, .int .i64 Y.w.n, .bool Y.h.a, .bool Y.h.p, .int .i64 Y.h.n, .int .i64 Y.mn, .int .i64 Y.mx, .int .i64 Y.mt, .bool Y.mr.a, .bool Y.mr.p, .int .i64 Y.mr.n, .int .i64 Y.mb, .bool Y.ml.a, .bool Y.ml.p, .int .i64 Y.ml.n, .int .i64 Y.bo, .int .i64 Y.pa, .int .i64 Y.wh, .int .i64 Y.al, .int .i64 Y.lh, .int .i64 Y.ri, .int .i64 Y.dn]) rfl rfl (by kernel_rfl) rfl (by kernel_rfl) ?_; intro W4 bel4 l4 n4; refine stay ?_)
      have b4 := b1.trans (bel4.mono b1.size)
      have l24 := below_lies bel4 l2 z1
      unfold Stay
      clear bel4 l2 b1
      cases b2
      · go_wp2_with (first
          | ((with_reducible show wpList _ _ _ (⟨some 30, Op.load 34 _, _, _, _, _⟩ :: _) _ _); refine wpList_load_row rfl 34 _ rfl w2.heap.size rfl _ (#[.int .i64 Y.sh, .int .i64 Y.fl, .int .i64 Y.cl, .bool Y.w.a, .bool Y.w.p, .int .i64 Y.w.n, .bool Y.h.a, .bool Y.h.p, .int .i64 Y.h.n, .int .i64 Y.mn, .int .i64 Y.mx, .int .i64 Y.mt, .bool Y.mr.a, .bool Y.mr.p, .int .i64 Y.mr.n, .int .i64 Y.mb, .bool Y.ml.a, .bool Y.ml.p, .int .i64 Y.ml.n, .int .i64 Y.bo, .int .i64 Y.pa, .int .i64 Y.wh, .int .i64 Y.al, .int .i64 Y.lh, .int .i64 Y.ri, .int .i64 Y.dn]) _ _ l4 Tryz.underlying34 rfl (by kernel_rfl) ?_)
          | ((with_reducible show wpList _ _ _ (⟨some 31, Op.build 36 _, _, _, _, _⟩ :: _) _ _); refine wpList_buildTo rfl 36 _ rfl _ rfl (#[.int .i64 0, .string ByteArray.empty, .int .i64 Y.sh, .int .i64 Y.fl, .int .i64 Y.cl, .bool Y.w.a, .bool Y.w.p, .int .i64 Y.w.n, .bool Y.h.a, .bool Y.h.p, .int .i64 Y.h.n, .int .i64 Y.mn, .int .i64 Y.mx, .int .i64 Y.mt, .bool Y.mr.a, .bool Y.mr.p, .int .i64 Y.mr.n, .int .i64 Y.mb, .bool Y.ml.a, .bool Y.ml.p, .int .i64 Y.ml.n, .int .i64 Y.bo, .int .i64 Y.pa, .int .i64 Y.wh, .int .i64 Y.al, .int .i64 Y.lh, .int .i64 Y.ri, .int .i64 Y.dn]) (by kernel_rfl) ?_)
          | ((with_reducible show wpList _ _ _ (⟨none, Op.store 36 (Operand.tmp 2) _, _, _, _, _⟩ :: _) _ _); refine wpList_putA rfl _ _ _ rfl rfl _ 0 28 (#[.int .i64 0, .string ByteArray.empty, .int .i64 Y.sh, .int .i64 Y.fl, .int .i64 Y.cl, .bool Y.w.a, .bool Y.w.p, .int .i64 Y.w.n, .bool Y.h.a, .bool Y.h.p, .int .i64 Y.h.n, .int .i64 Y.mn, .int .i64 Y.mx, .int .i64 Y.mt, .bool Y.mr.a, .bool Y.mr.p, .int .i64 Y.mr.n, .int .i64 Y.mb, .bool Y.ml.a, .bool Y.ml.p, .int .i64 Y.ml.n, .int .i64 Y.bo, .int .i64 Y.pa, .int .i64 Y.wh, .int .i64 Y.al, .int .i64 Y.lh, .int .i64 Y.ri, .int .i64 Y.dn] : Array Value).toList _ _ rfl rfl l24 rfl (by kernel_rfl) (by kernel_rfl) (by kernel_rfl) ?_; intro w9 p9 l9 n9; refine stay ?_))
        have b9 := p9.below b4 (Nat.le_refl _)
        unfold Stay
        go_wp2
        exact bodyPost_ret (v := .tuple #[.agg (#[.int .i64 0, .string ByteArray.empty, .int .i64 Y.sh, .int .i64 Y.fl, .int .i64 Y.cl, .bool Y.w.a, .bool Y.w.p, .int .i64 Y.w.n, .bool Y.h.a, .bool Y.h.p, .int .i64 Y.h.n, .int .i64 Y.mn, .int .i64 Y.mx, .int .i64 Y.mt, .bool Y.mr.a, .bool Y.mr.p, .int .i64 Y.mr.n, .int .i64 Y.mb, .bool Y.ml.a, .bool Y.ml.p, .int .i64 Y.ml.n, .int .i64 Y.bo, .int .i64 Y.pa, .int .i64 Y.wh, .int .i64 Y.al, .int .i64 Y.lh, .int .i64 Y.ri, .int .i64 Y.dn]), .bool false]) (results_row_tmp Tryz.results27 _ _ _ _ (#[.int .i64 0, .string ByteArray.empty, .int .i64 Y.sh, .int .i64 Y.fl, .int .i64 Y.cl, .bool Y.w.a, .bool Y.w.p, .int .i64 Y.w.n, .bool Y.h.a, .bool Y.h.p, .int .i64 Y.h.n, .int .i64 Y.mn, .int .i64 Y.mx, .int .i64 Y.mt, .bool Y.mr.a, .bool Y.mr.p, .int .i64 Y.mr.n, .int .i64 Y.mb, .bool Y.ml.a, .bool Y.ml.p, .int .i64 Y.ml.n, .int .i64 Y.bo, .int .i64 Y.pa, .int .i64 Y.wh, .int .i64 Y.al, .int .i64 Y.lh, .int .i64 Y.ri, .int .i64 Y.dn]) _ _ _ rfl (l9.trans (congrArg (fun c => some (Obj.cells c 36 (0, 0))) (show _ = (#[.int .i64 0, .string ByteArray.empty, .int .i64 Y.sh, .int .i64 Y.fl, .int .i64 Y.cl, .bool Y.w.a, .bool Y.w.p, .int .i64 Y.w.n, .bool Y.h.a, .bool Y.h.p, .int .i64 Y.h.n, .int .i64 Y.mn, .int .i64 Y.mx, .int .i64 Y.mt, .bool Y.mr.a, .bool Y.mr.p, .int .i64 Y.mr.n, .int .i64 Y.mb, .bool Y.ml.a, .bool Y.ml.p, .int .i64 Y.ml.n, .int .i64 Y.bo, .int .i64 Y.pa, .int .i64 Y.wh, .int .i64 Y.al, .int .i64 Y.lh, .int .i64 Y.ri, .int .i64 Y.dn] : Array Value) by kernel_rfl))) Tryz.underlying36 rfl (by kernel_rfl) rfl) rfl ⟨⟨⟨0, ByteArray.empty, Y⟩, false, rfl, HP.out _ _ (.inr ⟨rfl, fun h => by cases h⟩)⟩, b9⟩
      · go_wp2_with (first
          | ((with_reducible show wpList _ _ _ (⟨some 30, Op.load 34 _, _, _, _, _⟩ :: _) _ _); refine wpList_load_row rfl 34 _ rfl w2.heap.size rfl _ (#[.int .i64 Y.sh, .int .i64 Y.fl, .int .i64 Y.cl, .bool Y.w.a, .bool Y.w.p, .int .i64 Y.w.n, .bool Y.h.a, .bool Y.h.p, .int .i64 Y.h.n, .int .i64 Y.mn, .int .i64 Y.mx, .int .i64 Y.mt, .bool Y.mr.a, .bool Y.mr.p, .int .i64 Y.mr.n, .int .i64 Y.mb, .bool Y.ml.a, .bool Y.ml.p, .int .i64 Y.ml.n, .int .i64 Y.bo, .int .i64 Y.pa, .int .i64 Y.wh, .int .i64 Y.al, .int .i64 Y.lh, .int .i64 Y.ri, .int .i64 Y.dn]) _ _ l4 Tryz.underlying34 rfl (by kernel_rfl) ?_)
          | ((with_reducible show wpList _ _ _ (⟨some 31, Op.build 36 _, _, _, _, _⟩ :: _) _ _); refine wpList_buildTo rfl 36 _ rfl _ rfl (#[.int .i64 0, .string ByteArray.empty, .int .i64 Y.sh, .int .i64 Y.fl, .int .i64 Y.cl, .bool Y.w.a, .bool Y.w.p, .int .i64 Y.w.n, .bool Y.h.a, .bool Y.h.p, .int .i64 Y.h.n, .int .i64 Y.mn, .int .i64 Y.mx, .int .i64 Y.mt, .bool Y.mr.a, .bool Y.mr.p, .int .i64 Y.mr.n, .int .i64 Y.mb, .bool Y.ml.a, .bool Y.ml.p, .int .i64 Y.ml.n, .int .i64 Y.bo, .int .i64 Y.pa, .int .i64 Y.wh, .int .i64 Y.al, .int .i64 Y.lh, .int .i64 Y.ri, .int .i64 Y.dn]) (by kernel_rfl) ?_)
          | ((with_reducible show wpList _ _ _ (⟨none, Op.store 36 (Operand.tmp 2) _, _, _, _, _⟩ :: _) _ _); refine wpList_putA rfl _ _ _ rfl rfl _ 0 28 (#[.int .i64 0, .string ByteArray.empty, .int .i64 Y.sh, .int .i64 Y.fl, .int .i64 Y.cl, .bool Y.w.a, .bool Y.w.p, .int .i64 Y.w.n, .bool Y.h.a, .bool Y.h.p, .int .i64 Y.h.n, .int .i64 Y.mn, .int .i64 Y.mx, .int .i64 Y.mt, .bool Y.mr.a, .bool Y.mr.p, .int .i64 Y.mr.n, .int .i64 Y.mb, .bool Y.ml.a, .bool Y.ml.p, .int .i64 Y.ml.n, .int .i64 Y.bo, .int .i64 Y.pa, .int .i64 Y.wh, .int .i64 Y.al, .int .i64 Y.lh, .int .i64 Y.ri, .int .i64 Y.dn] : Array Value).toList _ _ rfl rfl l24 rfl (by kernel_rfl) (by kernel_rfl) (by kernel_rfl) ?_; intro w9 p9 l9 n9; refine stay ?_))
        have b9 := p9.below b4 (Nat.le_refl _)
        unfold Stay
        go_wp2
        exact bodyPost_ret (v := .tuple #[.agg (#[.int .i64 0, .string ByteArray.empty, .int .i64 Y.sh, .int .i64 Y.fl, .int .i64 Y.cl, .bool Y.w.a, .bool Y.w.p, .int .i64 Y.w.n, .bool Y.h.a, .bool Y.h.p, .int .i64 Y.h.n, .int .i64 Y.mn, .int .i64 Y.mx, .int .i64 Y.mt, .bool Y.mr.a, .bool Y.mr.p, .int .i64 Y.mr.n, .int .i64 Y.mb, .bool Y.ml.a, .bool Y.ml.p, .int .i64 Y.ml.n, .int .i64 Y.bo, .int .i64 Y.pa, .int .i64 Y.wh, .int .i64 Y.al, .int .i64 Y.lh, .int .i64 Y.ri, .int .i64 Y.dn]), .bool true]) (results_row_tmp Tryz.results27 _ _ _ _ (#[.int .i64 0, .string ByteArray.empty, .int .i64 Y.sh, .int .i64 Y.fl, .int .i64 Y.cl, .bool Y.w.a, .bool Y.w.p, .int .i64 Y.w.n, .bool Y.h.a, .bool Y.h.p, .int .i64 Y.h.n, .int .i64 Y.mn, .int .i64 Y.mx, .int .i64 Y.mt, .bool Y.mr.a, .bool Y.mr.p, .int .i64 Y.mr.n, .int .i64 Y.mb, .bool Y.ml.a, .bool Y.ml.p, .int .i64 Y.ml.n, .int .i64 Y.bo, .int .i64 Y.pa, .int .i64 Y.wh, .int .i64 Y.al, .int .i64 Y.lh, .int .i64 Y.ri, .int .i64 Y.dn]) _ _ _ rfl (l9.trans (congrArg (fun c => some (Obj.cells c 36 (0, 0))) (show _ = (#[.int .i64 0, .string ByteArray.empty, .int .i64 Y.sh, .int .i64 Y.fl, .int .i64 Y.cl, .bool Y.w.a, .bool Y.w.p, .int .i64 Y.w.n, .bool Y.h.a, .bool Y.h.p, .int .i64 Y.h.n, .int .i64 Y.mn, .int .i64 Y.mx, .int .i64 Y.mt, .bool Y.mr.a, .bool Y.mr.p, .int .i64 Y.mr.n, .int .i64 Y.mb, .bool Y.ml.a, .bool Y.ml.p, .int .i64 Y.ml.n, .int .i64 Y.bo, .int .i64 Y.pa, .int .i64 Y.wh, .int .i64 Y.al, .int .i64 Y.lh, .int .i64 Y.ri, .int .i64 Y.dn] : Array Value) by kernel_rfl))) Tryz.underlying36 rfl (by kernel_rfl) rfl) rfl ⟨⟨⟨0, ByteArray.empty, Y⟩, true, rfl, HP.out _ _ (.inl ⟨(by first | rfl | trivial), rfl, HR.out.1, HR.out.2, rfl⟩)⟩, b9⟩
    · have HR : Hid (¬ ∃ X, Rel x2 X) := hNo
      clear hNo
      go_wp2_with ((with_reducible show wpList _ _ _ (⟨none, Op.store 34 (Operand.tmp 8) _, _, _, _, _⟩ :: _) _ _); refine wpList_store_box rfl 34 _ _ rfl rfl (#[.int .i64 0, .int .i64 0, .int .i64 0, .bool false, .bool false, .int .i64 0, .bool false, .bool false, .int .i64 0, .int .i64 0, .int .i64 0, .int .i64 0, .bool false, .bool false, .int .i64 0, .int .i64 0, .bool false, .bool false, .int .i64 0, .int .i64 0, .int .i64 0, .int .i64 0, .int .i64 0, .int .i64 0, .int .i64 0, .int .i64 0]) rfl rfl (by kernel_rfl) rfl (by kernel_rfl) ?_; intro W4 bel4 l4 n4; refine stay ?_)
      have b4 := b1.trans (bel4.mono b1.size)
      have l24 := below_lies bel4 l2 z1
      unfold Stay
      clear bel4 l2 b1
      cases b2
      all_goals
        go_wp2_with (first
          | ((with_reducible show wpList _ _ _ (⟨some 30, Op.load 34 _, _, _, _, _⟩ :: _) _ _); refine wpList_load_row rfl 34 _ rfl w2.heap.size rfl _ (#[.int .i64 0, .int .i64 0, .int .i64 0, .bool false, .bool false, .int .i64 0, .bool false, .bool false, .int .i64 0, .int .i64 0, .int .i64 0, .int .i64 0, .bool false, .bool false, .int .i64 0, .int .i64 0, .bool false, .bool false, .int .i64 0, .int .i64 0, .int .i64 0, .int .i64 0, .int .i64 0, .int .i64 0, .int .i64 0, .int .i64 0]) _ _ l4 Tryz.underlying34 rfl (by kernel_rfl) ?_)
          | ((with_reducible show wpList _ _ _ (⟨some 31, Op.build 36 _, _, _, _, _⟩ :: _) _ _); refine wpList_buildTo rfl 36 _ rfl _ rfl (#[.int .i64 0, .string ByteArray.empty, .int .i64 0, .int .i64 0, .int .i64 0, .bool false, .bool false, .int .i64 0, .bool false, .bool false, .int .i64 0, .int .i64 0, .int .i64 0, .int .i64 0, .bool false, .bool false, .int .i64 0, .int .i64 0, .bool false, .bool false, .int .i64 0, .int .i64 0, .int .i64 0, .int .i64 0, .int .i64 0, .int .i64 0, .int .i64 0, .int .i64 0]) (by kernel_rfl) ?_)
          | ((with_reducible show wpList _ _ _ (⟨none, Op.store 36 (Operand.tmp 2) _, _, _, _, _⟩ :: _) _ _); refine wpList_putA rfl _ _ _ rfl rfl _ 0 28 (#[.int .i64 0, .string ByteArray.empty, .int .i64 0, .int .i64 0, .int .i64 0, .bool false, .bool false, .int .i64 0, .bool false, .bool false, .int .i64 0, .int .i64 0, .int .i64 0, .int .i64 0, .bool false, .bool false, .int .i64 0, .int .i64 0, .bool false, .bool false, .int .i64 0, .int .i64 0, .int .i64 0, .int .i64 0, .int .i64 0, .int .i64 0, .int .i64 0, .int .i64 0] : Array Value).toList _ _ rfl rfl l24 rfl (by kernel_rfl) (by kernel_rfl) (by kernel_rfl) ?_; intro w9 p9 l9 n9; refine stay ?_))
        have b9 := p9.below b4 (Nat.le_refl _)
        unfold Stay
        go_wp2
        exact bodyPost_ret (v := .tuple #[.agg (#[.int .i64 0, .string ByteArray.empty, .int .i64 0, .int .i64 0, .int .i64 0, .bool false, .bool false, .int .i64 0, .bool false, .bool false, .int .i64 0, .int .i64 0, .int .i64 0, .int .i64 0, .bool false, .bool false, .int .i64 0, .int .i64 0, .bool false, .bool false, .int .i64 0, .int .i64 0, .int .i64 0, .int .i64 0, .int .i64 0, .int .i64 0, .int .i64 0, .int .i64 0]), .bool false]) (results_row_tmp Tryz.results27 _ _ _ _ (#[.int .i64 0, .string ByteArray.empty, .int .i64 0, .int .i64 0, .int .i64 0, .bool false, .bool false, .int .i64 0, .bool false, .bool false, .int .i64 0, .int .i64 0, .int .i64 0, .int .i64 0, .bool false, .bool false, .int .i64 0, .int .i64 0, .bool false, .bool false, .int .i64 0, .int .i64 0, .int .i64 0, .int .i64 0, .int .i64 0, .int .i64 0, .int .i64 0, .int .i64 0]) _ _ _ rfl (l9.trans (congrArg (fun c => some (Obj.cells c 36 (0, 0))) (show _ = (#[.int .i64 0, .string ByteArray.empty, .int .i64 0, .int .i64 0, .int .i64 0, .bool false, .bool false, .int .i64 0, .bool false, .bool false, .int .i64 0, .int .i64 0, .int .i64 0, .int .i64 0, .bool false, .bool false, .int .i64 0, .int .i64 0, .bool false, .bool false, .int .i64 0, .int .i64 0, .int .i64 0, .int .i64 0, .int .i64 0, .int .i64 0, .int .i64 0, .int .i64 0] : Array Value) by kernel_rfl))) Tryz.underlying36 rfl (by kernel_rfl) rfl) rfl ⟨⟨⟨0, ByteArray.empty, z0⟩, false, rfl, HP.out _ _ (.inr ⟨rfl, fun _ => HR.out⟩)⟩, b9⟩
  · have HP : Hid (RdN t ⟨0, cpT t 124, z0⟩ true) := .inl ⟨h1, rfl, rfl⟩
    rw [h1] at C1
    clear h1 C2 s2
    generalize cpT t 124 = tx at C1 s1 HP
    have CO := fun W => copied_any tx tx.size W rfl (by omega)
    go_enter Tryz.func27, Tryz.ntmps27
    iterate 12 go_step
    refine wp_gen1 ?_
    intro W bel l0 hz
    go_wp2_with fail
    refine (C1 _).mono ?_
    rintro e w1 ⟨rfl, hw⟩
    have hw := hw.symm
    subst hw
    clear C1
    go_wp2_with fail
    refine (CO _).mono ?_
    rintro e w2 ⟨rfl, hrow, c⟩
    have e3 : (⟨tx.data.toList.toArray⟩ : ByteArray) = tx := rfl
    have hK := hrow.back tx.size tx.size rfl
    rw [e3, hz] at hK
    have l2 := below_lies c l0 (lies_lt l0)
    have b1 := bel.trans (c.mono bel.size)
    clear CO c l0 bel hrow e3
    go_wp2_with (first
      | ((with_reducible show wpList _ _ _ (⟨some 19, Op.build 36 _, _, _, _, _⟩ :: _) _ _); refine wpList_buildTo rfl 36 _ rfl _ rfl (#[.int .i64 0, .string tx, .int .i64 0, .int .i64 0, .int .i64 0, .bool false, .bool false, .int .i64 0, .bool false, .bool false, .int .i64 0, .int .i64 0, .int .i64 0, .int .i64 0, .bool false, .bool false, .int .i64 0, .int .i64 0, .bool false, .bool false, .int .i64 0, .int .i64 0, .int .i64 0, .int .i64 0, .int .i64 0, .int .i64 0, .int .i64 0, .int .i64 0]) (by kernel_rfl) ?_)
      | ((with_reducible show wpList _ _ _ (⟨none, Op.store 36 (Operand.tmp 2) _, _, _, _, _⟩ :: _) _ _); refine wpList_putA rfl _ _ _ rfl rfl _ 0 28 (#[.int .i64 0, .string tx, .int .i64 0, .int .i64 0, .int .i64 0, .bool false, .bool false, .int .i64 0, .bool false, .bool false, .int .i64 0, .int .i64 0, .int .i64 0, .int .i64 0, .bool false, .bool false, .int .i64 0, .int .i64 0, .bool false, .bool false, .int .i64 0, .int .i64 0, .int .i64 0, .int .i64 0, .int .i64 0, .int .i64 0, .int .i64 0, .int .i64 0] : Array Value).toList _ _ rfl rfl l2 rfl (by kernel_rfl) (by kernel_rfl) (by kernel_rfl) ?_; intro w9 p9 l9 n9; refine stay ?_))
    have b9 := p9.below b1 (Nat.le_refl _)
    unfold Stay
    go_wp2
    exact bodyPost_ret (v := .tuple #[.agg (#[.int .i64 0, .string tx, .int .i64 0, .int .i64 0, .int .i64 0, .bool false, .bool false, .int .i64 0, .bool false, .bool false, .int .i64 0, .int .i64 0, .int .i64 0, .int .i64 0, .bool false, .bool false, .int .i64 0, .int .i64 0, .bool false, .bool false, .int .i64 0, .int .i64 0, .int .i64 0, .int .i64 0, .int .i64 0, .int .i64 0, .int .i64 0, .int .i64 0]), .bool true]) (results_row_tmp Tryz.results27 _ _ _ _ (#[.int .i64 0, .string tx, .int .i64 0, .int .i64 0, .int .i64 0, .bool false, .bool false, .int .i64 0, .bool false, .bool false, .int .i64 0, .int .i64 0, .int .i64 0, .int .i64 0, .bool false, .bool false, .int .i64 0, .int .i64 0, .bool false, .bool false, .int .i64 0, .int .i64 0, .int .i64 0, .int .i64 0, .int .i64 0, .int .i64 0, .int .i64 0, .int .i64 0]) _ _ _ rfl (l9.trans (congrArg (fun c => some (Obj.cells c 36 (0, 0))) (show _ = (#[.int .i64 0, .string tx, .int .i64 0, .int .i64 0, .int .i64 0, .bool false, .bool false, .int .i64 0, .bool false, .bool false, .int .i64 0, .int .i64 0, .int .i64 0, .int .i64 0, .bool false, .bool false, .int .i64 0, .int .i64 0, .bool false, .bool false, .int .i64 0, .int .i64 0, .int .i64 0, .int .i64 0, .int .i64 0, .int .i64 0, .int .i64 0, .int .i64 0] : Array Value) by kernel_rfl))) Tryz.underlying36 rfl (by kernel_rfl) rfl) rfl ⟨⟨⟨0, tx, z0⟩, true, rfl, HP.out⟩, b9⟩
end Go.Proofs.YtddnphgpdnedbaaGreatDoor

namespace Go.Proofs.YtddnphgpdnedbaaGreatDoor
open Go.ChangeShapes Go.WideShapes Go.ChangeAt Go.RowKit Go.Shelf
set_option linter.unusedVariables false
attribute [local go_sem] Oper.semAt_some

/-- One operation of a round, by a law of the plain walk. -/
theorem in_op {P : Program} {ops : Array Oper} {Q : Exit → Act → World → Prop} {a : Act} {w : World} {rest : List Oper} {o : Oper} {l n : Nat} (hg : o.guard = none) (hd : ∀ c, o.op ≠ .defer c)
    (h : wpList P ops (fun e a' w' => e = .normal ∧ wpListIn (Fence.wide.inRound l) n P ops Q rest a' w') [o] a w) : wpListIn (Fence.wide.inRound l) n P ops Q (o :: rest) a w := by
  refine wpListIn_plain hg fun K hK => ?_
  have hw : Region.wanted o (yielded ops a.tmps) = true := by simp [Region.wanted, hg]
  rw [wpList, if_pos hw] at h
  rcases h with h | ⟨_, _, _, h, _⟩
  rotate_left
  · cases h
  refine ⟨fun _ _ => trivial, ?_⟩
  rw [show (Fence.wide.inRound l).round = some l from rfl, Oper.semAt_some l _ _ hd]
  unfold Oper.wp at h
  generalize (execOp a.eval o).run P w = r at h ⊢
  match r, h with
  | .ok (.value v) w', h => exact hK _ _ h.2
  | .ok .skip w', h => exact hK _ _ h.2
  | .ok (.defer d) w', h => exact hK _ _ h.2
  | .ok (.enter f args) w', h =>
    refine ⟨fun hh => (by cases hh), CallsIn.inRound l (callsIn_wide.2 (Calls.mono h ?_))⟩
    intro e w'' he
    cases e with
    | returned v => exact hK _ _ he.2
    | panicked chain => exact absurd he.1 (by simp)
    | outgrown => obtain ⟨_, _, h', _⟩ := he; cases h'
  | .ok (.row row args) w', h =>
    refine ⟨fun hh => (by cases hh), fun c cs _ => ?_⟩
    obtain ⟨v, w'', hr, hs⟩ := h c cs
    exact ⟨v, w'', hK _ _ hr.2, stepsIn_wide.2 hs⟩
  | .halt (.panic v) w', h => exact absurd h.1 (by simp)

/-- The cell that holds what is left. -/
def QAt (q : Nat) (r : ByteArray) (W : World) : Prop := W.heap[q]? = some (.cells #[.string r] 9 (0, 0))
theorem QAt.cell {q : Nat} {r : ByteArray} {W : World} (h : QAt q r W) : W.cell? ⟨q, 0, none⟩ = some (.string r) := (lies_cell h 0).trans rfl
theorem QAt.frozen {q : Nat} {r : ByteArray} {W : World} (h : QAt q r W) : W.frozen? ⟨q, 0, none⟩ = false := Lib.frozen_of_heap h 0
theorem QAt.put {q : Nat} {r : ByteArray} {W : World} (h : QAt q r W) (t : ByteArray) : QAt q t (W.setCell ⟨q, 0, none⟩ (.string t)) := by
  show (W.setCell ⟨q, 0, none⟩ (.string t)).heap[q]? = _
  rw [heap_setCell_same _ _ _ _ _ _ h]
  rfl
/-- The line that comes next, its line break with it. -/
def lnOf (t : ByteArray) : ByteArray := if n_dotB t then t.extract 0 ((Lib.indexByte t.data.toList 10).toNat + 1) else t
theorem lnOf_hit {t : ByteArray} {i : Nat} (h : Lib.indexByte t.data.toList 10 = (i : Nat)) : lnOf t = t.extract 0 (i + 1) := by
  have e := (n_cutOf_hit h).1
  simp [lnOf, e, h]
theorem lnOf_miss {t : ByteArray} (h : Lib.indexByte t.data.toList 10 = -1) : lnOf t = t := by
  have e := (n_cutOf_miss h).1
  simp [lnOf, e]
theorem n_part_lt {t : ByteArray} (h0 : t.size ≠ 0) : (n_partOf t).size < t.size := by
  unfold n_partOf
  split
  · rw [ByteArray.size_extract]; omega
  · show 0 < t.size; omega
theorem put_cell (w : World) (q i : Nat) (v : Value) : Put q w (w.setCell ⟨q, i, none⟩ v) := ⟨rfl, rfl, rfl, by simp [World.setCell], fun k hk => Below.heap_setCell _ _ _ _ hk⟩
theorem put_drew {q : Nat} {w w' : World} (h : Put q w w') : Put q w w'.drew := ⟨h.1, h.2, h.3, h.4, h.5⟩
/-- Nothing is left. -/
def AtEnd (J : ByteArray → World → Prop) (W : World) : Prop := ∃ r, r.size = 0 ∧ J r W
set_option maxRecDepth 100000 in
set_option maxHeartbeats 4000000 in
theorem lines1_in (n : Nat) (l q : Nat) (s : ByteArray) (hs : s.size ≤ 1048576) (J : ByteArray → World → Prop) (Jx : World → Prop) (hJ : ∀ r W, J r W → QAt q r W)
    (hY : ∀ r W W2, J r W → r.size ≠ 0 → r.size ≤ s.size → Put q W W2 → QAt q (n_partOf r) W2 → YieldAt Fence.wide (n - 1) Tryz.prog l #[.string (lnOf r)] W2 fun e W' =>
      (e = .returned (.bool true) ∧ J (n_partOf r) W') ∨ (e = .returned (.bool false) ∧ Jx W'))
    (W : World) (h0 : J s W) :
    CallsIn Fence.wide n Tryz.prog 46 #[.func (.yield l) #[] #[], .pointer (some ⟨q, 0, none⟩)] W fun e W' => (∃ v, e = .returned v) ∧ (AtEnd J W' ∨ Jx W') := by
  have IB := fun (t : ByteArray) (w : World) => Tryz.strings_IndexByte t 10 w
  refine callsIn_of_wp Tryz.func46 rfl trivial ?_ rfl
  simp only [Tryz.ntmps46, List.size_toArray, List.length_cons, List.length_nil, Nat.reduceAdd, Nat.reduceSub, Array.replicate_succ, Array.replicate_zero, List.push_toArray, List.append_toArray, List.nil_append, List.cons_append]
  gi_wp2
  gi_loopw [] (fun wr => ∃ r : ByteArray, r.size ≤ s.size ∧ J r wr) (fun wr => match wr.cell? ⟨q, 0, none⟩ with | some (.string t) => t.size | _ => 0)
  case atStart => exact ⟨s, Nat.le_refl _, h0⟩
  case round =>
    obtain ⟨r, hr, hJr⟩ := hrel
    have HQ := hJ r wr hJr
    have hc := HQ.cell
    have hf := HQ.frozen
    by_cases hz : r.size = 0
    · have hz' : ¬ ((0 : Int) < (r.size : Int)) := by omega
      gi_wp2
      go_end0
      exact ⟨⟨_, rfl⟩, .inl ⟨r, hz, hJr⟩⟩
    have hz' : (0 : Int) < (r.size : Int) := by omega
    have YR := fun W2 => hY r wr W2 hJr hz hr
    have hlt := n_part_lt hz
    have HM : Hid (∀ W', J (n_partOf r) W' → (match W'.cell? ⟨q, 0, none⟩ with | some (.string t) => t.size | _ => 0) < (match wr.cell? ⟨q, 0, none⟩ with | some (.string t) => t.size | _ => 0)) := fun W' h => by
      rw [(hJ _ _ h).cell, hc]
      exact hlt
    have HLE : Hid ((n_partOf r).size ≤ s.size) := Nat.le_trans (Nat.le_of_lt hlt) hr
    gi_wp2_with fail
    refine ⟨trivial, fun h => (by cases h), ?_⟩
    refine (callsIn_wide.2 (IB _ _)).mono ?_
    rintro e w1 ⟨rfl, hw⟩
    have hw := hw.symm
    subst hw
    rcases n_dot_index r with ⟨_, hx⟩ | ⟨i, hd, hx⟩
    · have e0 : Lib.indexByte r.data.toList (Int.toNat 10).toUInt8 = -1 := hx
      have e1 := lnOf_miss hx
      have e2 := (n_cutOf_miss hx).2.2
      rw [e1, e2] at YR
      rw [e2] at HM HLE
      rw [e0]
      obtain ⟨fn, tmps, assign, body, hy, hR⟩ := YR (wr.setCell ⟨q, 0, none⟩ (.string ⟨#[]⟩)) (put_cell wr q 0 _) (HQ.put _)
      clear e0 e1 e2 hx IB hY YR
      gi_wp2
      refine ⟨fun h => (by cases h), hR.mono ?_⟩
      rintro e W3 (⟨rfl, hJ3⟩ | ⟨rfl, hJx3⟩)
      · gi_wp2
        go_roundw
        case rel => exact ⟨_, HLE.out, hJ3⟩
        case measure => exact HM.out _ hJ3
      · gi_wp2
        refine bodyPost_ret (results_none rfl _ _ _) rfl ?_
        exact ⟨⟨_, rfl⟩, .inr hJx3⟩
    · have e0 : Lib.indexByte r.data.toList (Int.toNat 10).toUInt8 = (i : Nat) := hx
      have e1 := lnOf_hit hx
      have e2 := (n_cutOf_hit hx).2.2
      obtain ⟨hi, _, _⟩ := hd
      rw [e1, e2] at YR
      rw [e2] at HM HLE
      rw [e0]
      obtain ⟨fn, tmps, assign, body, hy, hR⟩ := YR (wr.setCell ⟨q, 0, none⟩ (.string (r.extract (i + 1) r.size))).drew (put_drew (put_cell wr q 0 _)) (HQ.put _)
      have c1 : (0 : Int) ≤ (i : Int) := by omega
      have c2 : (0 : Int) ≤ (i : Int) + 1 := by omega
      have c3 : (i : Int) + 1 ≤ (r.size : Int) := by omega
      clear e0 e1 e2 hx IB hY YR
      gi_wp2
      gi_region
      all_goals
        gi_wp2
        refine ⟨fun h => (by cases h), hR.mono ?_⟩
        rintro e W3 (⟨rfl, hJ3⟩ | ⟨rfl, hJx3⟩)
        · gi_wp2
          go_roundw
          case rel => exact ⟨_, HLE.out, hJ3⟩
          case measure => exact HM.out _ hJ3
        · gi_wp2
          refine bodyPost_ret (results_none rfl _ _ _) rfl ?_
          exact ⟨⟨_, rfl⟩, .inr hJx3⟩
end Go.Proofs.YtddnphgpdnedbaaGreatDoor

namespace Go.Proofs.YtddnphgpdnedbaaGreatDoor
open Go.ChangeShapes Go.WideShapes Go.ChangeAt Go.RowKit Go.Shelf
set_option linter.unusedVariables false

/-- How the body of a round may be left: it goes on, or the function returns. -/
def lnPost (q : Nat) (I Ix : World → Prop) (W : World) : Exit → Act → World → Prop
  | .normal, _, W' => KeepsOthers W W' ∧ W'.heap[q]? = W.heap[q]? ∧ I W'
  | .ret, _, W' => KeepsOthers W W' ∧ Ix W'
  | _, _, _ => False
/-- What stands when blocks without cells are turned, from B on, and others are laid. -/
def AbB (B : Nat) (I : World → Prop) : Prop := ∀ W W' row, I W → W.grownBy W' row → (∀ r, row = some r → B ≤ r ∧ ∃ o : Obj, W.heap[r]? = some o ∧ o.isCells = false) → I W'
theorem AbB.turn {B l : Nat} {I : World → Prop} {W : World} {o : Obj} (h : AbB B I) (hi : I W) (hB : B ≤ l) (hl : W.heap[l]? = some o) (ho : o.isCells = false) (o' : Obj) : I (W.putObj l o') :=
  h W _ (some l) hi (grownBy_putObj' W l o') (fun r e => by cases e; exact ⟨hB, o, hl, ho⟩)
theorem AbB.laid {B : Nat} {I : World → Prop} {W : World} (h : AbB B I) (hi : I W) (o : Obj) : I (W.alloc o) := h W _ none hi (World.grownBy_alloc W o none) (fun r e => by cases e)

theorem wpIn_lines {ps : Array Tmp} {g : Operand} {assign body : Code} {Q : Exit → Act → World → Prop} {a : Act} {w : World} {q : Nat} (s : ByteArray) (hs : s.size ≤ 1048576)
    (hg : a.eval g = .func (.func 46) #[] #[.pointer (some ⟨q, 0, none⟩)]) (hps : ps.size = 1) (hq : QAt q s w)
    (I : ByteArray → World → Prop) (Ix : World → Prop) (hI : ∀ r, AbB w.heap.size (I r)) (hIx : AbB w.heap.size Ix)
    (hIq : ∀ r x W W2, I r W → QAt q x W → Put q W W2 → I r W2) (h0 : I s w) (a₁ : ByteArray → Act)
    (hassign : ∀ (l : Nat) (x : ByteArray) (W : World) (K : Act → World → Prop), K (a₁ x) W →
      assign.wpIn (Fence.wide.inRound l) 1 Tryz.prog (Exit.then K (fun _ _ _ => False)) { tmps := (ps.zip #[Value.string x]).foldl (fun t (p, v) => t.setIfInBounds p v) a.tmps, defers := [] } W)
    (hbody : ∀ (l : Nat) (r : ByteArray) (W : World), I r W → r.size ≠ 0 → r.size ≤ s.size → QAt q (n_partOf r) W → body.wpIn (Fence.wide.inRound l) 1 Tryz.prog (lnPost q (I (n_partOf r)) Ix W) (a₁ (lnOf r)) W)
    (hdone : ∀ (D : Nat) (r : ByteArray) (W : World), w.heap.size ≤ D → r.size = 0 → I r W → W.heap[D]? = some (.deferred (some [])) → Q .normal { a with defers := { target := .collected D, args := #[] } :: a.defers } W)
    (hstop : ∀ (D : Nat) (W : World), w.heap.size ≤ D → Ix W → W.heap[D]? = some (.deferred (some [])) → Code.ret.wpIn Fence.wide 3 Tryz.prog Q { a with defers := { target := .collected D, args := #[] } :: a.defers } W) :
    (Code.rangeFunc g ps assign body).wpIn Fence.wide 3 Tryz.prog Q a w := by
  refine wpIn_rangeFunc ?_
  intro fn _
  have hqw : q < w.heap.size := lies_lt hq
  obtain ⟨rc, hrc⟩ : ∃ rc : LoopState → Option Code → Loop, rc = fun st pe => { state := st, pending := pe, fn, tmps := a.tmps, params := ps, assign, body, defers := w.heap.size } := ⟨_, rfl⟩
  have eW : (Instr.enterLoop fn a.tmps ps assign body Fence.wide.round).run Tryz.prog w = .ok (w.heap.size + 1, [{ target := .collected w.heap.size, args := #[] }]) ((w.alloc (.deferred (some []))).alloc (.loop (rc .ready none))) := by
    rw [hrc]; exact run_enterLoop_outer _ _ _ _ _
  have l1 : ((w.alloc (.deferred (some []))).alloc (.loop (rc .ready none))).heap[w.heap.size + 1]? = some (.loop (rc .ready none)) := heap_at _ _ _ (by simp)
  have d1 : ((w.alloc (.deferred (some []))).alloc (.loop (rc .ready none))).heap[w.heap.size]? = some (.deferred (some [])) := heap_in (heap_at _ _ _ rfl)
  have i1 : I s ((w.alloc (.deferred (some []))).alloc (.loop (rc .ready none))) := (hI s).laid ((hI s).laid h0 _) _
  have q1 : QAt q s ((w.alloc (.deferred (some []))).alloc (.loop (rc .ready none))) := heap_in (heap_in hq)
  generalize (w.alloc (.deferred (some []))).alloc (.loop (rc .ready none)) = W1 at eW l1 d1 i1 q1
  refine ⟨w.heap.size + 1, _, W1, { target := .fn (.func 46) #[.pointer (some ⟨q, 0, none⟩)], args := #[.func (.yield (w.heap.size + 1)) #[] #[]] }, W1, 46, #[.func (.yield (w.heap.size + 1)) #[] #[], .pointer (some ⟨q, 0, none⟩)], W1, eW, ?_, fun _ _ => trivial, ?_, fun h => (by cases h), ?_⟩
  · simp only [resolve, hg]
    simp [go_sem]
  · simp [invoke, go_sem]
  have turn : ∀ {W : World} {o : Obj} (o' : Obj), W.heap[w.heap.size + 1]? = some o → (W.putObj (w.heap.size + 1) o').heap[w.heap.size + 1]? = some o' ∧ (W.putObj (w.heap.size + 1) o').heap[w.heap.size]? = W.heap[w.heap.size]? ∧ (W.putObj (w.heap.size + 1) o').heap[q]? = W.heap[q]? := fun o' h =>
    ⟨World.putObj_heap_same (lies_lt h), World.putObj_heap_other (by omega), World.putObj_heap_other (by omega)⟩
  refine (lines1_in 2 (w.heap.size + 1) q s hs
    (fun r W => I r W ∧ QAt q r W ∧ W.heap[w.heap.size + 1]? = some (.loop (rc .ready none)) ∧ W.heap[w.heap.size]? = some (.deferred (some [])))
    (fun W => Ix W ∧ W.heap[w.heap.size + 1]? = some (.loop (rc .done (some .ret))) ∧ W.heap[w.heap.size]? = some (.deferred (some [])))
    (fun r W h => h.2.1) ?_ W1 ⟨i1, q1, l1, d1⟩).mono ?_
  · rintro r W W2 ⟨hi, hqr, hl, hk⟩ hz hle hput hq2
    have hl2 := hput.lies hl (by omega)
    have hk2 := hput.lies hk (by omega)
    have hi2 := hIq r r W W2 hi hqr hput
    have hy := run_yield (P := Tryz.prog) (args := #[.string (lnOf r)]) hl2 (by rw [hrc]; exact hps.symm)
    have hb := run_beginRound (P := Tryz.prog) hl2 (by rw [hrc])
    obtain ⟨t1, t2, t3⟩ := turn (.loop { rc .ready none with state := .busy }) hl2
    have B := hbody (w.heap.size + 1) r _ ((hI r).turn hi2 (by omega) hl2 rfl (.loop { rc .ready none with state := .busy })) hz hle (t3.trans hq2)
    generalize W2.putObj (w.heap.size + 1) (.loop { rc .ready none with state := .busy }) = W3 at hb t1 t2 t3 B
    rw [show (rc .ready none).params = ps by rw [hrc], show (rc .ready none).tmps = a.tmps by rw [hrc], show (rc .ready none).assign = assign by rw [hrc], show (rc .ready none).body = body by rw [hrc], show (rc .ready none).fn = fn by rw [hrc]] at hy
    refine ⟨fn, _, assign, body, hy, roundIn_of_wpIn trivial (hassign _ _ _ _ ⟨W3, hb, wpIn_mono B ?_⟩)⟩
    intro e a4 W4 hp
    have endR : ∀ jump : Option Code, KeepsOthers W3 W4 → (Instr.endRound (w.heap.size + 1) jump).run Tryz.prog W4 = .ok (.bool jump.isNone) (W4.putObj (w.heap.size + 1) (.loop (rc (if jump.isNone then .ready else .done) jump))) ∧ W4.heap[w.heap.size + 1]? = some (.loop { rc .ready none with state := .busy }) ∧ W4.heap[w.heap.size]? = some (.deferred (some [])) := fun jump hk4 => by
      have h4 := hk4.same _ _ t1 rfl
      refine ⟨?_, h4, hk4.same _ _ (t2.trans hk2) rfl⟩
      rw [run_endRound jump h4, hrc]
    cases e with
    | normal =>
      obtain ⟨hk4, hq4, hi4⟩ := hp
      obtain ⟨e1, e2, e3⟩ := endR none hk4
      obtain ⟨u1, u2, u3⟩ := turn (.loop (rc .ready none)) e2
      exact ⟨_, _, e1, .inl ⟨rfl, (hI _).turn hi4 (by omega) e2 rfl _, u3.trans (hq4.trans (t3.trans hq2)), u1, u2.trans e3⟩⟩
    | ret =>
      obtain ⟨hk4, hi4⟩ := hp
      obtain ⟨e1, e2, e3⟩ := endR (some .ret) hk4
      obtain ⟨u1, u2, u3⟩ := turn (.loop (rc .done (some .ret))) e2
      exact ⟨_, _, e1, .inr ⟨rfl, hIx.turn hi4 (by omega) e2 rfl _, u1, u2.trans e3⟩⟩
    | exit id => exact hp.elim
    | goto t => exact hp.elim
    | panic ch => exact hp.elim
    | outgrown => exact hp.elim
  · rintro e W2 ⟨⟨v, rfl⟩, (⟨r, hr, hi, hqr, hl, hk⟩ | ⟨hi, hl, hk⟩)⟩
    · obtain ⟨u1, u2, u3⟩ := turn (.loop { rc .ready none with state := .exhausted }) hl
      have el := run_endLoop (P := Tryz.prog) hl (by rw [hrc]; simp)
      exact ⟨none, _, el.trans (congrArg (fun p => Result.ok p _) (show (rc .ready none).pending = none by rw [hrc])), hdone _ r _ (Nat.le_refl _) hr ((hI r).turn hi (by omega) hl rfl _) (u2.trans hk)⟩
    · obtain ⟨u1, u2, u3⟩ := turn (.loop { rc .done (some .ret) with state := .exhausted }) hl
      have el := run_endLoop (P := Tryz.prog) hl (by rw [hrc]; simp)
      exact ⟨some .ret, _, el.trans (congrArg (fun p => Result.ok p _) (show (rc .done (some .ret)).pending = some .ret by rw [hrc])), hstop _ _ (Nat.le_refl _) (hIx.turn hi (by omega) hl rfl _) (u2.trans hk)⟩
end Go.Proofs.YtddnphgpdnedbaaGreatDoor

namespace Go.Proofs.YtddnphgpdnedbaaGreatDoor
open Go.ChangeShapes Go.WideShapes Go.ChangeAt Go.RowKit
set_option linter.unusedVariables false

theorem ba_list {a b : ByteArray} (h : a.data.toList = b.data.toList) : a = b := ByteArray.ext (Array.toList_inj.1 h)
theorem ba_take (t : ByteArray) (k : Nat) : (t.extract 0 k).data.toList = t.data.toList.take k := by
  rw [ByteArray.data_extract, Array.toList_extract]
  simp [List.extract]
theorem ba_drop (t : ByteArray) (k : Nat) : (t.extract k t.size).data.toList = t.data.toList.drop k := by
  rw [ByteArray.data_extract, Array.toList_extract]
  have h : t.size = t.data.toList.length := Lib.size_eq t
  simp only [List.extract]
  rw [List.take_of_length_le (by rw [List.length_drop]; omega)]
theorem ba_at {t : ByteArray} {k : Nat} (h : k < t.size) : t.data.toList[k]? = some t[k] := at_list t k h
theorem suf_one (l : List UInt8) (c : UInt8) : Lib.trimSuffix (l ++ [c]) [c] = l := by
  have h : Lib.hasSuffix (l ++ [c]) [c] = true := by
    unfold Lib.hasSuffix
    rw [List.isSuffixOf_iff_suffix]
    exact ⟨l, rfl⟩
  rw [Lib.trimSuffix, if_pos h]
  simp
theorem suf_none {l : List UInt8} {c : UInt8} (h : ∀ x ∈ l, x ≠ c) : Lib.trimSuffix l [c] = l := by
  have h' : ¬ Lib.hasSuffix l [c] = true := by
    unfold Lib.hasSuffix
    rw [List.isSuffixOf_iff_suffix]
    rintro ⟨t, ht⟩
    exact h c (by rw [← ht]; simp) rfl
  rw [Lib.trimSuffix, if_neg h']
/-- A line without its line break. -/
theorem whole_line (r : ByteArray) : (⟨(Lib.trimSuffix (lnOf r).data.toList [10]).toArray⟩ : ByteArray) = n_wholeOf r := by
  apply ba_list
  show Lib.trimSuffix (lnOf r).data.toList [10] = _
  rcases n_dot_index r with ⟨hno, hx⟩ | ⟨i, ⟨hi, h10, _⟩, hx⟩
  · rw [lnOf_miss hx, (n_cutOf_miss hx).2.1]
    refine suf_none (fun x hm => ?_)
    obtain ⟨j, hj, rfl⟩ := List.getElem_of_mem hm
    have hj' : j < r.size := by rw [Lib.size_eq]; exact hj
    have e := ba_at hj'
    rw [List.getElem?_eq_getElem hj] at e
    rw [Option.some.inj e]
    exact fun e => hno j hj' (by rw [e]; rfl)
  · rw [lnOf_hit hx, (n_cutOf_hit hx).2.1, ba_take, ba_take, List.take_add_one, ba_at hi, (n_dot_byte _).1 h10]
    exact suf_one _ _
theorem lead_list : ∀ l : List UInt8, ∃ k, k ≤ l.length ∧ (∀ (j : Nat) b, j < k → l[j]? = some b → b = 32) ∧ ∀ b, l[k]? = some b → b ≠ 32
  | [] => ⟨0, Nat.le_refl _, fun j b h => absurd h (by omega), fun b h => by simp at h⟩
  | x :: xs => by
    by_cases hx : x = 32
    · obtain ⟨k, h1, h2, h3⟩ := lead_list xs
      refine ⟨k + 1, by simp; exact h1, fun j b hj hb => ?_, fun b hb => h3 b (by simpa using hb)⟩
      cases j with
      | zero => simp at hb; rw [← hb]; exact hx
      | succ j => exact h2 j b (by omega) (by simpa using hb)
    · exact ⟨0, Nat.zero_le _, fun j b h => absurd h (by omega), fun b hb => by simp at hb; rw [← hb]; exact hx⟩
/-- A line without its blanks ahead. -/
theorem lead_of (t : ByteArray) : ∃ d, Lead t d ∧ (⟨(Lib.trimLeftB t.data.toList 32).toArray⟩ : ByteArray) = t.extract d t.size := by
  obtain ⟨d, h1, h2, h3⟩ := lead_list t.data.toList
  rw [← Lib.size_eq] at h1
  refine ⟨d, ⟨h1, fun j hj hd => ?_, fun hd e => ?_⟩, ba_list ?_⟩
  · rw [h2 j _ hd (ba_at hj)]; rfl
  · exact h3 _ (ba_at hd) (UInt8.toNat_inj.1 (by show t[d].toNat = 32; omega))
  · rw [ba_drop]
    exact Lib.trimLeftB_drop _ _ d (by rw [← Lib.size_eq]; exact h1) h2 h3
theorem cp_yes {t : ByteArray} {d : Nat} {c : UInt8} (hd : d < t.size) (hc : t[d] = c) : cpB (t.extract d t.size) c = true ∧ cpT (t.extract d t.size) c = t.extract (d + 1) t.size := by
  have hl : d < t.data.toList.length := by rw [← Lib.size_eq]; exact hd
  have e : (t.extract d t.size).data.toList = c :: t.data.toList.drop (d + 1) := by
    have := ba_at hd
    rw [List.getElem?_eq_getElem hl] at this
    rw [ba_drop, List.drop_eq_getElem_cons hl, Option.some.inj this, hc]
  have hb : Lib.hasPrefix (c :: t.data.toList.drop (d + 1)) [c] = true := by simp [Lib.hasPrefix]
  refine ⟨by rw [cpB, e]; exact hb, ba_list ?_⟩
  show Lib.trimPrefix (t.extract d t.size).data.toList [c] = _
  rw [e, Lib.trimPrefix, if_pos hb, ba_drop]
  rfl
theorem cp_no {t : ByteArray} {d : Nat} {c : UInt8} (h : ∀ hd : d < t.size, t[d] ≠ c) : cpB (t.extract d t.size) c = false := by
  rw [cpB, ba_drop]
  by_cases hd : d < t.size
  · have hl : d < t.data.toList.length := by rw [← Lib.size_eq]; exact hd
    have e := ba_at hd
    rw [List.getElem?_eq_getElem hl] at e
    rw [List.drop_eq_getElem_cons hl, Option.some.inj e]
    have := h hd
    show (c == t[d] && ([] : List UInt8).isPrefixOf _) = false
    rw [beq_false_of_ne (Ne.symm this)]
    rfl
  · rw [List.drop_eq_nil_of_le (by rw [← Lib.size_eq]; omega)]
    rfl
theorem cp_at {t : ByteArray} {d : Nat} {c : UInt8} (h : cpB (t.extract d t.size) c = true) : ∃ hd : d < t.size, t[d] = c := by
  by_cases hd : d < t.size
  · refine ⟨hd, ?_⟩
    by_cases hc : t[d] = c
    · exact hc
    · rw [cp_no (fun _ => hc)] at h; cases h
  · rw [cp_no (fun h' => absurd h' hd)] at h; cases h
theorem rel_elem {x : ByteArray} {Y : St} (h : Rel x Y) : zeroS Y = false := by
  cases hz : zeroS Y
  · rfl
  · have e := zeroS_eq hz
    have h1 := h.1
    rw [e, txtB, Bool.and_eq_true] at h1
    exact absurd h1.1 (by decide)
/-- The line is a text. -/
theorem rt_text {s : ByteArray} {k : Nat} {l : List Nd} {au : List Int} {rest : ByteArray} (h : GhT s k l au rest) (hne : rest.size ≠ 0) {d : Nat} (hd : Lead (n_wholeOf rest) d) (hc : cpB ((n_wholeOf rest).extract d (n_wholeOf rest).size) 124 = true) :
    GhT s (k + 1) (l ++ [⟨upD au d, cpT ((n_wholeOf rest).extract d (n_wholeOf rest).size) 124, z0⟩]) (au.take d) (n_partOf rest) := by
  obtain ⟨hlt, hb⟩ := cp_at hc
  have := ghT_text h hne hd hlt (by rw [hb]; rfl)
  rw [(cp_yes hlt hb).2]
  exact this
/-- The line is an element. -/
theorem rt_elem {s : ByteArray} {k : Nat} {l : List Nd} {au : List Int} {rest : ByteArray} (h : GhT s k l au rest) (hne : rest.size ≠ 0) {d : Nat} (hd : Lead (n_wholeOf rest) d) (hc : cpB ((n_wholeOf rest).extract d (n_wholeOf rest).size) 60 = true) {Y : St} (hY : ∀ Z, Rel (cpT ((n_wholeOf rest).extract d (n_wholeOf rest).size) 60) Z → Z = Y) :
    GhT s (k + 1) (l ++ [⟨upD au d, ByteArray.empty, Y⟩]) (au.take d ++ [(k : Int)]) (n_partOf rest) := by
  obtain ⟨hlt, hb⟩ := cp_at hc
  rw [(cp_yes hlt hb).2] at hY
  exact ghT_elem h hne hd hlt (by rw [hb]; rfl) hY
/-- The line is none. -/
theorem rt_none {s : ByteArray} {k : Nat} {l : List Nd} {au : List Int} {rest : ByteArray} (h : GhT s k l au rest) (hne : rest.size ≠ 0) {d : Nat} (hd : Lead (n_wholeOf rest) d)
    (h1 : cpB ((n_wholeOf rest).extract d (n_wholeOf rest).size) 124 = false) (h2 : cpB ((n_wholeOf rest).extract d (n_wholeOf rest).size) 60 = true → ¬ ∃ X, Rel (cpT ((n_wholeOf rest).extract d (n_wholeOf rest).size) 60) X) : ¬ ∃ X, RelT s X := by
  cases hb : cpB ((n_wholeOf rest).extract d (n_wholeOf rest).size) 60
  · refine ghT_none h hne hd (.inr (.inr (.inr (.inr (.inl (fun hlt => ⟨fun e => ?_, fun e => ?_⟩))))))
    · rw [(cp_yes hlt (UInt8.toNat_inj.1 (show _ = (60 : UInt8).toNat by show _ = 60; omega))).1] at hb; cases hb
    · rw [(cp_yes hlt (UInt8.toNat_inj.1 (show _ = (124 : UInt8).toNat by show _ = 124; omega))).1] at h1; cases h1
  · obtain ⟨hlt, hc⟩ := cp_at hb
    have h3 := h2 hb
    rw [(cp_yes hlt hc).2] at h3
    exact ghT_none h hne hd (.inr (.inr (.inr (.inr (.inr ⟨fun _ => by rw [hc]; rfl, h3⟩)))))
theorem own_cap {w : World} {B : Nat} {e : TypeId} {size n m cap : Nat} {a : Option Addr} {xs : List Value} (h : w.ownsRow B e size (.slice a m cap) n xs) : m ≤ cap := by
  rcases h.2 with ⟨hv, _⟩ | ⟨g, c, cur, hv, _, _, hcap, _⟩
  · simp only [Value.slice.injEq] at hv
    omega
  · simp only [Value.slice.injEq] at hv
    omega
theorem own_abides {w w' : World} {B : Nat} {e : TypeId} {size n : Nat} {v : Value} {xs : List Value} {row : Option Nat} (h : w.ownsRow B e size v n xs) (hg : w.grownBy w' row) (hr : ∀ r, row = some r → ∃ o : Obj, w.heap[r]? = some o ∧ o.isCells = false) : w'.ownsRow B e size v n xs := by
  refine ⟨h.1, ?_⟩
  rcases h.2 with h' | ⟨g, cap, cur, rfl, hB, hl, hrest⟩
  · exact .inl h'
  · refine .inr ⟨g, cap, cur, rfl, hB, (hg.block g (lies_lt hl) (fun e => ?_)).trans hl, hrest⟩
    obtain ⟨o, ho, hc⟩ := hr g e.symm
    rw [hl] at ho
    rw [← Option.some.inj ho] at hc
    cases hc
theorem lies_abides {w w' : World} {g : Nat} {cs : Array Value} {t : TypeId} {fr : Nat × Nat} {row : Option Nat} (h : w.heap[g]? = some (.cells cs t fr)) (hg : w.grownBy w' row) (hr : ∀ r, row = some r → ∃ o : Obj, w.heap[r]? = some o ∧ o.isCells = false) : w'.heap[g]? = some (.cells cs t fr) := by
  refine (hg.block g (lies_lt h) (fun e => ?_)).trans h
  obtain ⟨o, ho, hc⟩ := hr g e.symm
  rw [h] at ho
  rw [← Option.some.inj ho] at hc
  cases hc
end Go.Proofs.YtddnphgpdnedbaaGreatDoor

namespace Go.Proofs.YtddnphgpdnedbaaGreatDoor
open Go.ChangeShapes Go.WideShapes Go.ChangeAt Go.RowKit
set_option linter.unusedVariables false

theorem in_nil {P : Program} {ops : Array Oper} {Q : Exit → Act → World → Prop} {a : Act} {w : World} {rest : List Oper} {l n : Nat} (h : wpListIn (Fence.wide.inRound l) n P ops Q rest a w) :
    wpList P ops (fun e a' w' => e = .normal ∧ wpListIn (Fence.wide.inRound l) n P ops Q rest a' w') [] a w := ⟨rfl, h⟩
theorem ko_below {W w1 : World} (hb : Below W.heap.size W w1) : KeepsOthers W w1 :=
  ⟨hb.size, fun k o hk _ => (hb.block k (Array.getElem?_eq_some_iff.1 hk).1).trans hk⟩
theorem ko_put {g : Nat} {W W' : World} {cs : Array Value} {t : TypeId} {fr : Nat × Nat} (p : Put g W W') (hg : W.heap[g]? = some (.cells cs t fr)) : KeepsOthers W W' :=
  ⟨Nat.le_of_eq p.size.symm, fun k o hk ho => by
    by_cases e : k = g
    · subst e
      rw [hg] at hk
      rw [← Option.some.inj hk] at ho
      cases ho
    · exact (p.other k e).trans hk⟩
theorem own_cells {w : World} {B : Nat} {e : TypeId} {size n k : Nat} {v : Value} {xs : List Value} (h : w.ownsRow B e size v n xs) (hk : v.ownBlock = some k) : ∃ cs, w.heap[k]? = some (.cells cs e (0, 0)) := by
  rcases h.2 with ⟨rfl, _⟩ | ⟨g, cap, cur, rfl, _, hg, _⟩
  · simp [Value.ownBlock] at hk
  · simp only [Value.ownBlock, Option.some.injEq] at hk
    subst hk
    exact ⟨_, hg⟩
theorem ko_grow {B : Nat} {e : TypeId} {size n : Nat} {v : Value} {xs : List Value} {W W' : World} {o' : Obj} (h : W.ownsRow B e size v n xs) (hg : (W.alloc o').grownBy W' v.ownBlock) : KeepsOthers W W' :=
  ⟨Nat.le_trans (by simp) hg.size, fun k o hk ho => by
    have hlt := (Array.getElem?_eq_some_iff.1 hk).1
    refine (hg.block k (by simp; omega) (fun e => ?_)).trans (heap_in hk)
    obtain ⟨cs, hc⟩ := own_cells h e.symm
    rw [hc] at hk
    rw [← Option.some.inj hk] at ho
    cases ho⟩
theorem lies_grow {B : Nat} {e T : TypeId} {size n g : Nat} {v : Value} {xs : List Value} {W W' : World} {o' : Obj} {cs : Array Value} {fr : Nat × Nat} (h : W.ownsRow B e size v n xs) (hg : (W.alloc o').grownBy W' v.ownBlock) (hl : W.heap[g]? = some (.cells cs T fr)) (hT : T ≠ e) : W'.heap[g]? = some (.cells cs T fr) := by
  have hlt := lies_lt hl
  refine (hg.block g (by simp; omega) (fun e => ?_)).trans (heap_in hl)
  exact nOwn_ne h hl hT e.symm
/-- The blocks of a round: the results, the list and what is around, the node, the iterator's cell; what the rows own. -/
structure RtC (w : World) (q : Nat) (x : ByteArray) (Ws : World) (nb : Nat) (cn : Array Value) (vl va ul ua : Value) (ns : List Nd) (au : List Int) (W : World) : Prop where
  ko : KeepsOthers Ws W
  hq : QAt q x W
  g2 : W.heap[w.heap.size]? = some (.cells #[.slice none 0 0] 22 (0, 0))
  g3 : W.heap[w.heap.size + 1]? = some (.cells #[.bool false] 4 (0, 0))
  g4 : W.heap[w.heap.size + 1 + 1]? = some (.cells #[ul] 22 (0, 0))
  g5 : W.heap[w.heap.size + 1 + 1 + 1]? = some (.cells #[ua] 28 (0, 0))
  nn : W.heap[nb]? = some (.cells cn 36 (0, 0))
  ol : OwnN W w.heap.size vl ns
  oa : OwnI W w.heap.size va au
  nl : vl.ownBlock ≠ some nb
  bel : Below w.heap.size w W
  q5 : w.heap.size + 1 + 1 + 1 < q
  qn : q < nb
section
variable {w Ws W W' : World} {q nb : Nat} {x : ByteArray} {cn : Array Value} {vl va ul ua : Value} {ns : List Nd} {au : List Int}
theorem RtC.below (h : RtC w q x Ws nb cn vl va ul ua ns au W) (c : Below W.heap.size W W') : RtC w q x Ws nb cn vl va ul ua ns au W' :=
  ⟨h.ko.trans (ko_below c), below_lies c h.hq (lies_lt h.hq), below_lies c h.g2 (lies_lt h.g2), below_lies c h.g3 (lies_lt h.g3), below_lies c h.g4 (lies_lt h.g4), below_lies c h.g5 (lies_lt h.g5), below_lies c h.nn (lies_lt h.nn), nOwn_keep h.ol c, nOwn_keep h.oa c, h.nl, h.bel.trans (c.mono h.bel.size), h.q5, h.qn⟩
theorem RtC.put5 (h : RtC w q x Ws nb cn vl va ul ua ns au W) (p : Put (w.heap.size + 1 + 1 + 1) W W') {u : Value} (l : W'.heap[w.heap.size + 1 + 1 + 1]? = some (.cells #[u] 28 (0, 0))) : RtC w q x Ws nb cn vl va ul u ns au W' :=
  have := h.q5
  have := h.qn
  ⟨h.ko.trans (ko_put p h.g5), p.lies h.hq (by omega), p.lies h.g2 (by omega), p.lies h.g3 (by omega), p.lies h.g4 (by omega), l, p.lies h.nn (by omega), nOwn_put h.ol p (nOwn_ne h.ol h.g5 (by decide)), nOwn_put h.oa p (nOwn_ne h.oa h.g5 (by decide)), h.nl, p.below h.bel (by omega), h.q5, h.qn⟩
theorem RtC.put4 (h : RtC w q x Ws nb cn vl va ul ua ns au W) (p : Put (w.heap.size + 1 + 1) W W') {u : Value} (l : W'.heap[w.heap.size + 1 + 1]? = some (.cells #[u] 22 (0, 0))) : RtC w q x Ws nb cn vl va u ua ns au W' :=
  have := h.q5
  have := h.qn
  ⟨h.ko.trans (ko_put p h.g4), p.lies h.hq (by omega), p.lies h.g2 (by omega), p.lies h.g3 (by omega), l, p.lies h.g5 (by omega), p.lies h.nn (by omega), nOwn_put h.ol p (nOwn_ne h.ol h.g4 (by decide)), nOwn_put h.oa p (nOwn_ne h.oa h.g4 (by decide)), h.nl, p.below h.bel (by omega), h.q5, h.qn⟩
theorem RtC.putn (h : RtC w q x Ws nb cn vl va ul ua ns au W) (p : Put nb W W') {cn' : Array Value} (l : W'.heap[nb]? = some (.cells cn' 36 (0, 0))) : RtC w q x Ws nb cn' vl va ul ua ns au W' :=
  have := h.q5
  have := h.qn
  ⟨h.ko.trans (ko_put p h.nn), p.lies h.hq (by omega), p.lies h.g2 (by omega), p.lies h.g3 (by omega), p.lies h.g4 (by omega), p.lies h.g5 (by omega), l, nOwn_put h.ol p h.nl, nOwn_put h.oa p (nOwn_ne h.oa h.nn (by decide)), h.nl, p.below h.bel (by omega), h.q5, h.qn⟩
theorem RtC.app5 {o' : Obj} {v : Value} {z : Int} (h : RtC w q x Ws nb cn vl va ul ua ns au W) (hg : (W.alloc o').grownBy W' va.ownBlock) (ho : OwnI W' w.heap.size v (au ++ [z])) : RtC w q x Ws nb cn vl v ul ua ns (au ++ [z]) W' :=
  have oa : W.ownsRow w.heap.size 3 1 va au.length (au.map (Value.int .i64)) := h.oa
  ⟨h.ko.trans (ko_grow oa hg), lies_grow oa hg h.hq (by decide), lies_grow oa hg h.g2 (by decide), lies_grow oa hg h.g3 (by decide), lies_grow oa hg h.g4 (by decide), lies_grow oa hg h.g5 (by decide), lies_grow oa hg h.nn (by decide), World.ownsRow.kept (World.ownsRow.alloc h.ol _) hg (nOwn_ne2 h.ol oa (by decide)), ho, h.nl,
    (h.bel.alloc h.bel.size _).grown hg (by have := h.bel.size; simp; omega) (fun j hj => (oa.lt j hj).1), h.q5, h.qn⟩
end
/-- Behind the append to the list: what the next round begins with. -/
theorem RtC.app4 {w Ws W W' : World} {q nb : Nat} {x : ByteArray} {cn : Array Value} {vl va ul : Value} {ns : List Nd} {au : List Int} {o' : Obj} {v : Value} {y : Nd} (h : RtC w q x Ws nb cn vl va ul va ns au W) (hg : (W.alloc o').grownBy W' vl.ownBlock) (ho : OwnN W' w.heap.size v (ns ++ [y])) :
    KeepsOthers Ws W' ∧ QAt q x W' ∧ W'.heap[w.heap.size]? = some (.cells #[.slice none 0 0] 22 (0, 0)) ∧ W'.heap[w.heap.size + 1]? = some (.cells #[.bool false] 4 (0, 0)) ∧ W'.heap[w.heap.size + 1 + 1]? = some (.cells #[ul] 22 (0, 0)) ∧ W'.heap[w.heap.size + 1 + 1 + 1]? = some (.cells #[va] 28 (0, 0)) ∧ OwnN W' w.heap.size v (ns ++ [y]) ∧ OwnI W' w.heap.size va au ∧ Below w.heap.size w W' :=
  have ol : W.ownsRow w.heap.size 36 28 vl ns.length (flatN ns) := h.ol
  ⟨h.ko.trans (ko_grow ol hg), lies_grow ol hg h.hq (by decide), lies_grow ol hg h.g2 (by decide), lies_grow ol hg h.g3 (by decide), lies_grow ol hg h.g4 (by decide), lies_grow ol hg h.g5 (by decide), ho, World.ownsRow.kept (World.ownsRow.alloc h.oa _) hg (nOwn_ne2 h.oa ol (by decide)),
    (h.bel.alloc h.bel.size _).grown hg (by have := h.bel.size; simp; omega) (fun j hj => (ol.lt j hj).1)⟩
end Go.Proofs.YtddnphgpdnedbaaGreatDoor
