/-
  The program's test of one node in itself.
-/
import Derived.Test.YtddnphgpdnedbaaDoorNdZ
import Derived.Test.YtddnphgpdnedbaaDoorT3b
import Derived.Test.YtddnphgpdnedbaaDoorStyG
namespace Go.Proofs.YtddnphgpdnedbaaDoor
open Go.ChangeShapes Go.WideShapes Go.ChangeAt Go.RowKit
set_option linter.unusedVariables false

theorem tx_nil {s : ByteArray} (h : s.size = 0) : s.toList = [] := by
  rw [ByteArray.toList_eq]
  exact List.eq_nil_of_length_eq_zero (by simpa using h)
theorem tx_not_nil {s : ByteArray} (h : ¬ s.size = 0) : s.toList ≠ [] := by
  rw [ByteArray.toList_eq]
  exact fun e => h (by have := congrArg List.length e; simpa using this)

theorem wpList_load_midG {P : Program} {ops : Array Oper} {rest : List Oper} {op : Oper} {a : Act} {w : World} {Q : Exit → Act → World → Prop} (hw : Region.wanted op (yielded ops a.tmps) = true) (ty : TypeId) (x : Operand) (ho : op.op = .load ty x)
    (b o : Nat) (hx : a.eval x = .pointer (some ⟨b, o, none⟩)) (cs : List Value) (d : TypeDesc) (hc : w.rangeAt b o cs)
    (hu : P.underlying ty = some d) (hd : d.isRow = true) (hi : (P.info? ty).map (·.size) = some cs.length)
    (h : wpList P ops Q rest (a.put op.dst (.agg cs.toArray)) w) : wpList P ops Q (op :: rest) a w :=
  wpList_step fun K hK => by rw [if_pos hw]; exact wp_load_mid ty x ho b o hx cs d hc hu hd hi (hK _ _ h)

set_option maxRecDepth 100000 in
set_option maxHeartbeats 4000000 in
theorem goodNode_any (n : Nd) (w : World) (hs : n.tx.size ≤ maxLen) (et : TypeId) (ev : Value) (he : w.cell? ⟨0, 0, none⟩ = some (.iface et ev)) :
    Calls Tryd.prog 32 #[.agg #[.int .i64 n.up, .string n.tx, .int .i64 n.st.sh, .int .i64 n.st.fl, .int .i64 n.st.cl, .bool n.st.w.a, .bool n.st.w.p, .int .i64 n.st.w.n, .bool n.st.h.a, .bool n.st.h.p, .int .i64 n.st.h.n, .int .i64 n.st.mn, .int .i64 n.st.mx, .int .i64 n.st.mt, .bool n.st.mr.a, .bool n.st.mr.p, .int .i64 n.st.mr.n, .int .i64 n.st.mb, .bool n.st.ml.a, .bool n.st.ml.p, .int .i64 n.st.ml.n, .int .i64 n.st.bo, .int .i64 n.st.pa, .int .i64 n.st.wh, .int .i64 n.st.al, .int .i64 n.st.lh, .int .i64 n.st.ri, .int .i64 n.st.dn]] w fun e w' => e = .returned (.bool (okN (okB true) styleB n)) ∧ Below w.heap.size w w' := by
  have lte : 0 < w.heap.size := World.block_lt_of_cell? _ ⟨0, 0, none⟩ he
  have IT := fun W => implIsText_any n W
  have TX := fun W => isText_any n.tx W hs
  have GS := fun (W : World) (h : Below w.heap.size w W) => implGoodStyle_any n.st W et ev ((h.cell (p := ⟨0, 0, none⟩) lte).trans he)
  clear he
  cases hz : zeroS n.st
  · rw [hz] at IT
    by_cases h0 : n.tx.size = 0
    · have HF : Hid (okN (okB true) styleB n = styleB n.st) := by show _ = _; simp [okN, hz, h0]
      have e1 := tx_nil h0
      clear h0
      generalize styleB n.st = r at GS HF
      go_enter Tryd.func32, Tryd.ntmps32
      iterate 12 go_step
      refine wp_gen1 ?_
      intro W bel l0 hsz
      go_wp2_with (with_reducible show wpList _ _ _ (⟨some 3, Op.load 42 _, _, _, _, _⟩ :: _) _ _; refine wpList_load_row rfl 42 _ rfl w.heap.size rfl _ (#[.int .i64 n.up, .string n.tx, .int .i64 n.st.sh, .int .i64 n.st.fl, .int .i64 n.st.cl, .bool n.st.w.a, .bool n.st.w.p, .int .i64 n.st.w.n, .bool n.st.h.a, .bool n.st.h.p, .int .i64 n.st.h.n, .int .i64 n.st.mn, .int .i64 n.st.mx, .int .i64 n.st.mt, .bool n.st.mr.a, .bool n.st.mr.p, .int .i64 n.st.mr.n, .int .i64 n.st.mb, .bool n.st.ml.a, .bool n.st.ml.p, .int .i64 n.st.ml.n, .int .i64 n.st.bo, .int .i64 n.st.pa, .int .i64 n.st.wh, .int .i64 n.st.al, .int .i64 n.st.lh, .int .i64 n.st.ri, .int .i64 n.st.dn]) _ _ l0 Tryd.underlying42 rfl (by kernel_rfl) ?_)
      refine (IT _).mono ?_
      rintro e w1 ⟨rfl, hb⟩
      have l1 := below_lies hb l0 (lies_lt l0)
      have b1 := bel.trans (hb.mono (by omega))
      have hc1 : w1.cell? ⟨w.heap.size, 1, none⟩ = some (.string n.tx) := (lies_cell l1 1).trans rfl
      have R1 : w1.rangeAt w.heap.size 2 (#[.int .i64 n.st.sh, .int .i64 n.st.fl, .int .i64 n.st.cl, .bool n.st.w.a, .bool n.st.w.p, .int .i64 n.st.w.n, .bool n.st.h.a, .bool n.st.h.p, .int .i64 n.st.h.n, .int .i64 n.st.mn, .int .i64 n.st.mx, .int .i64 n.st.mt, .bool n.st.mr.a, .bool n.st.mr.p, .int .i64 n.st.mr.n, .int .i64 n.st.mb, .bool n.st.ml.a, .bool n.st.ml.p, .int .i64 n.st.ml.n, .int .i64 n.st.bo, .int .i64 n.st.pa, .int .i64 n.st.wh, .int .i64 n.st.al, .int .i64 n.st.lh, .int .i64 n.st.ri, .int .i64 n.st.dn] : Array Value).toList := fun j v hj => (lies_cell l1 (2 + j)).trans (by rw [← hj, show (#[.int .i64 n.st.sh, .int .i64 n.st.fl, .int .i64 n.st.cl, .bool n.st.w.a, .bool n.st.w.p, .int .i64 n.st.w.n, .bool n.st.h.a, .bool n.st.h.p, .int .i64 n.st.h.n, .int .i64 n.st.mn, .int .i64 n.st.mx, .int .i64 n.st.mt, .bool n.st.mr.a, .bool n.st.mr.p, .int .i64 n.st.mr.n, .int .i64 n.st.mb, .bool n.st.ml.a, .bool n.st.ml.p, .int .i64 n.st.ml.n, .int .i64 n.st.bo, .int .i64 n.st.pa, .int .i64 n.st.wh, .int .i64 n.st.al, .int .i64 n.st.lh, .int .i64 n.st.ri, .int .i64 n.st.dn] : Array Value).toList = (#[.int .i64 n.up, .string n.tx, .int .i64 n.st.sh, .int .i64 n.st.fl, .int .i64 n.st.cl, .bool n.st.w.a, .bool n.st.w.p, .int .i64 n.st.w.n, .bool n.st.h.a, .bool n.st.h.p, .int .i64 n.st.h.n, .int .i64 n.st.mn, .int .i64 n.st.mx, .int .i64 n.st.mt, .bool n.st.mr.a, .bool n.st.mr.p, .int .i64 n.st.mr.n, .int .i64 n.st.mb, .bool n.st.ml.a, .bool n.st.ml.p, .int .i64 n.st.ml.n, .int .i64 n.st.bo, .int .i64 n.st.pa, .int .i64 n.st.wh, .int .i64 n.st.al, .int .i64 n.st.lh, .int .i64 n.st.ri, .int .i64 n.st.dn] : Array Value).toList.drop 2 from rfl, List.getElem?_drop]; simp)
      have G1 := GS w1 b1
      clear l0 l1 hb bel hsz IT TX GS
      go_wp2_with (with_reducible show wpList _ _ _ (⟨some 18, Op.load 40 _, _, _, _, _⟩ :: _) _ _; refine wpList_load_midG ?q0 40 _ rfl w.heap.size 2 ?q1 (#[.int .i64 n.st.sh, .int .i64 n.st.fl, .int .i64 n.st.cl, .bool n.st.w.a, .bool n.st.w.p, .int .i64 n.st.w.n, .bool n.st.h.a, .bool n.st.h.p, .int .i64 n.st.h.n, .int .i64 n.st.mn, .int .i64 n.st.mx, .int .i64 n.st.mt, .bool n.st.mr.a, .bool n.st.mr.p, .int .i64 n.st.mr.n, .int .i64 n.st.mb, .bool n.st.ml.a, .bool n.st.ml.p, .int .i64 n.st.ml.n, .int .i64 n.st.bo, .int .i64 n.st.pa, .int .i64 n.st.wh, .int .i64 n.st.al, .int .i64 n.st.lh, .int .i64 n.st.ri, .int .i64 n.st.dn] : Array Value).toList _ R1 Tryd.underlying40 rfl (by kernel_rfl) ?_)
      case q1 => rfl
      go_wp2_with fail
      refine G1.mono ?_
      rintro e w2 ⟨rfl, hb2⟩
      go_wp2
      go_ret
      exact ⟨ret_bool HF.out.symm, b1.trans (hb2.mono b1.size)⟩
    · have HF : Hid (okN (okB true) styleB n = false) := by show _ = _; simp [okN, hz, h0]
      have e1 := tx_not_nil h0
      clear h0 GS TX
      go_enter Tryd.func32, Tryd.ntmps32
      iterate 12 go_step
      refine wp_gen1 ?_
      intro W bel l0 hsz
      go_wp2_with (with_reducible show wpList _ _ _ (⟨some 3, Op.load 42 _, _, _, _, _⟩ :: _) _ _; refine wpList_load_row rfl 42 _ rfl w.heap.size rfl _ (#[.int .i64 n.up, .string n.tx, .int .i64 n.st.sh, .int .i64 n.st.fl, .int .i64 n.st.cl, .bool n.st.w.a, .bool n.st.w.p, .int .i64 n.st.w.n, .bool n.st.h.a, .bool n.st.h.p, .int .i64 n.st.h.n, .int .i64 n.st.mn, .int .i64 n.st.mx, .int .i64 n.st.mt, .bool n.st.mr.a, .bool n.st.mr.p, .int .i64 n.st.mr.n, .int .i64 n.st.mb, .bool n.st.ml.a, .bool n.st.ml.p, .int .i64 n.st.ml.n, .int .i64 n.st.bo, .int .i64 n.st.pa, .int .i64 n.st.wh, .int .i64 n.st.al, .int .i64 n.st.lh, .int .i64 n.st.ri, .int .i64 n.st.dn]) _ _ l0 Tryd.underlying42 rfl (by kernel_rfl) ?_)
      refine (IT _).mono ?_
      rintro e w1 ⟨rfl, hb⟩
      have l1 := below_lies hb l0 (lies_lt l0)
      have b1 := bel.trans (hb.mono (by omega))
      have hc1 : w1.cell? ⟨w.heap.size, 1, none⟩ = some (.string n.tx) := (lies_cell l1 1).trans rfl
      clear l0 l1 hb bel hsz IT
      go_wp2
      go_ret
      exact ⟨ret_bool HF.out.symm, b1⟩
  · rw [hz] at IT
    by_cases h0 : n.tx.size = 0
    · have HF : Hid (okN (okB true) styleB n = false) := by show _ = _; simp [okN, hz, h0]
      have e1 := tx_nil h0
      clear h0 GS TX
      go_enter Tryd.func32, Tryd.ntmps32
      iterate 12 go_step
      refine wp_gen1 ?_
      intro W bel l0 hsz
      go_wp2_with (with_reducible show wpList _ _ _ (⟨some 3, Op.load 42 _, _, _, _, _⟩ :: _) _ _; refine wpList_load_row rfl 42 _ rfl w.heap.size rfl _ (#[.int .i64 n.up, .string n.tx, .int .i64 n.st.sh, .int .i64 n.st.fl, .int .i64 n.st.cl, .bool n.st.w.a, .bool n.st.w.p, .int .i64 n.st.w.n, .bool n.st.h.a, .bool n.st.h.p, .int .i64 n.st.h.n, .int .i64 n.st.mn, .int .i64 n.st.mx, .int .i64 n.st.mt, .bool n.st.mr.a, .bool n.st.mr.p, .int .i64 n.st.mr.n, .int .i64 n.st.mb, .bool n.st.ml.a, .bool n.st.ml.p, .int .i64 n.st.ml.n, .int .i64 n.st.bo, .int .i64 n.st.pa, .int .i64 n.st.wh, .int .i64 n.st.al, .int .i64 n.st.lh, .int .i64 n.st.ri, .int .i64 n.st.dn]) _ _ l0 Tryd.underlying42 rfl (by kernel_rfl) ?_)
      refine (IT _).mono ?_
      rintro e w1 ⟨rfl, hb⟩
      have l1 := below_lies hb l0 (lies_lt l0)
      have b1 := bel.trans (hb.mono (by omega))
      have hc1 : w1.cell? ⟨w.heap.size, 1, none⟩ = some (.string n.tx) := (lies_cell l1 1).trans rfl
      clear l0 l1 hb bel hsz IT
      go_wp2
      go_ret
      exact ⟨ret_bool HF.out.symm, b1⟩
    · have HF : Hid (okN (okB true) styleB n = okB true n.tx) := by show _ = _; simp [okN, hz, h0]
      have e1 := tx_not_nil h0
      clear h0 GS
      generalize okB true n.tx = r at TX HF
      go_enter Tryd.func32, Tryd.ntmps32
      iterate 12 go_step
      refine wp_gen1 ?_
      intro W bel l0 hsz
      go_wp2_with (with_reducible show wpList _ _ _ (⟨some 3, Op.load 42 _, _, _, _, _⟩ :: _) _ _; refine wpList_load_row rfl 42 _ rfl w.heap.size rfl _ (#[.int .i64 n.up, .string n.tx, .int .i64 n.st.sh, .int .i64 n.st.fl, .int .i64 n.st.cl, .bool n.st.w.a, .bool n.st.w.p, .int .i64 n.st.w.n, .bool n.st.h.a, .bool n.st.h.p, .int .i64 n.st.h.n, .int .i64 n.st.mn, .int .i64 n.st.mx, .int .i64 n.st.mt, .bool n.st.mr.a, .bool n.st.mr.p, .int .i64 n.st.mr.n, .int .i64 n.st.mb, .bool n.st.ml.a, .bool n.st.ml.p, .int .i64 n.st.ml.n, .int .i64 n.st.bo, .int .i64 n.st.pa, .int .i64 n.st.wh, .int .i64 n.st.al, .int .i64 n.st.lh, .int .i64 n.st.ri, .int .i64 n.st.dn]) _ _ l0 Tryd.underlying42 rfl (by kernel_rfl) ?_)
      refine (IT _).mono ?_
      rintro e w1 ⟨rfl, hb⟩
      have l1 := below_lies hb l0 (lies_lt l0)
      have b1 := bel.trans (hb.mono (by omega))
      have hc1 : w1.cell? ⟨w.heap.size, 1, none⟩ = some (.string n.tx) := (lies_cell l1 1).trans rfl
      clear l0 l1 hb bel hsz IT
      go_wp2_with (go_at_call 48; refine (TX _).mono ?_; rintro e w' ⟨rfl, hw⟩; have hw := hw.symm; subst hw)
      go_ret
      exact ⟨ret_bool (by rw [HF.out]; simp [e1]), b1⟩
end Go.Proofs.YtddnphgpdnedbaaDoor
