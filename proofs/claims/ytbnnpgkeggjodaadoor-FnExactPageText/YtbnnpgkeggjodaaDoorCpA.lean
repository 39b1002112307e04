/-
  The program's copied: a text's bytes in memory of their own.
-/
import Derived.Test.YtbnnpgkeggjodaaDoorRows
import Derived.Test.YtbnnpgkeggjodaaDoorWide
import Derived.WalkSpells
import Derived.WalkSmall
import Derived.Lib.BufferWrite
import Derived.Laws.IdiomStrings
import Derived.OwnWalk
namespace Go.Proofs.YtbnnpgkeggjodaaDoor
open Go.ChangeShapes Go.WideShapes Go.ChangeAt Go.RowKit
set_option linter.unusedVariables false

theorem Tryd.infoCp : (Tryd.prog.info? 5).map (fun i => (i.zero, i.size, i.bytes)) = some (some (.int .u8 0), 1, 1) := by kernel_rfl
theorem cpSize : (Tryd.prog.info? 5).map (·.size) = some 1 := by kernel_rfl
/-- Block g is the bytes l and nothing else. -/
def CRow (w : World) (g : Nat) (l : List UInt8) : Prop := w.heap[g]? = some (.cells (Lib.byteCells l).toArray 5 (0, 0))
theorem CRow.cell {w : World} {g : Nat} {l : List UInt8} (h : CRow w g l) {k : Nat} (hk : k < l.length) : w.cell? ⟨g, k, none⟩ = some (.int .u8 ((l.getD k 0).toNat : Int)) := by
  refine (lies_cell h k).trans ?_
  simp [Lib.byteCells, List.getD_eq_getElem?_getD, hk]
theorem CRow.frozen {w : World} {g : Nat} {l : List UInt8} (h : CRow w g l) (k : Nat) : w.frozen? ⟨g, k, none⟩ = false := Lib.frozen_of_heap h k
theorem CRow.below {w w' : World} {g B : Nat} {l : List UInt8} (h : CRow w g l) (hb : Below B w w') (hg : g < B) : CRow w' g l := below_lies hb h hg
theorem CRow.set {w : World} {g k : Nat} {l : List UInt8} (h : CRow w g l) (c : UInt8) (z : Int) (hz : z = (c.toNat : Int)) : CRow (w.setCell ⟨g, k, none⟩ (.int .u8 z)) g (l.set k c) := by
  show (w.setCell ⟨g, k, none⟩ (.int .u8 z)).heap[g]? = _
  rw [Lib.heap_setCell_same h, hz]
  simp [Lib.byteCells, List.map_set]
theorem CRow.back {w : World} {g : Nat} {l : List UInt8} (h : CRow w g l) (n cap : Nat) (hn : n = l.length) : (convert 51 9 (.slice (some ⟨g, 0, none⟩) n cap)).run Tryd.prog w = .ok (.string ⟨l.toArray⟩) w := by
  subst hn
  exact run_convert_bytes_back w 51 9 5 ⟨g, 0, none⟩ cap l Tryd.underlying51 Tryd.underlying5 Tryd.underlying9 (fun j hj => by
    have hadd : (⟨g, 0, none⟩ : Addr).add j = ⟨g, j, none⟩ := by unfold Addr.add; split <;> simp_all
    rw [hadd, h.cell hj]
    simp [List.getD_eq_getElem?_getD, hj])
set_option maxRecDepth 100000 in
set_option maxHeartbeats 2000000 in
theorem copied_own (s : ByteArray) (w : World) (hs : s.size ≤ 1048576) :
    Calls Tryd.prog 36 #[.string s] w fun e w' => e = .returned (.slice (some ⟨w.heap.size, 0, none⟩) s.size s.size) ∧ CRow w' w.heap.size s.data.toList ∧ Below w.heap.size w w' := by
  obtain ⟨i0, hi, hz0, hz1, hz2⟩ := info_parts Tryd.infoCp
  go_enter Tryd.func36, Tryd.ntmps36
  go_wp2_with (at_make; refine wpList_make_full _ rfl (.tmp 5) (.tmp 5) 51 rfl w.heap.size 5 i0 (.int .u8 0) 1 Tryd.underlying51 hi hz0 hz1 .i64 .i64 s.size s.size s.size rfl rfl rfl rfl (by rw [hz2]; omega) (by unfold maxLen; omega) (Nat.le_refl _) ?_; intro w1 hown hgrow)
  obtain ⟨cur, hc, hcs⟩ : ∃ cur, w1.heap[w.heap.size]? = some (.cells cur 5 (0, 0)) ∧ cur.size = s.size := by
    rcases hown.2 with ⟨h, _⟩ | ⟨g, cap, cur, h, _, hg, _, _, h2, _⟩
    · cases h
    · injection h with h3 h4 h5
      injection h3 with h3
      injection h3 with h3
      subst h3
      subst h5
      exact ⟨cur, hg, by simpa using h2⟩
  have hb1 : Below w.heap.size w w1 := (Below.refl _ _).grown hgrow (Nat.le_refl _) (by intro j hj; cases hj)
  have e1 : (cur.toList.take 0 ++ Lib.byteCells s.data.toList ++ cur.toList.drop (0 + s.size)).toArray = (Lib.byteCells s.data.toList).toArray := by
    rw [List.take_zero, List.nil_append, List.drop_eq_nil_of_le (by simp; omega), List.append_nil]
  have R := Lib.run_copy_row_string w1 51 9 3 5 w.heap.size 0 s.size s.size s cur 5 Tryd.underlying51 cpSize hc (Nat.le_refl _) (by omega)
  rw [e1] at R
  have l2 : CRow (w1.setRow w.heap.size (Lib.byteCells s.data.toList).toArray) w.heap.size s.data.toList := setRow_heap _ _ _ _ _ _ hc
  have b2 : Below w.heap.size w (w1.setRow w.heap.size (Lib.byteCells s.data.toList).toArray) := (put_setRow _ _ _).below hb1 (Nat.le_refl _)
  generalize w1.setRow w.heap.size (Lib.byteCells s.data.toList).toArray = w2 at R l2 b2
  clear e1 hc hown hgrow hb1
  go_wp2_with fail
  rw [R]
  simp only [Result.andThen]
  rw [Oper.upon_value]
  go_wp2
  go_ret
  exact ⟨rfl, l2, b2⟩
theorem copied_any (s : ByteArray) (n : Nat) (w : World) (hn : n = s.size) (hs : n ≤ 1048576) :
    Calls Tryd.prog 36 #[.string s] w fun e w' => e = .returned (.slice (some ⟨w.heap.size, 0, none⟩) n n) ∧ CRow w' w.heap.size s.data.toList ∧ Below w.heap.size w w' := by
  subst hn
  exact copied_own s w hs
end Go.Proofs.YtbnnpgkeggjodaaDoor
