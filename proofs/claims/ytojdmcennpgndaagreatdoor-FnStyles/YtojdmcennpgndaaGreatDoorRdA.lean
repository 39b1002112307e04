/-
  The program's readers of lengths and sizes, one form each.
-/
import Derived.Test.YtojdmcennpgndaaGreatDoorRdP
import Derived.Test.YtojdmcennpgndaaGreatDoorWide
import Derived.Test.YtojdmcennpgndaaGreatDoorSty
import Derived.Deep.RegionHeld3
namespace Go.Proofs.YtojdmcennpgndaaGreatDoor
open Go.ChangeShapes Go.WideShapes Go.ChangeAt Go.RowKit
set_option linter.unusedVariables false

/-- A fault of form. -/
def FormE (e : Value) : Prop := ∃ p : Addr, e = .iface 122 (.pointer (some p))
theorem rd_drew {B : Nat} {w w1 : World} (h : Below B w w1) (n : Nat) : Below B w (w1.drewN n) := ⟨h.os, h.tape, h.output, h.size, h.block⟩

set_option maxHeartbeats 1000000 in
theorem readLength_any (s : ByteArray) (w : World) (hs : s.size ≤ 1048576) :
    Calls Tryz.prog 62 #[.string s] w fun e w' => (∃ x, e = .returned (.tuple #[.int .i64 (readN s), x]) ∧ ((readB s = true ∧ x = .nilIface) ∨ (readB s = false ∧ FormE x))) ∧ Below w.heap.size w w' := by
  have RD := fun W => impl_read s W hs
  cases h : readB s
  · rw [h, show readN s = 0 by simp [readN, h]] at RD
    rw [show readN s = 0 by simp [readN, h]]
    clear h
    go_enter Tryz.func62, Tryz.ntmps62
    go_wp2_with fail
    refine (RD _).mono ?_
    rintro e w1 ⟨rfl, n, rfl⟩
    go_wp2
    go_ret2
    exact ⟨⟨_, rfl, .inr ⟨by trivial, _, rfl⟩⟩, (rd_drew (Below.refl _ _) n).alloc (by simp) _⟩
  · rw [h] at RD
    clear h
    generalize readN s = v at RD
    go_enter Tryz.func62, Tryz.ntmps62
    go_wp2_with fail
    refine (RD _).mono ?_
    rintro e w1 ⟨rfl, n, rfl⟩
    go_wp2
    go_ret2
    exact ⟨⟨_, rfl, .inl ⟨by trivial, rfl⟩⟩, rd_drew (Below.refl _ _) n⟩

def autoB (s : ByteArray) : Bool := s.toList == [97, 117, 116, 111]
set_option maxHeartbeats 1000000 in
theorem readAuto_any (s : ByteArray) (w : World) :
    Calls Tryz.prog 67 #[.string s] w fun e w' => (∃ x, e = .returned (.tuple #[.agg #[.bool (autoB s), .bool false, .int .i64 0], x]) ∧ ((autoB s = true ∧ x = .nilIface) ∨ (autoB s = false ∧ FormE x))) ∧ Below w.heap.size w w' := by
  cases h : autoB s
  · have h' : (s.toList == [97, 117, 116, 111]) = false := h
    clear h
    go_enter Tryz.func67, Tryz.ntmps67
    go_wp2
    refine bodyPost_ret (v := .tuple #[.agg #[.bool false, .bool false, .int .i64 0], .iface 122 (.pointer (some ⟨w.heap.size + 1, 0, none⟩))]) (by simp [results, Tryz.results67, go_sem]) rfl ?_
    refine ⟨⟨_, rfl, .inr ⟨by trivial, _, rfl⟩⟩, ?_⟩
    repeat (first | exact Below.refl _ _ | refine Below.drew ?_ | refine Below.setCell ?_ (by first | (simp; done) | (simp; omega)) _ | refine Below.alloc ?_ (by first | (simp; done) | (simp; omega)) _)
  · have h' : (s.toList == [97, 117, 116, 111]) = true := h
    clear h
    go_enter Tryz.func67, Tryz.ntmps67
    go_wp2
    refine bodyPost_ret (v := .tuple #[.agg #[.bool true, .bool false, .int .i64 0], .nilIface]) (by simp [results, Tryz.results67, go_sem]) rfl ?_
    refine ⟨⟨_, rfl, .inl ⟨by trivial, rfl⟩⟩, ?_⟩
    repeat (first | exact Below.refl _ _ | refine Below.drew ?_ | refine Below.setCell ?_ (by first | (simp; done) | (simp; omega)) _ | refine Below.alloc ?_ (by first | (simp; done) | (simp; omega)) _)

set_option maxHeartbeats 1000000 in
theorem readPixelSize_any (s : ByteArray) (w : World) (hs : s.size ≤ 1048576) :
    Calls Tryz.prog 69 #[.string s] w fun e w' => (∃ x, e = .returned (.tuple #[.agg #[.bool false, .bool false, .int .i64 (readN s)], x]) ∧ ((readB s = true ∧ x = .nilIface) ∨ (readB s = false ∧ FormE x))) ∧ Below w.heap.size w w' := by
  have RD := fun W => readLength_any s W hs
  generalize readN s = v at RD ⊢
  generalize readB s = r at RD ⊢
  go_enter Tryz.func69, Tryz.ntmps69
  go_wp2_with fail
  refine (RD _).mono ?_
  rintro e w1 ⟨⟨x, rfl, hx⟩, hb⟩
  have hz : w.heap.size < w1.heap.size := by have := hb.size; simp at this; omega
  have hc : ∀ j, j < 3 → w1.cell? ⟨w.heap.size, j, none⟩ = (#[.bool false, .bool false, .int .i64 0] : Array Value)[j]? := fun j hj => (hb.cell (p := ⟨w.heap.size, j, none⟩) (by simp)).trans (by simp)
  have c0 := hc 0 (by omega)
  have c1 := hc 1 (by omega)
  have c2 := hc 2 (by omega)
  have f0 : w1.frozen? ⟨w.heap.size, 0, none⟩ = false := (hb.frozen (p := ⟨w.heap.size, 0, none⟩) (by simp)).trans (by simp)
  have f1 : w1.frozen? ⟨w.heap.size, 1, none⟩ = false := (hb.frozen (p := ⟨w.heap.size, 1, none⟩) (by simp)).trans (by simp)
  have f2 : w1.frozen? ⟨w.heap.size, 2, none⟩ = false := (hb.frozen (p := ⟨w.heap.size, 2, none⟩) (by simp)).trans (by simp)
  have bw : Below w.heap.size w w1 := ((Below.refl _ _).alloc (Nat.le_refl _) _).trans (hb.mono (by simp))
  clear hb hc RD
  go_wp2
  refine bodyPost_ret (v := .tuple #[.agg #[.bool false, .bool false, .int .i64 v], x]) (by simp [results, Tryz.results69, go_sem, c0, c1, c2]) rfl ?_
  refine ⟨⟨_, rfl, hx⟩, ?_⟩
  repeat (first | exact bw | refine Below.drew ?_ | refine Below.setCell ?_ (by first | (simp; done) | (simp; omega)) _ | refine Below.alloc ?_ (by first | (simp; done) | (simp; omega)) _)
end Go.Proofs.YtojdmcennpgndaaGreatDoor
