/-
  Contracts of a plain text and of a text's width, of the program and of its model.
-/
import Derived.Test.YtddnphgpdnedbaaDoorAdv
namespace Go.Proofs.YtddnphgpdnedbaaDoor
open Go.ChangeShapes Go.WideShapes Go.ChangeAt Go.RowKit
set_option linter.unusedVariables false

theorem plainByte_any (z : Int) (w : World) : Calls Tryd.prog 68 #[.int .u8 z] w fun e w' => e = .returned (.bool (inB 32 126 z)) ∧ w' = w := by
  by_cases h1 : 32 ≤ z <;> by_cases h2 : z ≤ 126 <;>
  · go_enter Tryd.func68, Tryd.ntmps68
    go_wp2
    go_ret
    exact ⟨ret_bool (by simp [inB, h1, h2]), rfl⟩

theorem bcellA {W w1 : World} (hb : Below W.heap.size W w1) : (∀ b o, b < W.heap.size → w1.cell? ⟨b, o, none⟩ = W.cell? ⟨b, o, none⟩) ∧ (∀ b o, b < W.heap.size → w1.frozen? ⟨b, o, none⟩ = W.frozen? ⟨b, o, none⟩) :=
  ⟨fun b o h => hb.cell (p := ⟨b, o, none⟩) h, fun b o h => hb.frozen (p := ⟨b, o, none⟩) h⟩
/-- What a font's box holds. -/
def BoxAt (w : World) (b : Nat) (fa fd fn fu fb : Int) : Prop :=
  b < w.heap.size ∧ w.cell? ⟨b, 0, none⟩ = some (.int .i64 fa) ∧ w.cell? ⟨b, 1, none⟩ = some (.int .i64 fd) ∧ w.cell? ⟨b, 2, none⟩ = some (.int .i64 fn) ∧ w.cell? ⟨b, 3, none⟩ = some (.int .i64 fu) ∧ w.cell? ⟨b, 4, none⟩ = some (.int .i64 fb)
theorem BoxAt.below {w w' : World} {b : Nat} {fa fd fn fu fb : Int} (h : BoxAt w b fa fd fn fu fb) (hb : Below w.heap.size w w') : BoxAt w' b fa fd fn fu fb := by
  obtain ⟨h0, h1, h2, h3, h4, h5⟩ := h
  exact ⟨Nat.lt_of_lt_of_le h0 hb.size, (hb.cell h0).trans h1, (hb.cell h0).trans h2, (hb.cell h0).trans h3, (hb.cell h0).trans h4, (hb.cell h0).trans h5⟩
theorem below_undrewN {B : Nat} {w w1 : World} {n : Nat} (h : Below B (w.drewN n) w1) : Below B w w1 := ⟨h.os, h.tape, h.output, h.size, h.block⟩
theorem below_undrewA {B : Nat} {w w1 : World} (h : Below B w.drew w1) : Below B w w1 := ⟨h.os, h.tape, h.output, h.size, h.block⟩
theorem wrapIA (x : Int) (h0 : -9223372036854775808 ≤ x) (h1 : x ≤ 9223372036854775807) : IntKind.i64.wrap x = x := by
  rw [IntKind.wrap_i64]; omega

/-- What AdvanceOf answers. -/
def advB (fa fd fn fu fb : Int) (s : ByteArray) : Bool := fontB fa fd fn fu fb && (decide (s.size ≤ 400) && plainB s)
def advN (fa fd fn fu fb : Int) (s : ByteArray) : Int := if advB fa fd fn fu fb s then advK fn fu fb s s.size else 0
theorem adv_no {fa fd fn fu fb : Int} {s : ByteArray} (h : advB fa fd fn fu fb s = false) : Value.tuple #[.int .i64 0, .bool false] = .tuple #[.int .i64 (advN fa fd fn fu fb s), .bool (advB fa fd fn fu fb s)] := by simp [advN, h]
theorem adv_yes {fa fd fn fu fb : Int} {s : ByteArray} (h : advB fa fd fn fu fb s = true) : Value.tuple #[.int .i64 (advK fn fu fb s s.size), .bool true] = .tuple #[.int .i64 (advN fa fd fn fu fb s), .bool (advB fa fd fn fu fb s)] := by simp [advN, h]

end Go.Proofs.YtddnphgpdnedbaaDoor
