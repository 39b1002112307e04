/-
  Contracts of the drawn font and of a drawn text: the cursor's font, of and plain answer some font and some short text, turn nothing but their cursor, and leave it good.
-/
import Derived.Test.YtijondjiehoafaaDoorDraw1
namespace Go.Proofs.YtijondjiehoafaaDoor
open Go.ChangeShapes Go.WideShapes Go.ChangeAt Go.RowKit
set_option linter.unusedVariables false

theorem gcell {w w' : World} {b k : Nat} (hg : w.grownBy w' (some b)) (hk : k < w.heap.size) (hne : k ≠ b) : (∀ o, w'.cell? ⟨k, o, none⟩ = w.cell? ⟨k, o, none⟩) ∧ ∀ o, w'.frozen? ⟨k, o, none⟩ = w.frozen? ⟨k, o, none⟩ := by
  have hb := hg.block k hk (by simpa using hne)
  exact ⟨fun o => World.cell?_of_block (a := ⟨k, o, none⟩) hb, fun o => World.frozen?_of_block (a := ⟨k, o, none⟩) hb⟩
theorem grown_new {w w' : World} {b : Nat} {p : Addr} (hg : w.grownBy w' (some b)) (hp : w.heap.size ≤ p.block) (v : Value) : w.grownBy (w'.setCell p v) (some b) :=
  ⟨hg.os, hg.tape, hg.output, Nat.le_trans hg.size (by simp), fun k hk hne => (Below.heap_setCell w' p v k (by omega)).trans (hg.block k hk hne)⟩
theorem grown_alloc {w w' : World} {b : Nat} (hg : w.grownBy w' (some b)) (o : Obj) : w.grownBy (w'.alloc o) (some b) :=
  grown_trans hg (grown_of_below b ((Below.refl w'.heap.size w').alloc (Nat.le_refl _) o))
/-- A cursor that is good stays so where the blocks that were there at the beginning have not turned. -/
theorem CurOk.same {w0 w1 w2 : World} {b : Nat} {a : Option Addr} {len cap m m0 : Nat} (h0 : CurOk w0 b a len cap m0) (h1 : CurOk w1 b a len cap m) (hbl : ∀ k, k < w0.heap.size → w2.heap[k]? = w1.heap[k]?) : CurOk w2 b a len cap m := by
  have hlt := h0.lt
  obtain ⟨_, _, hB0⟩ := h0
  obtain ⟨hl, ⟨k, seed, hk, s0, s1, c0, c1, c2, f0, f1, f2⟩, hB⟩ := h1
  have hb := hbl b hlt
  refine ⟨hl, ⟨k, seed, hk, s0, s1, (World.cell?_of_block (a := ⟨b, 0, none⟩) hb).trans c0, (World.cell?_of_block (a := ⟨b, 1, none⟩) hb).trans c1, (World.cell?_of_block (a := ⟨b, 2, none⟩) hb).trans c2, (World.frozen?_of_block (a := ⟨b, 0, none⟩) hb).trans f0, (World.frozen?_of_block (a := ⟨b, 1, none⟩) hb).trans f1, (World.frozen?_of_block (a := ⟨b, 2, none⟩) hb).trans f2⟩, ?_⟩
  rcases hB with hB | ⟨cb, off, ha, hnb, hc⟩
  · exact .inl hB
  · by_cases hp : len = 0
    · exact .inl hp
    · rcases hB0 with hB0 | ⟨cb0, off0, ha0, _, hc0⟩
      · exact absurd hB0 hp
      · rw [ha] at ha0
        cases ha0
        have hcb : cb < w0.heap.size := by obtain ⟨z, _, _, hz⟩ := hc0 0 (by omega); exact cell_lt' hz
        exact .inr ⟨cb, off, ha, hnb, fun i hi => by
          obtain ⟨z, z0, z1, hz⟩ := hc i hi
          exact ⟨z, z0, z1, (World.cell?_of_block (a := ⟨cb, off + i, none⟩) (hbl cb hcb)).trans hz⟩⟩

/-- A font lies in block k, and may be written. -/
def FontAt (w : World) (k : Nat) (fa fd fn fu fb : Int) : Prop :=
  k < w.heap.size ∧ w.cell? ⟨k, 0, none⟩ = some (.int .i64 fa) ∧ w.cell? ⟨k, 1, none⟩ = some (.int .i64 fd) ∧ w.cell? ⟨k, 2, none⟩ = some (.int .i64 fn) ∧ w.cell? ⟨k, 3, none⟩ = some (.int .i64 fu) ∧ w.cell? ⟨k, 4, none⟩ = some (.int .i64 fb) ∧
    w.frozen? ⟨k, 0, none⟩ = false ∧ w.frozen? ⟨k, 1, none⟩ = false ∧ w.frozen? ⟨k, 2, none⟩ = false ∧ w.frozen? ⟨k, 3, none⟩ = false ∧ w.frozen? ⟨k, 4, none⟩ = false
theorem FontAt.same {w w' : World} {k : Nat} {fa fd fn fu fb : Int} (h : FontAt w k fa fd fn fu fb) (hb : w'.heap[k]? = w.heap[k]?) (hs : w.heap.size ≤ w'.heap.size) : FontAt w' k fa fd fn fu fb := by
  obtain ⟨h0, c0, c1, c2, c3, c4, f0, f1, f2, f3, f4⟩ := h
  exact ⟨Nat.lt_of_lt_of_le h0 hs, (World.cell?_of_block (a := ⟨k, 0, none⟩) hb).trans c0, (World.cell?_of_block (a := ⟨k, 1, none⟩) hb).trans c1, (World.cell?_of_block (a := ⟨k, 2, none⟩) hb).trans c2, (World.cell?_of_block (a := ⟨k, 3, none⟩) hb).trans c3, (World.cell?_of_block (a := ⟨k, 4, none⟩) hb).trans c4,
    (World.frozen?_of_block (a := ⟨k, 0, none⟩) hb).trans f0, (World.frozen?_of_block (a := ⟨k, 1, none⟩) hb).trans f1, (World.frozen?_of_block (a := ⟨k, 2, none⟩) hb).trans f2, (World.frozen?_of_block (a := ⟨k, 3, none⟩) hb).trans f3, (World.frozen?_of_block (a := ⟨k, 4, none⟩) hb).trans f4⟩
theorem FontAt.grown {w w' : World} {b k : Nat} {fa fd fn fu fb : Int} (h : FontAt w k fa fd fn fu fb) (hg : w.grownBy w' (some b)) (hne : k ≠ b) : FontAt w' k fa fd fn fu fb :=
  h.same (hg.block k h.1 (by simpa using hne)) hg.size
theorem FontAt.below {w w' : World} {k : Nat} {fa fd fn fu fb : Int} (h : FontAt w k fa fd fn fu fb) (hb : Below w.heap.size w w') : FontAt w' k fa fd fn fu fb :=
  h.same (hb.block k h.1) hb.size

end Go.Proofs.YtijondjiehoafaaDoor
