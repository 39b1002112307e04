/-
  Contracts of the cursor by which the laws draw their inputs: each method answers, within the bounds that are said, writes into nothing but its own cursor, and leaves it good; for cursors over byte slices that are apart from them.
-/
import Derived.Test.YtijondjiehoafaaDoorRows
import Derived.WalkKit
import Derived.ProofKit
import Derived.OpenShut
import Derived.WalkSpells
import Derived.WalkLawsBesides
import Derived.Deep.QuietTactic
import Derived.BigQuiet
import Derived.WalkSmall
import Derived.Laws.BitsAllLaws
namespace Go.Proofs.YtijondjiehoafaaDoor
open Go.ChangeShapes Go.WideShapes Go.ChangeAt Go.RowKit
set_option linter.unusedVariables false

/-- A byte slice that can be read and does not lie in block b. -/
def BytesOk (w : World) (b : Nat) (a : Option Addr) (len : Nat) : Prop :=
  len = 0 ∨ ∃ cb off, a = some ⟨cb, off, none⟩ ∧ cb ≠ b ∧ ∀ i, i < len → ∃ z : Int, 0 ≤ z ∧ z ≤ 255 ∧ w.cell? ⟨cb, off + i, none⟩ = some (.int .u8 z)
/-- A cursor in block b over that slice, which has gone at most m steps. -/
def CurAt (w : World) (b : Nat) (a : Option Addr) (len cap m : Nat) : Prop :=
  ∃ (k : Nat) (seed : Int), k ≤ m ∧ 0 ≤ seed ∧ seed ≤ 18446744073709551615 ∧ w.cell? ⟨b, 0, none⟩ = some (.slice a len cap) ∧ w.cell? ⟨b, 1, none⟩ = some (.int .i64 k) ∧ w.cell? ⟨b, 2, none⟩ = some (.int .u64 seed) ∧
    w.frozen? ⟨b, 0, none⟩ = false ∧ w.frozen? ⟨b, 1, none⟩ = false ∧ w.frozen? ⟨b, 2, none⟩ = false
def CurOk (w : World) (b : Nat) (a : Option Addr) (len cap m : Nat) : Prop := len ≤ 1048576 ∧ CurAt w b a len cap m ∧ BytesOk w b a len

theorem cell_lt' {w : World} {b o : Nat} {v : Value} (h : w.cell? ⟨b, o, none⟩ = some v) : b < w.heap.size := World.block_lt_of_cell? _ ⟨b, o, none⟩ h
theorem CurOk.lt {w : World} {b : Nat} {a : Option Addr} {len cap m : Nat} (h : CurOk w b a len cap m) : b < w.heap.size := by
  obtain ⟨_, ⟨k, seed, _, _, _, h0, _⟩, _⟩ := h
  exact cell_lt' h0
theorem BytesOk.grown {w w' : World} {b : Nat} {a : Option Addr} {len : Nat} (h : BytesOk w b a len) (hg : w.grownBy w' (some b)) : BytesOk w' b a len := by
  rcases h with h | ⟨cb, off, ha, hne, hc⟩
  · exact .inl h
  · refine .inr ⟨cb, off, ha, hne, fun i hi => ?_⟩
    obtain ⟨z, h0, h1, hz⟩ := hc i hi
    have hb : w'.heap[cb]? = w.heap[cb]? := hg.block cb (cell_lt' hz) (by simpa using hne)
    exact ⟨z, h0, h1, (World.cell?_of_block (a := ⟨cb, off + i, none⟩) hb).trans hz⟩
theorem grown_trans {w w1 w2 : World} {b : Nat} (h : w.grownBy w1 (some b)) (k : w1.grownBy w2 (some b)) : w.grownBy w2 (some b) :=
  ⟨k.os.trans h.os, k.tape.trans h.tape, k.output.trans h.output, Nat.le_trans h.size k.size, fun i hi hne => (k.block i (Nat.lt_of_lt_of_le hi h.size) hne).trans (h.block i hi hne)⟩
theorem grown_set (w : World) (b o : Nat) (v : Value) : w.grownBy (w.setCell ⟨b, o, none⟩ v) (some b) :=
  ⟨rfl, rfl, rfl, by simp, fun k _ hne => Below.heap_setCell w ⟨b, o, none⟩ v k (by simpa using hne)⟩
theorem grown_drewN (w : World) (n b : Nat) : w.grownBy (w.drewN n) (some b) := ⟨rfl, rfl, rfl, Nat.le_refl _, fun _ _ _ => rfl⟩

theorem u64_lo (x : Int) : 0 ≤ IntKind.u64.wrap x := wrap_u64_nonneg x
theorem u64_hi (x : Int) : IntKind.u64.wrap x ≤ 18446744073709551615 := by
  simp [IntKind.wrap, IntKind.bits, IntKind.signed]; omega

theorem w64_small (n : Int) (h0 : 0 ≤ n) (h1 : n < 9223372036854775808) : wrap64 n = n := by unfold wrap64; omega
theorem byte_of (x : Int) (h0 : 0 ≤ x) (h1 : x < 18446744073709551616) : 0 ≤ wrap64 (bits .and .u64 x 255) ∧ wrap64 (bits .and .u64 x 255) ≤ 255 := by
  rw [u64_and x 255 h0 h1 (by omega) (by omega)]
  have h : x.toNat &&& (255 : Int).toNat ≤ 255 := Nat.and_le_right
  generalize x.toNat &&& (255 : Int).toNat = y at h
  rw [w64_small _ (by omega) (by omega)]
  omega

set_option maxHeartbeats 2000000 in
theorem next_in (b cb off len cap k : Nat) (seed z : Int) (w : World) (hl : len ≤ 1048576) (hk : k < len) (h0 : w.cell? ⟨b, 0, none⟩ = some (.slice (some ⟨cb, off, none⟩) len cap)) (h1 : w.cell? ⟨b, 1, none⟩ = some (.int .i64 k)) (h2 : w.cell? ⟨b, 2, none⟩ = some (.int .u64 seed))
    (f1 : w.frozen? ⟨b, 1, none⟩ = false) (f2 : w.frozen? ⟨b, 2, none⟩ = false) (hz : w.cell? ⟨cb, off + k, none⟩ = some (.int .u8 z)) (z0 : 0 ≤ z) (z1 : z ≤ 255) (hne : cb ≠ b) :
    Calls Tryd.prog 81 #[.pointer (some ⟨b, 0, none⟩)] w fun e w' => ∃ (s' : Int) (q n : Nat), e = .returned (.int .i64 z) ∧ 0 ≤ s' ∧ s' ≤ 18446744073709551615 ∧ w' = (((w.drewN q).setCell ⟨b, 1, none⟩ (.int .i64 ((k : Int) + 1))).setCell ⟨b, 2, none⟩ (.int .u64 s')).drewN n := by
  have hk' : (k : Int) < (len : Int) := by omega
  have hk2 : (k : Int) + 1 ≤ (len : Int) := by omega
  go_enter Tryd.func81, Tryd.ntmps81
  go_wp2
  go_quiet (fail)
  go_wp2
  go_quiet (fail)
  go_wp2
  go_quiet (fail)
  go_wp2
  go_ret
  exact ⟨_, _, _, rfl, u64_lo _, u64_hi _, rfl⟩

set_option maxHeartbeats 2000000 in
theorem next_out (b len cap k : Nat) (a : Option Addr) (seed : Int) (w : World) (hl : len ≤ 1048576) (hk : ¬ k < len) (hk9 : k ≤ 1000000000000000) (h0 : w.cell? ⟨b, 0, none⟩ = some (.slice a len cap)) (h1 : w.cell? ⟨b, 1, none⟩ = some (.int .i64 k)) (h2 : w.cell? ⟨b, 2, none⟩ = some (.int .u64 seed))
    (f1 : w.frozen? ⟨b, 1, none⟩ = false) (f2 : w.frozen? ⟨b, 2, none⟩ = false) :
    Calls Tryd.prog 81 #[.pointer (some ⟨b, 0, none⟩)] w fun e w' => ∃ (s' v : Int) (q n : Nat), e = .returned (.int .i64 v) ∧ 0 ≤ v ∧ v ≤ 255 ∧ 0 ≤ s' ∧ s' ≤ 18446744073709551615 ∧ w' = (((w.drewN q).setCell ⟨b, 1, none⟩ (.int .i64 ((k : Int) + 1))).setCell ⟨b, 2, none⟩ (.int .u64 s')).drewN n := by
  have hk' : (len : Int) ≤ (k : Int) := by omega
  have hk2 : (len : Int) < (k : Int) + 1 := by omega
  go_enter Tryd.func81, Tryd.ntmps81
  go_wp2
  go_quiet (fail)
  go_wp2
  go_quiet (fail)
  go_wp2
  go_ret
  exact ⟨_, _, _, _, rfl, (byte_of _ (by have := u64_lo (IntKind.u64.wrap (IntKind.u64.wrap (seed * 6364136223846793005)) + 1442695040888963407); omega) (by have := u64_hi (IntKind.u64.wrap (IntKind.u64.wrap (seed * 6364136223846793005)) + 1442695040888963407); omega)).1, (byte_of _ (by have := u64_lo (IntKind.u64.wrap (IntKind.u64.wrap (seed * 6364136223846793005)) + 1442695040888963407); omega) (by have := u64_hi (IntKind.u64.wrap (IntKind.u64.wrap (seed * 6364136223846793005)) + 1442695040888963407); omega)).2, u64_lo _, u64_hi _, rfl⟩

/-- What a step leaves. -/
theorem step_after (b len cap k m q n : Nat) (a : Option Addr) (seed s' : Int) (w : World) (hl : len ≤ 1048576) (hk : k ≤ m) (h0 : w.cell? ⟨b, 0, none⟩ = some (.slice a len cap)) (h1 : w.cell? ⟨b, 1, none⟩ = some (.int .i64 k)) (h2 : w.cell? ⟨b, 2, none⟩ = some (.int .u64 seed))
    (f0 : w.frozen? ⟨b, 0, none⟩ = false) (f1 : w.frozen? ⟨b, 1, none⟩ = false) (f2 : w.frozen? ⟨b, 2, none⟩ = false) (hB : BytesOk w b a len) (s0 : 0 ≤ s') (s1 : s' ≤ 18446744073709551615) :
    CurOk ((((w.drewN q).setCell ⟨b, 1, none⟩ (.int .i64 ((k : Int) + 1))).setCell ⟨b, 2, none⟩ (.int .u64 s')).drewN n) b a len cap (m + 1) ∧ w.grownBy ((((w.drewN q).setCell ⟨b, 1, none⟩ (.int .i64 ((k : Int) + 1))).setCell ⟨b, 2, none⟩ (.int .u64 s')).drewN n) (some b) := by
  have hg : w.grownBy ((((w.drewN q).setCell ⟨b, 1, none⟩ (.int .i64 ((k : Int) + 1))).setCell ⟨b, 2, none⟩ (.int .u64 s')).drewN n) (some b) :=
    grown_trans (grown_trans (grown_trans (grown_drewN w q b) (grown_set _ b 1 _)) (grown_set _ b 2 _)) (grown_drewN _ n b)
  have c0 : (((w.drewN q).setCell ⟨b, 1, none⟩ (.int .i64 ((k : Int) + 1))).setCell ⟨b, 2, none⟩ (.int .u64 s')).cell? ⟨b, 0, none⟩ = some (.slice a len cap) :=
    (World.cell?_setCell_other _ _ _ _ (by simp)).trans ((World.cell?_setCell_other _ _ _ _ (by simp)).trans h0)
  have c1 : (((w.drewN q).setCell ⟨b, 1, none⟩ (.int .i64 ((k : Int) + 1))).setCell ⟨b, 2, none⟩ (.int .u64 s')).cell? ⟨b, 1, none⟩ = some (.int .i64 ((k : Int) + 1)) :=
    (World.cell?_setCell_other _ _ _ _ (by simp)).trans (World.cell?_setCell_same _ _ _ (u := .int .i64 k) h1)
  have c2 : (((w.drewN q).setCell ⟨b, 1, none⟩ (.int .i64 ((k : Int) + 1))).setCell ⟨b, 2, none⟩ (.int .u64 s')).cell? ⟨b, 2, none⟩ = some (.int .u64 s') :=
    World.cell?_setCell_same _ _ _ (u := .int .u64 seed) ((World.cell?_setCell_other _ _ _ _ (by simp)).trans h2)
  have fz : ∀ j, (((w.drewN q).setCell ⟨b, 1, none⟩ (.int .i64 ((k : Int) + 1))).setCell ⟨b, 2, none⟩ (.int .u64 s')).frozen? ⟨b, j, none⟩ = w.frozen? ⟨b, j, none⟩ := by
    intro j
    rw [World.frozen?_setCell, World.frozen?_setCell]
    rfl
  exact ⟨⟨hl, ⟨k + 1, s', by omega, s0, s1, c0, c1.trans (by simp), c2, (fz 0).trans f0, (fz 1).trans f1, (fz 2).trans f2⟩, hB.grown hg⟩, hg⟩

/-- One step of the cursor. -/
theorem next_any (b len cap m : Nat) (a : Option Addr) (w : World) (hm : m ≤ 1000000000000000) (hC : CurOk w b a len cap m) :
    Calls Tryd.prog 81 #[.pointer (some ⟨b, 0, none⟩)] w fun e w' => ∃ v : Int, e = .returned (.int .i64 v) ∧ 0 ≤ v ∧ v ≤ 255 ∧ CurOk w' b a len cap (m + 1) ∧ w.grownBy w' (some b) := by
  obtain ⟨hl, ⟨k, seed, hk, s0, s1, h0, h1, h2, f0, f1, f2⟩, hB⟩ := hC
  by_cases hlt : k < len
  · have hB' := hB
    rcases hB with hB | ⟨cb, off, rfl, hne, hc⟩
    · omega
    · obtain ⟨z, z0, z1, hz⟩ := hc k hlt
      refine (next_in b cb off len cap k seed z w hl hlt h0 h1 h2 f1 f2 hz z0 z1 hne).mono ?_
      rintro e w' ⟨s', q, n, rfl, t0, t1, rfl⟩
      have R := step_after b len cap k m q n _ seed s' w hl hk h0 h1 h2 f0 f1 f2 hB' t0 t1
      exact ⟨z, rfl, z0, z1, R.1, R.2⟩
  · refine (next_out b len cap k a seed w hl hlt (by omega) h0 h1 h2 f1 f2).mono ?_
    rintro e w' ⟨s', v, q, n, rfl, v0, v1, t0, t1, rfl⟩
    have R := step_after b len cap k m q n _ seed s' w hl hk h0 h1 h2 f0 f1 f2 hB t0 t1
    exact ⟨v, rfl, v0, v1, R.1, R.2⟩
end Go.Proofs.YtijondjiehoafaaDoor
