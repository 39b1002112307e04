/-
  Contracts of the cursor by which the laws draw their inputs: each method answers, within the bounds that are said, writes into nothing but its own cursor, and leaves it good; for cursors over byte slices that are apart from them.
  Contracts of the cursor's choices: pick, one and among, over its step.
  Contracts of the cursor's numbers: wide, sized and length answer some int.
  Contracts of the drawn lengths: DrawGoodLength, DrawPixelsText and DrawPercentOf answer some ints and leave all older memory alone, for every byte slice of at most 1048576 bytes.
  Contracts of the drawn font and of a drawn text: the cursor's font, of and plain answer some font and some short text, turn nothing but their cursor, and leave it good.
  What FixStyle makes of a style; the model's l4Fix, for every style.
  The program's fixedStyle, for every style.
  FixStyle, of the program and of its model, for every style.
  A drawn size and a drawn style: some size, some style; they turn nothing but their cursor, and leave it good.
  Styles compared with themselves; what is fixed stays fixed; the drawn style.
-/
import Derived.Test.YtojdmcennpgndaaGreatDoorRows
import Derived.WalkKit
import Derived.ProofKit
import Derived.OpenShut
import Derived.WalkSpells
import Derived.WalkLawsBesides
import Derived.Deep.QuietTactic
import Derived.BigQuiet
import Derived.WalkSmall
import Derived.Laws.BitsAllLaws
import Derived.Test.YtojdmcennpgndaaGreatDoorStyB
import Derived.Test.YtojdmcennpgndaaGreatDoorStyR
import Derived.Test.YtojdmcennpgndaaGreatDoorStyG
import Derived.Laws.StructEq
import Derived.Deep.MidRow
namespace Go.Proofs.YtojdmcennpgndaaGreatDoor
open Go.ChangeShapes Go.WideShapes Go.ChangeAt Go.RowKit
set_option linter.unusedVariables false

/-- A byte slice that can be read and does not lie in block b. -/
def BytesOk (w : World) (b : Nat) (a : Option Addr) (len : Nat) : Prop :=
  len = 0 ∨ ∃ cb off, a = some ⟨cb, off, none⟩ ∧ cb ≠ b ∧ ∀ i, i < len → ∃ z : Int, 0 ≤ z ∧ z ≤ 255 ∧ w.cell? ⟨cb, off + i, none⟩ = some (.int .u8 z)
/-- A cursor in block b over that slice, which has gone at most m steps. -/
def CurAt (w : World) (b : Nat) (a : Option Addr) (len cap m : Nat) : Prop :=
  ∃ (k : Nat) (seed : Int), k ≤ m ∧ 0 ≤ seed ∧ seed ≤ 18446744073709551615 ∧ w.cell? ⟨b, 0, none⟩ = some (.slice a len cap) ∧ w.cell? ⟨b, 1, none⟩ = some (.int .i64 k) ∧ w.cell? ⟨b, 2, none⟩ = some (.int .u64 seed) ∧
    w.frozen? ⟨b, 0, none⟩ = false ∧ w.frozen? ⟨b, 1, none⟩ = false ∧ w.frozen? ⟨b, 2, none⟩ = false
def CurOk (w : World) (b : Nat) (a : Option Addr) (len cap m : Nat) : Prop := len ≤ 1048576 ∧ CurAt w b a len cap m ∧ BytesOk w b a len

theorem cell_lt' {w : World} {b o : Nat} {v : Value} (h : w.cell? ⟨b, o, none⟩ = some v) : b < w.heap.size := World.block_lt_of_cell? _ ⟨b, o, none⟩ h
theorem CurOk.lt {w : World} {b : Nat} {a : Option Addr} {len cap m : Nat} (h : CurOk w b a len cap m) : b < w.heap.size := by
  obtain ⟨_, ⟨k, seed, _, _, _, h0, _⟩, _⟩ := h
  exact cell_lt' h0
theorem BytesOk.grown {w w' : World} {b : Nat} {a : Option Addr} {len : Nat} (h : BytesOk w b a len) (hg : w.grownBy w' (some b)) : BytesOk w' b a len := by
  rcases h with h | ⟨cb, off, ha, hne, hc⟩
  · exact .inl h
  · refine .inr ⟨cb, off, ha, hne, fun i hi => ?_⟩
    obtain ⟨z, h0, h1, hz⟩ := hc i hi
    have hb : w'.heap[cb]? = w.heap[cb]? := hg.block cb (cell_lt' hz) (by simpa using hne)
    exact ⟨z, h0, h1, (World.cell?_of_block (a := ⟨cb, off + i, none⟩) hb).trans hz⟩
theorem grown_trans {w w1 w2 : World} {b : Nat} (h : w.grownBy w1 (some b)) (k : w1.grownBy w2 (some b)) : w.grownBy w2 (some b) :=
  ⟨k.os.trans h.os, k.tape.trans h.tape, k.output.trans h.output, Nat.le_trans h.size k.size, fun i hi hne => (k.block i (Nat.lt_of_lt_of_le hi h.size) hne).trans (h.block i hi hne)⟩
theorem grown_set (w : World) (b o : Nat) (v : Value) : w.grownBy (w.setCell ⟨b, o, none⟩ v) (some b) :=
  ⟨rfl, rfl, rfl, by simp, fun k _ hne => Below.heap_setCell w ⟨b, o, none⟩ v k (by simpa using hne)⟩
theorem grown_drewN (w : World) (n b : Nat) : w.grownBy (w.drewN n) (some b) := ⟨rfl, rfl, rfl, Nat.le_refl _, fun _ _ _ => rfl⟩

theorem u64_lo (x : Int) : 0 ≤ IntKind.u64.wrap x := wrap_u64_nonneg x
theorem u64_hi (x : Int) : IntKind.u64.wrap x ≤ 18446744073709551615 := by
  simp [IntKind.wrap, IntKind.bits, IntKind.signed]; omega

theorem w64_small (n : Int) (h0 : 0 ≤ n) (h1 : n < 9223372036854775808) : wrap64 n = n := by unfold wrap64; omega
theorem byte_of (x : Int) (h0 : 0 ≤ x) (h1 : x < 18446744073709551616) : 0 ≤ wrap64 (bits .and .u64 x 255) ∧ wrap64 (bits .and .u64 x 255) ≤ 255 := by
  rw [u64_and x 255 h0 h1 (by omega) (by omega)]
  have h : x.toNat &&& (255 : Int).toNat ≤ 255 := Nat.and_le_right
  generalize x.toNat &&& (255 : Int).toNat = y at h
  rw [w64_small _ (by omega) (by omega)]
  omega

set_option maxHeartbeats 2000000 in
theorem next_in (b cb off len cap k : Nat) (seed z : Int) (w : World) (hl : len ≤ 1048576) (hk : k < len) (h0 : w.cell? ⟨b, 0, none⟩ = some (.slice (some ⟨cb, off, none⟩) len cap)) (h1 : w.cell? ⟨b, 1, none⟩ = some (.int .i64 k)) (h2 : w.cell? ⟨b, 2, none⟩ = some (.int .u64 seed))
    (f1 : w.frozen? ⟨b, 1, none⟩ = false) (f2 : w.frozen? ⟨b, 2, none⟩ = false) (hz : w.cell? ⟨cb, off + k, none⟩ = some (.int .u8 z)) (z0 : 0 ≤ z) (z1 : z ≤ 255) (hne : cb ≠ b) :
    Calls Tryz.prog 53 #[.pointer (some ⟨b, 0, none⟩)] w fun e w' => ∃ (s' : Int) (q n : Nat), e = .returned (.int .i64 z) ∧ 0 ≤ s' ∧ s' ≤ 18446744073709551615 ∧ w' = (((w.drewN q).setCell ⟨b, 1, none⟩ (.int .i64 ((k : Int) + 1))).setCell ⟨b, 2, none⟩ (.int .u64 s')).drewN n := by
  have hk' : (k : Int) < (len : Int) := by omega
  have hk2 : (k : Int) + 1 ≤ (len : Int) := by omega
  go_enter Tryz.func53, Tryz.ntmps53
  go_wp2
  go_quiet (fail)
  go_wp2
  go_quiet (fail)
  go_wp2
  go_quiet (fail)
  go_wp2
  go_ret
  exact ⟨_, _, _, rfl, u64_lo _, u64_hi _, rfl⟩

set_option maxHeartbeats 2000000 in
theorem next_out (b len cap k : Nat) (a : Option Addr) (seed : Int) (w : World) (hl : len ≤ 1048576) (hk : ¬ k < len) (hk9 : k ≤ 1000000000000000) (h0 : w.cell? ⟨b, 0, none⟩ = some (.slice a len cap)) (h1 : w.cell? ⟨b, 1, none⟩ = some (.int .i64 k)) (h2 : w.cell? ⟨b, 2, none⟩ = some (.int .u64 seed))
    (f1 : w.frozen? ⟨b, 1, none⟩ = false) (f2 : w.frozen? ⟨b, 2, none⟩ = false) :
    Calls Tryz.prog 53 #[.pointer (some ⟨b, 0, none⟩)] w fun e w' => ∃ (s' v : Int) (q n : Nat), e = .returned (.int .i64 v) ∧ 0 ≤ v ∧ v ≤ 255 ∧ 0 ≤ s' ∧ s' ≤ 18446744073709551615 ∧ w' = (((w.drewN q).setCell ⟨b, 1, none⟩ (.int .i64 ((k : Int) + 1))).setCell ⟨b, 2, none⟩ (.int .u64 s')).drewN n := by
  have hk' : (len : Int) ≤ (k : Int) := by omega
  have hk2 : (len : Int) < (k : Int) + 1 := by omega
  go_enter Tryz.func53, Tryz.ntmps53
  go_wp2
  go_quiet (fail)
  go_wp2
  go_quiet (fail)
  go_wp2
  go_ret
  exact ⟨_, _, _, _, rfl, (byte_of _ (by have := u64_lo (IntKind.u64.wrap (IntKind.u64.wrap (seed * 6364136223846793005)) + 1442695040888963407); omega) (by have := u64_hi (IntKind.u64.wrap (IntKind.u64.wrap (seed * 6364136223846793005)) + 1442695040888963407); omega)).1, (byte_of _ (by have := u64_lo (IntKind.u64.wrap (IntKind.u64.wrap (seed * 6364136223846793005)) + 1442695040888963407); omega) (by have := u64_hi (IntKind.u64.wrap (IntKind.u64.wrap (seed * 6364136223846793005)) + 1442695040888963407); omega)).2, u64_lo _, u64_hi _, rfl⟩

/-- What a step leaves. -/
theorem step_after (b len cap k m q n : Nat) (a : Option Addr) (seed s' : Int) (w : World) (hl : len ≤ 1048576) (hk : k ≤ m) (h0 : w.cell? ⟨b, 0, none⟩ = some (.slice a len cap)) (h1 : w.cell? ⟨b, 1, none⟩ = some (.int .i64 k)) (h2 : w.cell? ⟨b, 2, none⟩ = some (.int .u64 seed))
    (f0 : w.frozen? ⟨b, 0, none⟩ = false) (f1 : w.frozen? ⟨b, 1, none⟩ = false) (f2 : w.frozen? ⟨b, 2, none⟩ = false) (hB : BytesOk w b a len) (s0 : 0 ≤ s') (s1 : s' ≤ 18446744073709551615) :
    CurOk ((((w.drewN q).setCell ⟨b, 1, none⟩ (.int .i64 ((k : Int) + 1))).setCell ⟨b, 2, none⟩ (.int .u64 s')).drewN n) b a len cap (m + 1) ∧ w.grownBy ((((w.drewN q).setCell ⟨b, 1, none⟩ (.int .i64 ((k : Int) + 1))).setCell ⟨b, 2, none⟩ (.int .u64 s')).drewN n) (some b) := by
  have hg : w.grownBy ((((w.drewN q).setCell ⟨b, 1, none⟩ (.int .i64 ((k : Int) + 1))).setCell ⟨b, 2, none⟩ (.int .u64 s')).drewN n) (some b) :=
    grown_trans (grown_trans (grown_trans (grown_drewN w q b) (grown_set _ b 1 _)) (grown_set _ b 2 _)) (grown_drewN _ n b)
  have c0 : (((w.drewN q).setCell ⟨b, 1, none⟩ (.int .i64 ((k : Int) + 1))).setCell ⟨b, 2, none⟩ (.int .u64 s')).cell? ⟨b, 0, none⟩ = some (.slice a len cap) :=
    (World.cell?_setCell_other _ _ _ _ (by simp)).trans ((World.cell?_setCell_other _ _ _ _ (by simp)).trans h0)
  have c1 : (((w.drewN q).setCell ⟨b, 1, none⟩ (.int .i64 ((k : Int) + 1))).setCell ⟨b, 2, none⟩ (.int .u64 s')).cell? ⟨b, 1, none⟩ = some (.int .i64 ((k : Int) + 1)) :=
    (World.cell?_setCell_other _ _ _ _ (by simp)).trans (World.cell?_setCell_same _ _ _ (u := .int .i64 k) h1)
  have c2 : (((w.drewN q).setCell ⟨b, 1, none⟩ (.int .i64 ((k : Int) + 1))).setCell ⟨b, 2, none⟩ (.int .u64 s')).cell? ⟨b, 2, none⟩ = some (.int .u64 s') :=
    World.cell?_setCell_same _ _ _ (u := .int .u64 seed) ((World.cell?_setCell_other _ _ _ _ (by simp)).trans h2)
  have fz : ∀ j, (((w.drewN q).setCell ⟨b, 1, none⟩ (.int .i64 ((k : Int) + 1))).setCell ⟨b, 2, none⟩ (.int .u64 s')).frozen? ⟨b, j, none⟩ = w.frozen? ⟨b, j, none⟩ := by
    intro j
    rw [World.frozen?_setCell, World.frozen?_setCell]
    rfl
  exact ⟨⟨hl, ⟨k + 1, s', by omega, s0, s1, c0, c1.trans (by simp), c2, (fz 0).trans f0, (fz 1).trans f1, (fz 2).trans f2⟩, hB.grown hg⟩, hg⟩

/-- One step of the cursor. -/
theorem next_any (b len cap m : Nat) (a : Option Addr) (w : World) (hm : m ≤ 1000000000000000) (hC : CurOk w b a len cap m) :
    Calls Tryz.prog 53 #[.pointer (some ⟨b, 0, none⟩)] w fun e w' => ∃ v : Int, e = .returned (.int .i64 v) ∧ 0 ≤ v ∧ v ≤ 255 ∧ CurOk w' b a len cap (m + 1) ∧ w.grownBy w' (some b) := by
  obtain ⟨hl, ⟨k, seed, hk, s0, s1, h0, h1, h2, f0, f1, f2⟩, hB⟩ := hC
  by_cases hlt : k < len
  · have hB' := hB
    rcases hB with hB | ⟨cb, off, rfl, hne, hc⟩
    · omega
    · obtain ⟨z, z0, z1, hz⟩ := hc k hlt
      refine (next_in b cb off len cap k seed z w hl hlt h0 h1 h2 f1 f2 hz z0 z1 hne).mono ?_
      rintro e w' ⟨s', q, n, rfl, t0, t1, rfl⟩
      have R := step_after b len cap k m q n _ seed s' w hl hk h0 h1 h2 f0 f1 f2 hB' t0 t1
      exact ⟨z, rfl, z0, z1, R.1, R.2⟩
  · refine (next_out b len cap k a seed w hl hlt (by omega) h0 h1 h2 f1 f2).mono ?_
    rintro e w' ⟨s', v, q, n, rfl, v0, v1, t0, t1, rfl⟩
    have R := step_after b len cap k m q n _ seed s' w hl hk h0 h1 h2 f0 f1 f2 hB t0 t1
    exact ⟨v, rfl, v0, v1, R.1, R.2⟩
end Go.Proofs.YtojdmcennpgndaaGreatDoor

namespace Go.Proofs.YtojdmcennpgndaaGreatDoor
open Go.ChangeShapes Go.WideShapes Go.ChangeAt Go.RowKit
set_option linter.unusedVariables false

theorem CurOk.more {w : World} {b : Nat} {a : Option Addr} {len cap m m' : Nat} (h : CurOk w b a len cap m) (hm : m ≤ m') : CurOk w b a len cap m' := by
  obtain ⟨hl, ⟨k, seed, hk, r⟩, hB⟩ := h
  exact ⟨hl, ⟨k, seed, by omega, r⟩, hB⟩

set_option maxHeartbeats 1000000 in
theorem pick_small (b len cap m : Nat) (a : Option Addr) (n : Int) (w : World) (hm : m ≤ 100000000000000) (hC : CurOk w b a len cap m) (n1 : 1 < n) (n2 : n ≤ 200) :
    Calls Tryz.prog 39 #[.pointer (some ⟨b, 0, none⟩), .int .i64 n] w fun e w' => ∃ v : Int, e = .returned (.int .i64 v) ∧ 0 ≤ v ∧ v < n ∧ CurOk w' b a len cap (m + 2) ∧ w.grownBy w' (some b) := by
  have NX := next_any b len cap m a w (by omega) hC
  have hn0 : (n == 0) = false := by simp; omega
  clear hC
  go_enter Tryz.func39, Tryz.ntmps39
  go_wp2_with (go_at_call 53; refine NX.mono ?_; rintro e w1 ⟨v, rfl, v0, v1, hC1, hg1⟩)
  go_ret
  exact ⟨_, rfl, Int.emod_nonneg _ (by omega), Int.emod_lt_of_pos _ (by omega), hC1.more (by omega), hg1⟩

set_option maxHeartbeats 1000000 in
theorem pick_big (b len cap m : Nat) (a : Option Addr) (n : Int) (w : World) (hm : m ≤ 100000000000000) (hC : CurOk w b a len cap m) (n1 : 200 < n) (n2 : n ≤ 1000000) :
    Calls Tryz.prog 39 #[.pointer (some ⟨b, 0, none⟩), .int .i64 n] w fun e w' => ∃ v : Int, e = .returned (.int .i64 v) ∧ 0 ≤ v ∧ v < n ∧ CurOk w' b a len cap (m + 2) ∧ w.grownBy w' (some b) := by
  have NX := next_any b len cap m a w (by omega) hC
  have hn0 : (n == 0) = false := by simp; omega
  clear hC
  go_enter Tryz.func39, Tryz.ntmps39
  go_wp2_with (go_at_call 53; have _t := NX; refine NX.mono ?_; rintro e w1 ⟨v, rfl, v0, v1, hC1, hg1⟩; have NY := next_any b len cap (m + 1) a w1 (by omega) hC1; clear NX hC1)
  go_wp2_with (go_at_call 53; refine NY.mono ?_; rintro e w2 ⟨u, rfl, u0, u1, hC2, hg2⟩)
  go_ret
  exact ⟨_, rfl, Int.emod_nonneg _ (by omega), Int.emod_lt_of_pos _ (by omega), hC2, grown_trans hg1 hg2⟩

set_option maxHeartbeats 1000000 in
theorem pick_one (b len cap m : Nat) (a : Option Addr) (n : Int) (w : World) (hC : CurOk w b a len cap m) (n1 : n ≤ 1) :
    Calls Tryz.prog 39 #[.pointer (some ⟨b, 0, none⟩), .int .i64 n] w fun e w' => e = .returned (.int .i64 0) ∧ w' = w := by
  clear hC
  go_enter Tryz.func39, Tryz.ntmps39
  go_wp2
  go_ret
  exact ⟨rfl, rfl⟩

/-- A choice among n. -/
theorem pick_any (b len cap m : Nat) (a : Option Addr) (n : Int) (w : World) (hm : m ≤ 100000000000000) (hC : CurOk w b a len cap m) (n1 : 1 ≤ n) (n2 : n ≤ 1000000) :
    Calls Tryz.prog 39 #[.pointer (some ⟨b, 0, none⟩), .int .i64 n] w fun e w' => ∃ v : Int, e = .returned (.int .i64 v) ∧ 0 ≤ v ∧ v < n ∧ CurOk w' b a len cap (m + 2) ∧ w.grownBy w' (some b) := by
  by_cases h1 : n ≤ 1
  · refine (pick_one b len cap m a n w hC h1).mono ?_
    rintro e w' ⟨rfl, rfl⟩
    exact ⟨0, rfl, by omega, by omega, hC.more (by omega), World.grownBy.refl _ _⟩
  · by_cases h2 : n ≤ 200
    · exact pick_small b len cap m a n w hm hC (by omega) h2
    · exact pick_big b len cap m a n w hm hC (by omega) n2

/-- Yes, once in n times. -/
theorem one_any (b len cap m : Nat) (a : Option Addr) (n : Int) (w : World) (hm : m ≤ 100000000000000) (hC : CurOk w b a len cap m) (n1 : 1 ≤ n) (n2 : n ≤ 1000000) :
    Calls Tryz.prog 54 #[.pointer (some ⟨b, 0, none⟩), .int .i64 n] w fun e w' => ∃ v : Bool, e = .returned (.bool v) ∧ CurOk w' b a len cap (m + 2) ∧ w.grownBy w' (some b) := by
  have P := pick_any b len cap m a n w hm hC n1 n2
  clear hC
  go_enter Tryz.func54, Tryz.ntmps54
  go_wp2_with (go_at_call 39; refine P.mono ?_; rintro e w1 ⟨v, rfl, v0, v1, hC1, hg1⟩)
  go_ret
  exact ⟨_, rfl, hC1, hg1⟩

set_option maxHeartbeats 1000000 in
/-- One of some numbers, in a row that is not the cursor's. -/
theorem among_any (b len cap m lb n lc : Nat) (a : Option Addr) (w : World) (hm : m ≤ 100000000000000) (hC : CurOk w b a len cap m) (n1 : 1 ≤ n) (n2 : n ≤ 1000000) (hne : lb ≠ b)
    (hc : ∀ i, i < n → ∃ z : Int, w.cell? ⟨lb, i, none⟩ = some (.int .i64 z)) :
    Calls Tryz.prog 41 #[.pointer (some ⟨b, 0, none⟩), .slice (some ⟨lb, 0, none⟩) n lc] w fun e w' => ∃ v : Int, e = .returned (.int .i64 v) ∧ CurOk w' b a len cap (m + 2) ∧ w.grownBy w' (some b) := by
  have P := pick_any b len cap m a n w hm hC (by omega) (by omega)
  clear hC
  have P' := P.mono (R' := fun e w' => ∃ j : Nat, e = .returned (.int .i64 (j : Int)) ∧ j < n ∧ (∃ z : Int, w'.cell? ⟨lb, j, none⟩ = some (.int .i64 z)) ∧ CurOk w' b a len cap (m + 2) ∧ w.grownBy w' (some b)) (fun e w' h => by
    obtain ⟨v, rfl, v0, v1, hC1, hg1⟩ := h
    obtain ⟨z, hz⟩ := hc v.toNat (by omega)
    have hb : w'.heap[lb]? = w.heap[lb]? := hg1.block lb (cell_lt' hz) (by simpa using hne)
    exact ⟨v.toNat, by rw [show ((v.toNat : Nat) : Int) = v by omega], by omega, ⟨z, (World.cell?_of_block (a := ⟨lb, v.toNat, none⟩) hb).trans hz⟩, hC1, hg1⟩)
  clear P hc
  go_enter Tryz.func41, Tryz.ntmps41
  go_wp2_with (go_at_call 39; refine P'.mono ?_; rintro e w1 ⟨j, rfl, j1, ⟨z, hz⟩, hC1, hg1⟩)
  go_ret
  exact ⟨_, rfl, hC1, hg1⟩
end Go.Proofs.YtojdmcennpgndaaGreatDoor

namespace Go.Proofs.YtojdmcennpgndaaGreatDoor
open Go.ChangeShapes Go.WideShapes Go.ChangeAt Go.RowKit
set_option linter.unusedVariables false

theorem four_cells (w : World) (x0 x1 x2 x3 : Int) (i : Nat) (hi : i < 4) : ∃ z : Int, (w.alloc (.cells #[.int .i64 x0, .int .i64 x1, .int .i64 x2, .int .i64 x3] 3)).cell? ⟨w.heap.size, i, none⟩ = some (.int .i64 z) := by
  have : i = 0 ∨ i = 1 ∨ i = 2 ∨ i = 3 := by omega
  rcases this with rfl | rfl | rfl | rfl
  · exact ⟨x0, by simp⟩
  · exact ⟨x1, by simp⟩
  · exact ⟨x2, by simp⟩
  · exact ⟨x3, by simp⟩
theorem CurOk.grown {w w' : World} {b : Nat} {a : Option Addr} {len cap m : Nat} (h : CurOk w b a len cap m) (hb : Below w.heap.size w w') : CurOk w' b a len cap m := by
  have hlt := h.lt
  obtain ⟨hl, ⟨k, seed, hk, s0, s1, h0, h1, h2, f0, f1, f2⟩, hB⟩ := h
  refine ⟨hl, ⟨k, seed, hk, s0, s1, (hb.cell hlt).trans h0, (hb.cell hlt).trans h1, (hb.cell hlt).trans h2, (hb.frozen hlt).trans f0, (hb.frozen hlt).trans f1, (hb.frozen hlt).trans f2⟩, ?_⟩
  rcases hB with hB | ⟨cb, off, ha, hne, hc⟩
  · exact .inl hB
  · exact .inr ⟨cb, off, ha, hne, fun i hi => by obtain ⟨z, z0, z1, hz⟩ := hc i hi; exact ⟨z, z0, z1, (hb.cell (cell_lt' hz)).trans hz⟩⟩
theorem grown_of_below {w w' : World} (b : Nat) (hb : Below w.heap.size w w') : w.grownBy w' (some b) := ⟨hb.os, hb.tape, hb.output, hb.size, fun k hk _ => hb.block k hk⟩

end Go.Proofs.YtojdmcennpgndaaGreatDoor

namespace Go.Proofs.YtojdmcennpgndaaGreatDoor
open Go.ChangeShapes Go.WideShapes Go.ChangeAt Go.RowKit
set_option linter.unusedVariables false

/-- A byte slice that can be read. -/
def RowB (w : World) (a : Option Addr) (len : Nat) : Prop :=
  len = 0 ∨ ∃ cb off, a = some ⟨cb, off, none⟩ ∧ ∀ i, i < len → ∃ z : Int, 0 ≤ z ∧ z ≤ 255 ∧ w.cell? ⟨cb, off + i, none⟩ = some (.int .u8 z)
theorem RowB.below {w w' : World} {a : Option Addr} {len : Nat} (h : RowB w a len) (hb : Below w.heap.size w w') : RowB w' a len := by
  rcases h with h | ⟨cb, off, ha, hc⟩
  · exact .inl h
  · exact .inr ⟨cb, off, ha, fun i hi => by obtain ⟨z, z0, z1, hz⟩ := hc i hi; exact ⟨z, z0, z1, (hb.cell (cell_lt' hz)).trans hz⟩⟩
/-- A new cursor is good. -/
theorem cur_new (w : World) (a : Option Addr) (len cap : Nat) (hl : len ≤ 1048576) (h : RowB w a len) :
    CurOk (w.alloc (.cells #[.slice a len cap, .int .i64 0, .int .u64 0] 51)) w.heap.size a len cap 0 := by
  refine ⟨hl, ⟨0, 0, Nat.le_refl _, by omega, by omega, by simp, by simp, by simp, by simp, by simp, by simp⟩, ?_⟩
  rcases h with h | ⟨cb, off, ha, hc⟩
  · exact .inl h
  · by_cases h0 : len = 0
    · exact .inl h0
    · have hlt : cb < w.heap.size := by obtain ⟨z, _, _, hz⟩ := hc 0 (by omega); exact cell_lt' hz
      exact .inr ⟨cb, off, ha, by omega, fun i hi => by obtain ⟨z, z0, z1, hz⟩ := hc i hi; exact ⟨z, z0, z1, (World.cell?_alloc_lt _ _ _ hlt).trans hz⟩⟩
/-- What turned the cursor alone turned nothing older. -/
theorem below_new {w w' : World} {o : Obj} (h : (w.alloc o).grownBy w' (some w.heap.size)) : Below w.heap.size w w' :=
  ⟨h.os, h.tape, h.output, Nat.le_trans (by simp) h.size, fun k hk => (h.block k (by simp; omega) (by simp; omega)).trans (Below.heap_alloc w o k hk)⟩

theorem five_cells (w : World) (x0 x1 x2 x3 x4 : Int) (i : Nat) (hi : i < 5) : ∃ z : Int, (w.alloc (.cells #[.int .i64 x0, .int .i64 x1, .int .i64 x2, .int .i64 x3, .int .i64 x4] 3)).cell? ⟨w.heap.size, i, none⟩ = some (.int .i64 z) := by
  have : i = 0 ∨ i = 1 ∨ i = 2 ∨ i = 3 ∨ i = 4 := by omega
  rcases this with rfl | rfl | rfl | rfl | rfl
  · exact ⟨x0, by simp⟩
  · exact ⟨x1, by simp⟩
  · exact ⟨x2, by simp⟩
  · exact ⟨x3, by simp⟩
  · exact ⟨x4, by simp⟩

end Go.Proofs.YtojdmcennpgndaaGreatDoor

namespace Go.Proofs.YtojdmcennpgndaaGreatDoor
open Go.ChangeShapes Go.WideShapes Go.ChangeAt Go.RowKit
set_option linter.unusedVariables false

theorem gcell {w w' : World} {b k : Nat} (hg : w.grownBy w' (some b)) (hk : k < w.heap.size) (hne : k ≠ b) : (∀ o, w'.cell? ⟨k, o, none⟩ = w.cell? ⟨k, o, none⟩) ∧ ∀ o, w'.frozen? ⟨k, o, none⟩ = w.frozen? ⟨k, o, none⟩ := by
  have hb := hg.block k hk (by simpa using hne)
  exact ⟨fun o => World.cell?_of_block (a := ⟨k, o, none⟩) hb, fun o => World.frozen?_of_block (a := ⟨k, o, none⟩) hb⟩
theorem grown_new {w w' : World} {b : Nat} {p : Addr} (hg : w.grownBy w' (some b)) (hp : w.heap.size ≤ p.block) (v : Value) : w.grownBy (w'.setCell p v) (some b) :=
  ⟨hg.os, hg.tape, hg.output, Nat.le_trans hg.size (by simp), fun k hk hne => (Below.heap_setCell w' p v k (by omega)).trans (hg.block k hk hne)⟩
theorem grown_alloc {w w' : World} {b : Nat} (hg : w.grownBy w' (some b)) (o : Obj) : w.grownBy (w'.alloc o) (some b) :=
  grown_trans hg (grown_of_below b ((Below.refl w'.heap.size w').alloc (Nat.le_refl _) o))
/-- A cursor that is good stays so where the blocks that were there at the beginning have not turned. -/
theorem CurOk.same {w0 w1 w2 : World} {b : Nat} {a : Option Addr} {len cap m m0 : Nat} (h0 : CurOk w0 b a len cap m0) (h1 : CurOk w1 b a len cap m) (hbl : ∀ k, k < w0.heap.size → w2.heap[k]? = w1.heap[k]?) : CurOk w2 b a len cap m := by
  have hlt := h0.lt
  obtain ⟨_, _, hB0⟩ := h0
  obtain ⟨hl, ⟨k, seed, hk, s0, s1, c0, c1, c2, f0, f1, f2⟩, hB⟩ := h1
  have hb := hbl b hlt
  refine ⟨hl, ⟨k, seed, hk, s0, s1, (World.cell?_of_block (a := ⟨b, 0, none⟩) hb).trans c0, (World.cell?_of_block (a := ⟨b, 1, none⟩) hb).trans c1, (World.cell?_of_block (a := ⟨b, 2, none⟩) hb).trans c2, (World.frozen?_of_block (a := ⟨b, 0, none⟩) hb).trans f0, (World.frozen?_of_block (a := ⟨b, 1, none⟩) hb).trans f1, (World.frozen?_of_block (a := ⟨b, 2, none⟩) hb).trans f2⟩, ?_⟩
  rcases hB with hB | ⟨cb, off, ha, hnb, hc⟩
  · exact .inl hB
  · by_cases hp : len = 0
    · exact .inl hp
    · rcases hB0 with hB0 | ⟨cb0, off0, ha0, _, hc0⟩
      · exact absurd hB0 hp
      · rw [ha] at ha0
        cases ha0
        have hcb : cb < w0.heap.size := by obtain ⟨z, _, _, hz⟩ := hc0 0 (by omega); exact cell_lt' hz
        exact .inr ⟨cb, off, ha, hnb, fun i hi => by
          obtain ⟨z, z0, z1, hz⟩ := hc i hi
          exact ⟨z, z0, z1, (World.cell?_of_block (a := ⟨cb, off + i, none⟩) (hbl cb hcb)).trans hz⟩⟩

/-- A font lies in block k, and may be written. -/
def FontAt (w : World) (k : Nat) (fa fd fn fu fb : Int) : Prop :=
  k < w.heap.size ∧ w.cell? ⟨k, 0, none⟩ = some (.int .i64 fa) ∧ w.cell? ⟨k, 1, none⟩ = some (.int .i64 fd) ∧ w.cell? ⟨k, 2, none⟩ = some (.int .i64 fn) ∧ w.cell? ⟨k, 3, none⟩ = some (.int .i64 fu) ∧ w.cell? ⟨k, 4, none⟩ = some (.int .i64 fb) ∧
    w.frozen? ⟨k, 0, none⟩ = false ∧ w.frozen? ⟨k, 1, none⟩ = false ∧ w.frozen? ⟨k, 2, none⟩ = false ∧ w.frozen? ⟨k, 3, none⟩ = false ∧ w.frozen? ⟨k, 4, none⟩ = false
theorem FontAt.same {w w' : World} {k : Nat} {fa fd fn fu fb : Int} (h : FontAt w k fa fd fn fu fb) (hb : w'.heap[k]? = w.heap[k]?) (hs : w.heap.size ≤ w'.heap.size) : FontAt w' k fa fd fn fu fb := by
  obtain ⟨h0, c0, c1, c2, c3, c4, f0, f1, f2, f3, f4⟩ := h
  exact ⟨Nat.lt_of_lt_of_le h0 hs, (World.cell?_of_block (a := ⟨k, 0, none⟩) hb).trans c0, (World.cell?_of_block (a := ⟨k, 1, none⟩) hb).trans c1, (World.cell?_of_block (a := ⟨k, 2, none⟩) hb).trans c2, (World.cell?_of_block (a := ⟨k, 3, none⟩) hb).trans c3, (World.cell?_of_block (a := ⟨k, 4, none⟩) hb).trans c4,
    (World.frozen?_of_block (a := ⟨k, 0, none⟩) hb).trans f0, (World.frozen?_of_block (a := ⟨k, 1, none⟩) hb).trans f1, (World.frozen?_of_block (a := ⟨k, 2, none⟩) hb).trans f2, (World.frozen?_of_block (a := ⟨k, 3, none⟩) hb).trans f3, (World.frozen?_of_block (a := ⟨k, 4, none⟩) hb).trans f4⟩
theorem FontAt.grown {w w' : World} {b k : Nat} {fa fd fn fu fb : Int} (h : FontAt w k fa fd fn fu fb) (hg : w.grownBy w' (some b)) (hne : k ≠ b) : FontAt w' k fa fd fn fu fb :=
  h.same (hg.block k h.1 (by simpa using hne)) hg.size
theorem FontAt.below {w w' : World} {k : Nat} {fa fd fn fu fb : Int} (h : FontAt w k fa fd fn fu fb) (hb : Below w.heap.size w w') : FontAt w' k fa fd fn fu fb :=
  h.same (hb.block k h.1) hb.size

end Go.Proofs.YtojdmcennpgndaaGreatDoor

namespace Go.Proofs.YtojdmcennpgndaaGreatDoor
open Go.ChangeShapes Go.WideShapes Go.ChangeAt Go.RowKit
set_option linter.unusedVariables false

def stCells (s : St) : Array Value := #[.int .i64 s.sh, .int .i64 s.fl, .int .i64 s.cl, .bool s.w.a, .bool s.w.p, .int .i64 s.w.n, .bool s.h.a, .bool s.h.p, .int .i64 s.h.n, .int .i64 s.mn, .int .i64 s.mx, .int .i64 s.mt, .bool s.mr.a, .bool s.mr.p, .int .i64 s.mr.n, .int .i64 s.mb, .bool s.ml.a, .bool s.ml.p, .int .i64 s.ml.n, .int .i64 s.bo, .int .i64 s.pa, .int .i64 s.wh, .int .i64 s.al, .int .i64 s.lh, .int .i64 s.ri, .int .i64 s.dn]
def plainSt : St := ⟨1, 0, 0, ⟨true, false, 0⟩, ⟨true, false, 0⟩, 0, -1, 0, ⟨false, false, 0⟩, 0, ⟨false, false, 0⟩, 0, 0, 1, 1, 0, 0, 0⟩
def zeroSt : St := ⟨0, 0, 0, ⟨false, false, 0⟩, ⟨false, false, 0⟩, 0, 0, 0, ⟨false, false, 0⟩, 0, ⟨false, false, 0⟩, 0, 0, 0, 0, 0, 0, 0⟩
def fixSt (s : St) : St := if s.sh = 3 then s else if s.fl ≠ 0 then { s with sh := 1 } else if s.sh = 2 then { plainSt with sh := 2 } else s

/-- Two results, the first one a struct in memory. -/
theorem results_row_tmp2 {P : Program} {fn : Func} {p q : Tmp} {ty : TypeId} (h : fn.results = #[.cell p ty, .tmp q]) (tmps : Array Value) (w : World) (g : Nat) (t : TypeId) (cs : Array Value) (fr : Nat × Nat) (d : TypeDesc) (v : Value)
    (hp : tmps.getD p undef = .pointer (some ⟨g, 0, none⟩)) (hg : w.heap[g]? = some (.cells cs t fr))
    (hu : P.underlying ty = some d) (hd : (match d with | .struct _ | .array _ _ => true | _ => false) = true) (hi : (P.info? ty).map (·.size) = some cs.size) (hq : tmps.getD q undef = v) :
    (results fn tmps).run P w = .ok (.tuple #[.agg cs, v]) w := by
  have hp' : tmps[p]?.getD undef = .pointer (some ⟨g, 0, none⟩) := by simpa using hp
  have hq' : tmps[q]?.getD undef = v := by simpa using hq
  simp [results, h, hp', hq', asAddr, run_loadVar_row w g t ty cs fr d hg hu hd hi]
set_option maxRecDepth 100000 in
set_option maxHeartbeats 4000000 in
theorem l4Fix_none (s : St) (w : World) :
    Calls Tryz.prog 19 #[.agg #[.int .i64 3, .int .i64 s.fl, .int .i64 s.cl, .bool s.w.a, .bool s.w.p, .int .i64 s.w.n, .bool s.h.a, .bool s.h.p, .int .i64 s.h.n, .int .i64 s.mn, .int .i64 s.mx, .int .i64 s.mt, .bool s.mr.a, .bool s.mr.p, .int .i64 s.mr.n, .int .i64 s.mb, .bool s.ml.a, .bool s.ml.p, .int .i64 s.ml.n, .int .i64 s.bo, .int .i64 s.pa, .int .i64 s.wh, .int .i64 s.al, .int .i64 s.lh, .int .i64 s.ri, .int .i64 s.dn]] w fun e w' => e = .returned (.agg (stCells ({ s with sh := 3 }))) ∧ Below w.heap.size w w' := by
  have l0 : ((w.alloc (.cells (#[.int .i64 3, .int .i64 s.fl, .int .i64 s.cl, .bool s.w.a, .bool s.w.p, .int .i64 s.w.n, .bool s.h.a, .bool s.h.p, .int .i64 s.h.n, .int .i64 s.mn, .int .i64 s.mx, .int .i64 s.mt, .bool s.mr.a, .bool s.mr.p, .int .i64 s.mr.n, .int .i64 s.mb, .bool s.ml.a, .bool s.ml.p, .int .i64 s.ml.n, .int .i64 s.bo, .int .i64 s.pa, .int .i64 s.wh, .int .i64 s.al, .int .i64 s.lh, .int .i64 s.ri, .int .i64 s.dn]) 26)).alloc (.cells (#[.int .i64 0, .int .i64 0, .int .i64 0, .bool false, .bool false, .int .i64 0, .bool false, .bool false, .int .i64 0, .int .i64 0, .int .i64 0, .int .i64 0, .bool false, .bool false, .int .i64 0, .int .i64 0, .bool false, .bool false, .int .i64 0, .int .i64 0, .int .i64 0, .int .i64 0, .int .i64 0, .int .i64 0, .int .i64 0, .int .i64 0]) 26)).heap[w.heap.size]? = some (.cells (stCells ({ s with sh := 3 })) 26 (0, 0)) := heap_in (heap_at _ _ _ rfl)
  have l1 : ((w.alloc (.cells (#[.int .i64 3, .int .i64 s.fl, .int .i64 s.cl, .bool s.w.a, .bool s.w.p, .int .i64 s.w.n, .bool s.h.a, .bool s.h.p, .int .i64 s.h.n, .int .i64 s.mn, .int .i64 s.mx, .int .i64 s.mt, .bool s.mr.a, .bool s.mr.p, .int .i64 s.mr.n, .int .i64 s.mb, .bool s.ml.a, .bool s.ml.p, .int .i64 s.ml.n, .int .i64 s.bo, .int .i64 s.pa, .int .i64 s.wh, .int .i64 s.al, .int .i64 s.lh, .int .i64 s.ri, .int .i64 s.dn]) 26)).alloc (.cells (#[.int .i64 0, .int .i64 0, .int .i64 0, .bool false, .bool false, .int .i64 0, .bool false, .bool false, .int .i64 0, .int .i64 0, .int .i64 0, .int .i64 0, .bool false, .bool false, .int .i64 0, .int .i64 0, .bool false, .bool false, .int .i64 0, .int .i64 0, .int .i64 0, .int .i64 0, .int .i64 0, .int .i64 0, .int .i64 0, .int .i64 0]) 26)).heap[w.heap.size + 1]? = some (.cells (#[.int .i64 0, .int .i64 0, .int .i64 0, .bool false, .bool false, .int .i64 0, .bool false, .bool false, .int .i64 0, .int .i64 0, .int .i64 0, .int .i64 0, .bool false, .bool false, .int .i64 0, .int .i64 0, .bool false, .bool false, .int .i64 0, .int .i64 0, .int .i64 0, .int .i64 0, .int .i64 0, .int .i64 0, .int .i64 0, .int .i64 0]) 26 (0, 0)) := heap_at _ _ _ (by simp)
  have bel : Below w.heap.size w ((w.alloc (.cells (#[.int .i64 3, .int .i64 s.fl, .int .i64 s.cl, .bool s.w.a, .bool s.w.p, .int .i64 s.w.n, .bool s.h.a, .bool s.h.p, .int .i64 s.h.n, .int .i64 s.mn, .int .i64 s.mx, .int .i64 s.mt, .bool s.mr.a, .bool s.mr.p, .int .i64 s.mr.n, .int .i64 s.mb, .bool s.ml.a, .bool s.ml.p, .int .i64 s.ml.n, .int .i64 s.bo, .int .i64 s.pa, .int .i64 s.wh, .int .i64 s.al, .int .i64 s.lh, .int .i64 s.ri, .int .i64 s.dn]) 26)).alloc (.cells (#[.int .i64 0, .int .i64 0, .int .i64 0, .bool false, .bool false, .int .i64 0, .bool false, .bool false, .int .i64 0, .int .i64 0, .int .i64 0, .int .i64 0, .bool false, .bool false, .int .i64 0, .int .i64 0, .bool false, .bool false, .int .i64 0, .int .i64 0, .int .i64 0, .int .i64 0, .int .i64 0, .int .i64 0, .int .i64 0, .int .i64 0]) 26)) := ((Below.refl _ _).alloc (Nat.le_refl _) _).alloc (by simp) _
  go_enter Tryz.func19, Tryz.ntmps19
  go_wp2_with (first
    | ((with_reducible show wpList _ _ _ (⟨some 6, Op.load 26 _, _, _, _, _⟩ :: _) _ _); refine wpList_load_row rfl 26 _ rfl w.heap.size rfl _ (stCells ({ s with sh := 3 })) _ _ l0 Tryz.underlying26 rfl (by kernel_rfl) ?_)
    | ((with_reducible show wpList _ _ _ (⟨none, Op.store 26 (Operand.tmp 2) (Operand.tmp 6), _, _, _, _⟩ :: _) _ _); refine wpList_putA rfl _ _ _ rfl rfl _ 0 26 (stCells ({ s with sh := 3 })).toList _ _ rfl rfl l1 rfl (by kernel_rfl) (by kernel_rfl) (by kernel_rfl) ?_; intro w9 p9 l9 n9; replace l1 := l9.trans (congrArg (fun c => some (Obj.cells c 26 (0, 0))) (show _ = stCells ({ s with sh := 3 }) by kernel_rfl)); replace bel := p9.below bel (by omega); clear l9 n9 p9))
  exact bodyPost_ret (v := .agg (stCells ({ s with sh := 3 }))) (results_cell_row Tryz.results19 _ _ _ _ (stCells ({ s with sh := 3 })) _ _ rfl l1 Tryz.underlying26 rfl (by kernel_rfl)) rfl ⟨rfl, bel⟩
set_option maxRecDepth 100000 in
set_option maxHeartbeats 4000000 in
theorem l4Fix_float (s : St) (w : World) (h : ¬ s.sh = 3) (h2 : ¬ s.fl = 0) :
    Calls Tryz.prog 19 #[.agg #[.int .i64 s.sh, .int .i64 s.fl, .int .i64 s.cl, .bool s.w.a, .bool s.w.p, .int .i64 s.w.n, .bool s.h.a, .bool s.h.p, .int .i64 s.h.n, .int .i64 s.mn, .int .i64 s.mx, .int .i64 s.mt, .bool s.mr.a, .bool s.mr.p, .int .i64 s.mr.n, .int .i64 s.mb, .bool s.ml.a, .bool s.ml.p, .int .i64 s.ml.n, .int .i64 s.bo, .int .i64 s.pa, .int .i64 s.wh, .int .i64 s.al, .int .i64 s.lh, .int .i64 s.ri, .int .i64 s.dn]] w fun e w' => e = .returned (.agg (stCells ({ s with sh := 1 }))) ∧ Below w.heap.size w w' := by
  have l0 : ((w.alloc (.cells (#[.int .i64 s.sh, .int .i64 s.fl, .int .i64 s.cl, .bool s.w.a, .bool s.w.p, .int .i64 s.w.n, .bool s.h.a, .bool s.h.p, .int .i64 s.h.n, .int .i64 s.mn, .int .i64 s.mx, .int .i64 s.mt, .bool s.mr.a, .bool s.mr.p, .int .i64 s.mr.n, .int .i64 s.mb, .bool s.ml.a, .bool s.ml.p, .int .i64 s.ml.n, .int .i64 s.bo, .int .i64 s.pa, .int .i64 s.wh, .int .i64 s.al, .int .i64 s.lh, .int .i64 s.ri, .int .i64 s.dn]) 26)).alloc (.cells (#[.int .i64 0, .int .i64 0, .int .i64 0, .bool false, .bool false, .int .i64 0, .bool false, .bool false, .int .i64 0, .int .i64 0, .int .i64 0, .int .i64 0, .bool false, .bool false, .int .i64 0, .int .i64 0, .bool false, .bool false, .int .i64 0, .int .i64 0, .int .i64 0, .int .i64 0, .int .i64 0, .int .i64 0, .int .i64 0, .int .i64 0]) 26)).heap[w.heap.size]? = some (.cells (stCells (s)) 26 (0, 0)) := heap_in (heap_at _ _ _ rfl)
  have l1 : ((w.alloc (.cells (#[.int .i64 s.sh, .int .i64 s.fl, .int .i64 s.cl, .bool s.w.a, .bool s.w.p, .int .i64 s.w.n, .bool s.h.a, .bool s.h.p, .int .i64 s.h.n, .int .i64 s.mn, .int .i64 s.mx, .int .i64 s.mt, .bool s.mr.a, .bool s.mr.p, .int .i64 s.mr.n, .int .i64 s.mb, .bool s.ml.a, .bool s.ml.p, .int .i64 s.ml.n, .int .i64 s.bo, .int .i64 s.pa, .int .i64 s.wh, .int .i64 s.al, .int .i64 s.lh, .int .i64 s.ri, .int .i64 s.dn]) 26)).alloc (.cells (#[.int .i64 0, .int .i64 0, .int .i64 0, .bool false, .bool false, .int .i64 0, .bool false, .bool false, .int .i64 0, .int .i64 0, .int .i64 0, .int .i64 0, .bool false, .bool false, .int .i64 0, .int .i64 0, .bool false, .bool false, .int .i64 0, .int .i64 0, .int .i64 0, .int .i64 0, .int .i64 0, .int .i64 0, .int .i64 0, .int .i64 0]) 26)).heap[w.heap.size + 1]? = some (.cells (#[.int .i64 0, .int .i64 0, .int .i64 0, .bool false, .bool false, .int .i64 0, .bool false, .bool false, .int .i64 0, .int .i64 0, .int .i64 0, .int .i64 0, .bool false, .bool false, .int .i64 0, .int .i64 0, .bool false, .bool false, .int .i64 0, .int .i64 0, .int .i64 0, .int .i64 0, .int .i64 0, .int .i64 0, .int .i64 0, .int .i64 0]) 26 (0, 0)) := heap_at _ _ _ (by simp)
  have bel : Below w.heap.size w ((w.alloc (.cells (#[.int .i64 s.sh, .int .i64 s.fl, .int .i64 s.cl, .bool s.w.a, .bool s.w.p, .int .i64 s.w.n, .bool s.h.a, .bool s.h.p, .int .i64 s.h.n, .int .i64 s.mn, .int .i64 s.mx, .int .i64 s.mt, .bool s.mr.a, .bool s.mr.p, .int .i64 s.mr.n, .int .i64 s.mb, .bool s.ml.a, .bool s.ml.p, .int .i64 s.ml.n, .int .i64 s.bo, .int .i64 s.pa, .int .i64 s.wh, .int .i64 s.al, .int .i64 s.lh, .int .i64 s.ri, .int .i64 s.dn]) 26)).alloc (.cells (#[.int .i64 0, .int .i64 0, .int .i64 0, .bool false, .bool false, .int .i64 0, .bool false, .bool false, .int .i64 0, .int .i64 0, .int .i64 0, .int .i64 0, .bool false, .bool false, .int .i64 0, .int .i64 0, .bool false, .bool false, .int .i64 0, .int .i64 0, .int .i64 0, .int .i64 0, .int .i64 0, .int .i64 0, .int .i64 0, .int .i64 0]) 26)) := ((Below.refl _ _).alloc (Nat.le_refl _) _).alloc (by simp) _
  go_enter Tryz.func19, Tryz.ntmps19
  go_wp2_with (first
    | ((with_reducible show wpList _ _ _ (⟨none, Op.store 3 (Operand.tmp 10) _, _, _, _, _⟩ :: _) _ _); refine wpList_putA rfl _ _ _ rfl rfl _ 0 26 [.int .i64 1] _ _ rfl rfl l0 rfl (by kernel_rfl) (by kernel_rfl) (by kernel_rfl) ?_; intro w9 p9 l9 n9; replace l0 := l9.trans (congrArg (fun c => some (Obj.cells c 26 (0, 0))) (show _ = stCells ({ s with sh := 1 }) by kernel_rfl)); replace l1 := p9.lies l1 (by omega); replace bel := p9.below bel (by omega); clear l9 n9 p9; have hc : w9.cell? ⟨w.heap.size, 0, none⟩ = some (.int .i64 1) := (lies_cell l0 0).trans rfl)
    | ((with_reducible show wpList _ _ _ (⟨some 16, Op.load 26 _, _, _, _, _⟩ :: _) _ _); refine wpList_load_row rfl 26 _ rfl w.heap.size rfl _ (stCells ({ s with sh := 1 })) _ _ l0 Tryz.underlying26 rfl (by kernel_rfl) ?_)
    | ((with_reducible show wpList _ _ _ (⟨none, Op.store 26 (Operand.tmp 2) (Operand.tmp 16), _, _, _, _⟩ :: _) _ _); refine wpList_putA rfl _ _ _ rfl rfl _ 0 26 (stCells ({ s with sh := 1 })).toList _ _ rfl rfl l1 rfl (by kernel_rfl) (by kernel_rfl) (by kernel_rfl) ?_; intro w9 p9 l9 n9; replace l1 := l9.trans (congrArg (fun c => some (Obj.cells c 26 (0, 0))) (show _ = stCells ({ s with sh := 1 }) by kernel_rfl)); replace bel := p9.below bel (by omega); clear l9 n9 p9))
  exact bodyPost_ret (v := .agg (stCells ({ s with sh := 1 }))) (results_cell_row Tryz.results19 _ _ _ _ (stCells ({ s with sh := 1 })) _ _ rfl l1 Tryz.underlying26 rfl (by kernel_rfl)) rfl ⟨rfl, bel⟩
set_option maxRecDepth 100000 in
set_option maxHeartbeats 4000000 in
theorem l4Fix_inline (s : St) (w : World) :
    Calls Tryz.prog 19 #[.agg #[.int .i64 2, .int .i64 0, .int .i64 s.cl, .bool s.w.a, .bool s.w.p, .int .i64 s.w.n, .bool s.h.a, .bool s.h.p, .int .i64 s.h.n, .int .i64 s.mn, .int .i64 s.mx, .int .i64 s.mt, .bool s.mr.a, .bool s.mr.p, .int .i64 s.mr.n, .int .i64 s.mb, .bool s.ml.a, .bool s.ml.p, .int .i64 s.ml.n, .int .i64 s.bo, .int .i64 s.pa, .int .i64 s.wh, .int .i64 s.al, .int .i64 s.lh, .int .i64 s.ri, .int .i64 s.dn]] w fun e w' => e = .returned (.agg (stCells ({ plainSt with sh := 2 }))) ∧ Below w.heap.size w w' := by
  have l0 : ((w.alloc (.cells (#[.int .i64 2, .int .i64 0, .int .i64 s.cl, .bool s.w.a, .bool s.w.p, .int .i64 s.w.n, .bool s.h.a, .bool s.h.p, .int .i64 s.h.n, .int .i64 s.mn, .int .i64 s.mx, .int .i64 s.mt, .bool s.mr.a, .bool s.mr.p, .int .i64 s.mr.n, .int .i64 s.mb, .bool s.ml.a, .bool s.ml.p, .int .i64 s.ml.n, .int .i64 s.bo, .int .i64 s.pa, .int .i64 s.wh, .int .i64 s.al, .int .i64 s.lh, .int .i64 s.ri, .int .i64 s.dn]) 26)).alloc (.cells (#[.int .i64 0, .int .i64 0, .int .i64 0, .bool false, .bool false, .int .i64 0, .bool false, .bool false, .int .i64 0, .int .i64 0, .int .i64 0, .int .i64 0, .bool false, .bool false, .int .i64 0, .int .i64 0, .bool false, .bool false, .int .i64 0, .int .i64 0, .int .i64 0, .int .i64 0, .int .i64 0, .int .i64 0, .int .i64 0, .int .i64 0]) 26)).heap[w.heap.size]? = some (.cells (stCells ({ s with sh := 2, fl := 0 })) 26 (0, 0)) := heap_in (heap_at _ _ _ rfl)
  have l1 : ((w.alloc (.cells (#[.int .i64 2, .int .i64 0, .int .i64 s.cl, .bool s.w.a, .bool s.w.p, .int .i64 s.w.n, .bool s.h.a, .bool s.h.p, .int .i64 s.h.n, .int .i64 s.mn, .int .i64 s.mx, .int .i64 s.mt, .bool s.mr.a, .bool s.mr.p, .int .i64 s.mr.n, .int .i64 s.mb, .bool s.ml.a, .bool s.ml.p, .int .i64 s.ml.n, .int .i64 s.bo, .int .i64 s.pa, .int .i64 s.wh, .int .i64 s.al, .int .i64 s.lh, .int .i64 s.ri, .int .i64 s.dn]) 26)).alloc (.cells (#[.int .i64 0, .int .i64 0, .int .i64 0, .bool false, .bool false, .int .i64 0, .bool false, .bool false, .int .i64 0, .int .i64 0, .int .i64 0, .int .i64 0, .bool false, .bool false, .int .i64 0, .int .i64 0, .bool false, .bool false, .int .i64 0, .int .i64 0, .int .i64 0, .int .i64 0, .int .i64 0, .int .i64 0, .int .i64 0, .int .i64 0]) 26)).heap[w.heap.size + 1]? = some (.cells (#[.int .i64 0, .int .i64 0, .int .i64 0, .bool false, .bool false, .int .i64 0, .bool false, .bool false, .int .i64 0, .int .i64 0, .int .i64 0, .int .i64 0, .bool false, .bool false, .int .i64 0, .int .i64 0, .bool false, .bool false, .int .i64 0, .int .i64 0, .int .i64 0, .int .i64 0, .int .i64 0, .int .i64 0, .int .i64 0, .int .i64 0]) 26 (0, 0)) := heap_at _ _ _ (by simp)
  have bel : Below w.heap.size w ((w.alloc (.cells (#[.int .i64 2, .int .i64 0, .int .i64 s.cl, .bool s.w.a, .bool s.w.p, .int .i64 s.w.n, .bool s.h.a, .bool s.h.p, .int .i64 s.h.n, .int .i64 s.mn, .int .i64 s.mx, .int .i64 s.mt, .bool s.mr.a, .bool s.mr.p, .int .i64 s.mr.n, .int .i64 s.mb, .bool s.ml.a, .bool s.ml.p, .int .i64 s.ml.n, .int .i64 s.bo, .int .i64 s.pa, .int .i64 s.wh, .int .i64 s.al, .int .i64 s.lh, .int .i64 s.ri, .int .i64 s.dn]) 26)).alloc (.cells (#[.int .i64 0, .int .i64 0, .int .i64 0, .bool false, .bool false, .int .i64 0, .bool false, .bool false, .int .i64 0, .int .i64 0, .int .i64 0, .int .i64 0, .bool false, .bool false, .int .i64 0, .int .i64 0, .bool false, .bool false, .int .i64 0, .int .i64 0, .int .i64 0, .int .i64 0, .int .i64 0, .int .i64 0, .int .i64 0, .int .i64 0]) 26)) := ((Below.refl _ _).alloc (Nat.le_refl _) _).alloc (by simp) _
  go_enter Tryz.func19, Tryz.ntmps19
  go_wp2_with (first
    | (go_at_call 33; refine (specPlain_at _).mono ?_; rintro e w8 ⟨rfl, rfl⟩; replace bel := bel.alloc (by simp; omega) (.cells (#[.int .i64 1, .int .i64 0, .int .i64 0, .bool true, .bool false, .int .i64 0, .bool true, .bool false, .int .i64 0, .int .i64 0, .int .i64 (-1), .int .i64 0, .bool false, .bool false, .int .i64 0, .int .i64 0, .bool false, .bool false, .int .i64 0, .int .i64 0, .int .i64 0, .int .i64 1, .int .i64 1, .int .i64 0, .int .i64 0, .int .i64 0]) 26); replace l1 := heap_in (o := .cells (#[.int .i64 1, .int .i64 0, .int .i64 0, .bool true, .bool false, .int .i64 0, .bool true, .bool false, .int .i64 0, .int .i64 0, .int .i64 (-1), .int .i64 0, .bool false, .bool false, .int .i64 0, .int .i64 0, .bool false, .bool false, .int .i64 0, .int .i64 0, .int .i64 0, .int .i64 1, .int .i64 1, .int .i64 0, .int .i64 0, .int .i64 0]) 26) l1; replace l0 := heap_in (o := .cells (#[.int .i64 1, .int .i64 0, .int .i64 0, .bool true, .bool false, .int .i64 0, .bool true, .bool false, .int .i64 0, .int .i64 0, .int .i64 (-1), .int .i64 0, .bool false, .bool false, .int .i64 0, .int .i64 0, .bool false, .bool false, .int .i64 0, .int .i64 0, .int .i64 0, .int .i64 1, .int .i64 1, .int .i64 0, .int .i64 0, .int .i64 0]) 26) l0)
    | ((with_reducible show wpList _ _ _ (⟨none, Op.store 26 (Operand.tmp 1) (Operand.tmp 14), _, _, _, _⟩ :: _) _ _); refine wpList_putA rfl _ _ _ rfl rfl _ 0 26 (stCells plainSt).toList _ _ rfl rfl l0 rfl (by kernel_rfl) (by kernel_rfl) (by kernel_rfl) ?_; intro w9 p9 l9 n9; replace l0 := l9.trans (congrArg (fun c => some (Obj.cells c 26 (0, 0))) (show _ = stCells plainSt by kernel_rfl)); replace l1 := p9.lies l1 (by omega); replace bel := p9.below bel (by omega); clear l9 n9 p9)
    | ((with_reducible show wpList _ _ _ (⟨none, Op.store 3 (Operand.tmp 15) _, _, _, _, _⟩ :: _) _ _); refine wpList_putA rfl _ _ _ rfl rfl _ 0 26 [.int .i64 2] _ _ rfl rfl l0 rfl (by kernel_rfl) (by kernel_rfl) (by kernel_rfl) ?_; intro w9 p9 l9 n9; replace l0 := l9.trans (congrArg (fun c => some (Obj.cells c 26 (0, 0))) (show _ = stCells ({ plainSt with sh := 2 }) by kernel_rfl)); replace l1 := p9.lies l1 (by omega); replace bel := p9.below bel (by omega); clear l9 n9 p9; have hc : w9.cell? ⟨w.heap.size, 0, none⟩ = some (.int .i64 2) := (lies_cell l0 0).trans rfl)
    | ((with_reducible show wpList _ _ _ (⟨some 16, Op.load 26 _, _, _, _, _⟩ :: _) _ _); refine wpList_load_row rfl 26 _ rfl w.heap.size rfl _ (stCells ({ plainSt with sh := 2 })) _ _ l0 Tryz.underlying26 rfl (by kernel_rfl) ?_)
    | ((with_reducible show wpList _ _ _ (⟨none, Op.store 26 (Operand.tmp 2) (Operand.tmp 16), _, _, _, _⟩ :: _) _ _); refine wpList_putA rfl _ _ _ rfl rfl _ 0 26 (stCells ({ plainSt with sh := 2 })).toList _ _ rfl rfl l1 rfl (by kernel_rfl) (by kernel_rfl) (by kernel_rfl) ?_; intro w9 p9 l9 n9; replace l1 := l9.trans (congrArg (fun c => some (Obj.cells c 26 (0, 0))) (show _ = stCells ({ plainSt with sh := 2 }) by kernel_rfl)); replace bel := p9.below bel (by omega); clear l9 n9 p9))
  exact bodyPost_ret (v := .agg (stCells ({ plainSt with sh := 2 }))) (results_cell_row Tryz.results19 _ _ _ _ (stCells ({ plainSt with sh := 2 })) _ _ rfl l1 Tryz.underlying26 rfl (by kernel_rfl)) rfl ⟨rfl, bel⟩
set_option maxRecDepth 100000 in
set_option maxHeartbeats 4000000 in
theorem l4Fix_same (s : St) (w : World) (h : ¬ s.sh = 3) (h3 : ¬ s.sh = 2) :
    Calls Tryz.prog 19 #[.agg #[.int .i64 s.sh, .int .i64 0, .int .i64 s.cl, .bool s.w.a, .bool s.w.p, .int .i64 s.w.n, .bool s.h.a, .bool s.h.p, .int .i64 s.h.n, .int .i64 s.mn, .int .i64 s.mx, .int .i64 s.mt, .bool s.mr.a, .bool s.mr.p, .int .i64 s.mr.n, .int .i64 s.mb, .bool s.ml.a, .bool s.ml.p, .int .i64 s.ml.n, .int .i64 s.bo, .int .i64 s.pa, .int .i64 s.wh, .int .i64 s.al, .int .i64 s.lh, .int .i64 s.ri, .int .i64 s.dn]] w fun e w' => e = .returned (.agg (stCells ({ s with fl := 0 }))) ∧ Below w.heap.size w w' := by
  have l0 : ((w.alloc (.cells (#[.int .i64 s.sh, .int .i64 0, .int .i64 s.cl, .bool s.w.a, .bool s.w.p, .int .i64 s.w.n, .bool s.h.a, .bool s.h.p, .int .i64 s.h.n, .int .i64 s.mn, .int .i64 s.mx, .int .i64 s.mt, .bool s.mr.a, .bool s.mr.p, .int .i64 s.mr.n, .int .i64 s.mb, .bool s.ml.a, .bool s.ml.p, .int .i64 s.ml.n, .int .i64 s.bo, .int .i64 s.pa, .int .i64 s.wh, .int .i64 s.al, .int .i64 s.lh, .int .i64 s.ri, .int .i64 s.dn]) 26)).alloc (.cells (#[.int .i64 0, .int .i64 0, .int .i64 0, .bool false, .bool false, .int .i64 0, .bool false, .bool false, .int .i64 0, .int .i64 0, .int .i64 0, .int .i64 0, .bool false, .bool false, .int .i64 0, .int .i64 0, .bool false, .bool false, .int .i64 0, .int .i64 0, .int .i64 0, .int .i64 0, .int .i64 0, .int .i64 0, .int .i64 0, .int .i64 0]) 26)).heap[w.heap.size]? = some (.cells (stCells ({ s with fl := 0 })) 26 (0, 0)) := heap_in (heap_at _ _ _ rfl)
  have l1 : ((w.alloc (.cells (#[.int .i64 s.sh, .int .i64 0, .int .i64 s.cl, .bool s.w.a, .bool s.w.p, .int .i64 s.w.n, .bool s.h.a, .bool s.h.p, .int .i64 s.h.n, .int .i64 s.mn, .int .i64 s.mx, .int .i64 s.mt, .bool s.mr.a, .bool s.mr.p, .int .i64 s.mr.n, .int .i64 s.mb, .bool s.ml.a, .bool s.ml.p, .int .i64 s.ml.n, .int .i64 s.bo, .int .i64 s.pa, .int .i64 s.wh, .int .i64 s.al, .int .i64 s.lh, .int .i64 s.ri, .int .i64 s.dn]) 26)).alloc (.cells (#[.int .i64 0, .int .i64 0, .int .i64 0, .bool false, .bool false, .int .i64 0, .bool false, .bool false, .int .i64 0, .int .i64 0, .int .i64 0, .int .i64 0, .bool false, .bool false, .int .i64 0, .int .i64 0, .bool false, .bool false, .int .i64 0, .int .i64 0, .int .i64 0, .int .i64 0, .int .i64 0, .int .i64 0, .int .i64 0, .int .i64 0]) 26)).heap[w.heap.size + 1]? = some (.cells (#[.int .i64 0, .int .i64 0, .int .i64 0, .bool false, .bool false, .int .i64 0, .bool false, .bool false, .int .i64 0, .int .i64 0, .int .i64 0, .int .i64 0, .bool false, .bool false, .int .i64 0, .int .i64 0, .bool false, .bool false, .int .i64 0, .int .i64 0, .int .i64 0, .int .i64 0, .int .i64 0, .int .i64 0, .int .i64 0, .int .i64 0]) 26 (0, 0)) := heap_at _ _ _ (by simp)
  have bel : Below w.heap.size w ((w.alloc (.cells (#[.int .i64 s.sh, .int .i64 0, .int .i64 s.cl, .bool s.w.a, .bool s.w.p, .int .i64 s.w.n, .bool s.h.a, .bool s.h.p, .int .i64 s.h.n, .int .i64 s.mn, .int .i64 s.mx, .int .i64 s.mt, .bool s.mr.a, .bool s.mr.p, .int .i64 s.mr.n, .int .i64 s.mb, .bool s.ml.a, .bool s.ml.p, .int .i64 s.ml.n, .int .i64 s.bo, .int .i64 s.pa, .int .i64 s.wh, .int .i64 s.al, .int .i64 s.lh, .int .i64 s.ri, .int .i64 s.dn]) 26)).alloc (.cells (#[.int .i64 0, .int .i64 0, .int .i64 0, .bool false, .bool false, .int .i64 0, .bool false, .bool false, .int .i64 0, .int .i64 0, .int .i64 0, .int .i64 0, .bool false, .bool false, .int .i64 0, .int .i64 0, .bool false, .bool false, .int .i64 0, .int .i64 0, .int .i64 0, .int .i64 0, .int .i64 0, .int .i64 0, .int .i64 0, .int .i64 0]) 26)) := ((Below.refl _ _).alloc (Nat.le_refl _) _).alloc (by simp) _
  go_enter Tryz.func19, Tryz.ntmps19
  go_wp2_with (first
    | ((with_reducible show wpList _ _ _ (⟨some 16, Op.load 26 _, _, _, _, _⟩ :: _) _ _); refine wpList_load_row rfl 26 _ rfl w.heap.size rfl _ (stCells ({ s with fl := 0 })) _ _ l0 Tryz.underlying26 rfl (by kernel_rfl) ?_)
    | ((with_reducible show wpList _ _ _ (⟨none, Op.store 26 (Operand.tmp 2) (Operand.tmp 16), _, _, _, _⟩ :: _) _ _); refine wpList_putA rfl _ _ _ rfl rfl _ 0 26 (stCells ({ s with fl := 0 })).toList _ _ rfl rfl l1 rfl (by kernel_rfl) (by kernel_rfl) (by kernel_rfl) ?_; intro w9 p9 l9 n9; replace l1 := l9.trans (congrArg (fun c => some (Obj.cells c 26 (0, 0))) (show _ = stCells ({ s with fl := 0 }) by kernel_rfl)); replace bel := p9.below bel (by omega); clear l9 n9 p9))
  exact bodyPost_ret (v := .agg (stCells ({ s with fl := 0 }))) (results_cell_row Tryz.results19 _ _ _ _ (stCells ({ s with fl := 0 })) _ _ rfl l1 Tryz.underlying26 rfl (by kernel_rfl)) rfl ⟨rfl, bel⟩

theorem l4Fix_any (s : St) (w : World) :
    Calls Tryz.prog 19 #[.agg (stCells s)] w fun e w' => e = .returned (.agg (stCells (fixSt s))) ∧ Below w.heap.size w w' := by
  by_cases h : s.sh = 3
  · have e : fixSt s = { s with sh := 3 } := by unfold fixSt; rw [if_pos h, ← h]
    rw [e, show stCells s = #[.int .i64 3, .int .i64 s.fl, .int .i64 s.cl, .bool s.w.a, .bool s.w.p, .int .i64 s.w.n, .bool s.h.a, .bool s.h.p, .int .i64 s.h.n, .int .i64 s.mn, .int .i64 s.mx, .int .i64 s.mt, .bool s.mr.a, .bool s.mr.p, .int .i64 s.mr.n, .int .i64 s.mb, .bool s.ml.a, .bool s.ml.p, .int .i64 s.ml.n, .int .i64 s.bo, .int .i64 s.pa, .int .i64 s.wh, .int .i64 s.al, .int .i64 s.lh, .int .i64 s.ri, .int .i64 s.dn] by unfold stCells; rw [h]]
    exact l4Fix_none s w
  · by_cases h2 : s.fl = 0
    · by_cases h3 : s.sh = 2
      · have e : fixSt s = { plainSt with sh := 2 } := by unfold fixSt; rw [if_neg h, if_neg (by simpa using h2), if_pos h3]
        rw [e, show stCells s = #[.int .i64 2, .int .i64 0, .int .i64 s.cl, .bool s.w.a, .bool s.w.p, .int .i64 s.w.n, .bool s.h.a, .bool s.h.p, .int .i64 s.h.n, .int .i64 s.mn, .int .i64 s.mx, .int .i64 s.mt, .bool s.mr.a, .bool s.mr.p, .int .i64 s.mr.n, .int .i64 s.mb, .bool s.ml.a, .bool s.ml.p, .int .i64 s.ml.n, .int .i64 s.bo, .int .i64 s.pa, .int .i64 s.wh, .int .i64 s.al, .int .i64 s.lh, .int .i64 s.ri, .int .i64 s.dn] by unfold stCells; rw [h3, h2]]
        exact l4Fix_inline s w
      · have e : fixSt s = { s with fl := 0 } := by unfold fixSt; rw [if_neg h, if_neg (by simpa using h2), if_neg h3, ← h2]
        rw [e, show stCells s = #[.int .i64 s.sh, .int .i64 0, .int .i64 s.cl, .bool s.w.a, .bool s.w.p, .int .i64 s.w.n, .bool s.h.a, .bool s.h.p, .int .i64 s.h.n, .int .i64 s.mn, .int .i64 s.mx, .int .i64 s.mt, .bool s.mr.a, .bool s.mr.p, .int .i64 s.mr.n, .int .i64 s.mb, .bool s.ml.a, .bool s.ml.p, .int .i64 s.ml.n, .int .i64 s.bo, .int .i64 s.pa, .int .i64 s.wh, .int .i64 s.al, .int .i64 s.lh, .int .i64 s.ri, .int .i64 s.dn] by unfold stCells; rw [h2]]
        exact l4Fix_same s w h h3
    · have e : fixSt s = { s with sh := 1 } := by unfold fixSt; rw [if_neg h, if_pos (by simpa using h2)]
      rw [e]
      exact l4Fix_float s w h h2
end Go.Proofs.YtojdmcennpgndaaGreatDoor

namespace Go.Proofs.YtojdmcennpgndaaGreatDoor
open Go.ChangeShapes Go.WideShapes Go.ChangeAt Go.RowKit
set_option linter.unusedVariables false

set_option maxRecDepth 100000 in
set_option maxHeartbeats 4000000 in
theorem fixed_none (s : St) (w : World) :
    Calls Tryz.prog 18 #[.agg #[.int .i64 3, .int .i64 s.fl, .int .i64 s.cl, .bool s.w.a, .bool s.w.p, .int .i64 s.w.n, .bool s.h.a, .bool s.h.p, .int .i64 s.h.n, .int .i64 s.mn, .int .i64 s.mx, .int .i64 s.mt, .bool s.mr.a, .bool s.mr.p, .int .i64 s.mr.n, .int .i64 s.mb, .bool s.ml.a, .bool s.ml.p, .int .i64 s.ml.n, .int .i64 s.bo, .int .i64 s.pa, .int .i64 s.wh, .int .i64 s.al, .int .i64 s.lh, .int .i64 s.ri, .int .i64 s.dn]] w fun e w' => e = .returned (.agg (stCells ({ s with sh := 3 }))) ∧ Below w.heap.size w w' := by
  have l0 : ((w.alloc (.cells (#[.int .i64 3, .int .i64 s.fl, .int .i64 s.cl, .bool s.w.a, .bool s.w.p, .int .i64 s.w.n, .bool s.h.a, .bool s.h.p, .int .i64 s.h.n, .int .i64 s.mn, .int .i64 s.mx, .int .i64 s.mt, .bool s.mr.a, .bool s.mr.p, .int .i64 s.mr.n, .int .i64 s.mb, .bool s.ml.a, .bool s.ml.p, .int .i64 s.ml.n, .int .i64 s.bo, .int .i64 s.pa, .int .i64 s.wh, .int .i64 s.al, .int .i64 s.lh, .int .i64 s.ri, .int .i64 s.dn]) 26)).alloc (.cells (#[.int .i64 0, .int .i64 0, .int .i64 0, .bool false, .bool false, .int .i64 0, .bool false, .bool false, .int .i64 0, .int .i64 0, .int .i64 0, .int .i64 0, .bool false, .bool false, .int .i64 0, .int .i64 0, .bool false, .bool false, .int .i64 0, .int .i64 0, .int .i64 0, .int .i64 0, .int .i64 0, .int .i64 0, .int .i64 0, .int .i64 0]) 26)).heap[w.heap.size]? = some (.cells (stCells ({ s with sh := 3 })) 26 (0, 0)) := heap_in (heap_at _ _ _ rfl)
  have l1 : ((w.alloc (.cells (#[.int .i64 3, .int .i64 s.fl, .int .i64 s.cl, .bool s.w.a, .bool s.w.p, .int .i64 s.w.n, .bool s.h.a, .bool s.h.p, .int .i64 s.h.n, .int .i64 s.mn, .int .i64 s.mx, .int .i64 s.mt, .bool s.mr.a, .bool s.mr.p, .int .i64 s.mr.n, .int .i64 s.mb, .bool s.ml.a, .bool s.ml.p, .int .i64 s.ml.n, .int .i64 s.bo, .int .i64 s.pa, .int .i64 s.wh, .int .i64 s.al, .int .i64 s.lh, .int .i64 s.ri, .int .i64 s.dn]) 26)).alloc (.cells (#[.int .i64 0, .int .i64 0, .int .i64 0, .bool false, .bool false, .int .i64 0, .bool false, .bool false, .int .i64 0, .int .i64 0, .int .i64 0, .int .i64 0, .bool false, .bool false, .int .i64 0, .int .i64 0, .bool false, .bool false, .int .i64 0, .int .i64 0, .int .i64 0, .int .i64 0, .int .i64 0, .int .i64 0, .int .i64 0, .int .i64 0]) 26)).heap[w.heap.size + 1]? = some (.cells (#[.int .i64 0, .int .i64 0, .int .i64 0, .bool false, .bool false, .int .i64 0, .bool false, .bool false, .int .i64 0, .int .i64 0, .int .i64 0, .int .i64 0, .bool false, .bool false, .int .i64 0, .int .i64 0, .bool false, .bool false, .int .i64 0, .int .i64 0, .int .i64 0, .int .i64 0, .int .i64 0, .int .i64 0, .int .i64 0, .int .i64 0]) 26 (0, 0)) := heap_at _ _ _ (by simp)
  have bel : Below w.heap.size w ((w.alloc (.cells (#[.int .i64 3, .int .i64 s.fl, .int .i64 s.cl, .bool s.w.a, .bool s.w.p, .int .i64 s.w.n, .bool s.h.a, .bool s.h.p, .int .i64 s.h.n, .int .i64 s.mn, .int .i64 s.mx, .int .i64 s.mt, .bool s.mr.a, .bool s.mr.p, .int .i64 s.mr.n, .int .i64 s.mb, .bool s.ml.a, .bool s.ml.p, .int .i64 s.ml.n, .int .i64 s.bo, .int .i64 s.pa, .int .i64 s.wh, .int .i64 s.al, .int .i64 s.lh, .int .i64 s.ri, .int .i64 s.dn]) 26)).alloc (.cells (#[.int .i64 0, .int .i64 0, .int .i64 0, .bool false, .bool false, .int .i64 0, .bool false, .bool false, .int .i64 0, .int .i64 0, .int .i64 0, .int .i64 0, .bool false, .bool false, .int .i64 0, .int .i64 0, .bool false, .bool false, .int .i64 0, .int .i64 0, .int .i64 0, .int .i64 0, .int .i64 0, .int .i64 0, .int .i64 0, .int .i64 0]) 26)) := ((Below.refl _ _).alloc (Nat.le_refl _) _).alloc (by simp) _
  go_enter Tryz.func18, Tryz.ntmps18
  go_wp2_with (first
    | ((with_reducible show wpList _ _ _ (⟨some 18, Op.load 26 _, _, _, _, _⟩ :: _) _ _); refine wpList_load_row rfl 26 _ rfl w.heap.size rfl _ (stCells ({ s with sh := 3 })) _ _ l0 Tryz.underlying26 rfl (by kernel_rfl) ?_)
    | ((with_reducible show wpList _ _ _ (⟨none, Op.store 26 (Operand.tmp 2) (Operand.tmp 18), _, _, _, _⟩ :: _) _ _); refine wpList_putA rfl _ _ _ rfl rfl _ 0 26 (stCells ({ s with sh := 3 })).toList _ _ rfl rfl l1 rfl (by kernel_rfl) (by kernel_rfl) (by kernel_rfl) ?_; intro w9 p9 l9 n9; replace l1 := l9.trans (congrArg (fun c => some (Obj.cells c 26 (0, 0))) (show _ = stCells ({ s with sh := 3 }) by kernel_rfl)); replace bel := p9.below bel (by omega); clear l9 n9 p9))
  exact bodyPost_ret (v := .agg (stCells ({ s with sh := 3 }))) (results_cell_row Tryz.results18 _ _ _ _ (stCells ({ s with sh := 3 })) _ _ rfl l1 Tryz.underlying26 rfl (by kernel_rfl)) rfl ⟨rfl, bel⟩
set_option maxRecDepth 100000 in
set_option maxHeartbeats 4000000 in
theorem fixed_float (s : St) (w : World) (h : ¬ s.sh = 3) (h2 : ¬ s.fl = 0) :
    Calls Tryz.prog 18 #[.agg #[.int .i64 s.sh, .int .i64 s.fl, .int .i64 s.cl, .bool s.w.a, .bool s.w.p, .int .i64 s.w.n, .bool s.h.a, .bool s.h.p, .int .i64 s.h.n, .int .i64 s.mn, .int .i64 s.mx, .int .i64 s.mt, .bool s.mr.a, .bool s.mr.p, .int .i64 s.mr.n, .int .i64 s.mb, .bool s.ml.a, .bool s.ml.p, .int .i64 s.ml.n, .int .i64 s.bo, .int .i64 s.pa, .int .i64 s.wh, .int .i64 s.al, .int .i64 s.lh, .int .i64 s.ri, .int .i64 s.dn]] w fun e w' => e = .returned (.agg (stCells ({ s with sh := 1 }))) ∧ Below w.heap.size w w' := by
  have l0 : ((w.alloc (.cells (#[.int .i64 s.sh, .int .i64 s.fl, .int .i64 s.cl, .bool s.w.a, .bool s.w.p, .int .i64 s.w.n, .bool s.h.a, .bool s.h.p, .int .i64 s.h.n, .int .i64 s.mn, .int .i64 s.mx, .int .i64 s.mt, .bool s.mr.a, .bool s.mr.p, .int .i64 s.mr.n, .int .i64 s.mb, .bool s.ml.a, .bool s.ml.p, .int .i64 s.ml.n, .int .i64 s.bo, .int .i64 s.pa, .int .i64 s.wh, .int .i64 s.al, .int .i64 s.lh, .int .i64 s.ri, .int .i64 s.dn]) 26)).alloc (.cells (#[.int .i64 0, .int .i64 0, .int .i64 0, .bool false, .bool false, .int .i64 0, .bool false, .bool false, .int .i64 0, .int .i64 0, .int .i64 0, .int .i64 0, .bool false, .bool false, .int .i64 0, .int .i64 0, .bool false, .bool false, .int .i64 0, .int .i64 0, .int .i64 0, .int .i64 0, .int .i64 0, .int .i64 0, .int .i64 0, .int .i64 0]) 26)).heap[w.heap.size]? = some (.cells (stCells (s)) 26 (0, 0)) := heap_in (heap_at _ _ _ rfl)
  have l1 : ((w.alloc (.cells (#[.int .i64 s.sh, .int .i64 s.fl, .int .i64 s.cl, .bool s.w.a, .bool s.w.p, .int .i64 s.w.n, .bool s.h.a, .bool s.h.p, .int .i64 s.h.n, .int .i64 s.mn, .int .i64 s.mx, .int .i64 s.mt, .bool s.mr.a, .bool s.mr.p, .int .i64 s.mr.n, .int .i64 s.mb, .bool s.ml.a, .bool s.ml.p, .int .i64 s.ml.n, .int .i64 s.bo, .int .i64 s.pa, .int .i64 s.wh, .int .i64 s.al, .int .i64 s.lh, .int .i64 s.ri, .int .i64 s.dn]) 26)).alloc (.cells (#[.int .i64 0, .int .i64 0, .int .i64 0, .bool false, .bool false, .int .i64 0, .bool false, .bool false, .int .i64 0, .int .i64 0, .int .i64 0, .int .i64 0, .bool false, .bool false, .int .i64 0, .int .i64 0, .bool false, .bool false, .int .i64 0, .int .i64 0, .int .i64 0, .int .i64 0, .int .i64 0, .int .i64 0, .int .i64 0, .int .i64 0]) 26)).heap[w.heap.size + 1]? = some (.cells (#[.int .i64 0, .int .i64 0, .int .i64 0, .bool false, .bool false, .int .i64 0, .bool false, .bool false, .int .i64 0, .int .i64 0, .int .i64 0, .int .i64 0, .bool false, .bool false, .int .i64 0, .int .i64 0, .bool false, .bool false, .int .i64 0, .int .i64 0, .int .i64 0, .int .i64 0, .int .i64 0, .int .i64 0, .int .i64 0, .int .i64 0]) 26 (0, 0)) := heap_at _ _ _ (by simp)
  have bel : Below w.heap.size w ((w.alloc (.cells (#[.int .i64 s.sh, .int .i64 s.fl, .int .i64 s.cl, .bool s.w.a, .bool s.w.p, .int .i64 s.w.n, .bool s.h.a, .bool s.h.p, .int .i64 s.h.n, .int .i64 s.mn, .int .i64 s.mx, .int .i64 s.mt, .bool s.mr.a, .bool s.mr.p, .int .i64 s.mr.n, .int .i64 s.mb, .bool s.ml.a, .bool s.ml.p, .int .i64 s.ml.n, .int .i64 s.bo, .int .i64 s.pa, .int .i64 s.wh, .int .i64 s.al, .int .i64 s.lh, .int .i64 s.ri, .int .i64 s.dn]) 26)).alloc (.cells (#[.int .i64 0, .int .i64 0, .int .i64 0, .bool false, .bool false, .int .i64 0, .bool false, .bool false, .int .i64 0, .int .i64 0, .int .i64 0, .int .i64 0, .bool false, .bool false, .int .i64 0, .int .i64 0, .bool false, .bool false, .int .i64 0, .int .i64 0, .int .i64 0, .int .i64 0, .int .i64 0, .int .i64 0, .int .i64 0, .int .i64 0]) 26)) := ((Below.refl _ _).alloc (Nat.le_refl _) _).alloc (by simp) _
  go_enter Tryz.func18, Tryz.ntmps18
  go_wp2_with (first
    | ((with_reducible show wpList _ _ _ (⟨none, Op.store 3 (Operand.tmp 11) _, _, _, _, _⟩ :: _) _ _); refine wpList_putA rfl _ _ _ rfl rfl _ 0 26 [.int .i64 1] _ _ rfl rfl l0 rfl (by kernel_rfl) (by kernel_rfl) (by kernel_rfl) ?_; intro w9 p9 l9 n9; replace l0 := l9.trans (congrArg (fun c => some (Obj.cells c 26 (0, 0))) (show _ = stCells ({ s with sh := 1 }) by kernel_rfl)); replace l1 := p9.lies l1 (by omega); replace bel := p9.below bel (by omega); clear l9 n9 p9; have hc : w9.cell? ⟨w.heap.size, 0, none⟩ = some (.int .i64 1) := (lies_cell l0 0).trans rfl)
    | ((with_reducible show wpList _ _ _ (⟨some 18, Op.load 26 _, _, _, _, _⟩ :: _) _ _); refine wpList_load_row rfl 26 _ rfl w.heap.size rfl _ (stCells ({ s with sh := 1 })) _ _ l0 Tryz.underlying26 rfl (by kernel_rfl) ?_)
    | ((with_reducible show wpList _ _ _ (⟨none, Op.store 26 (Operand.tmp 2) (Operand.tmp 18), _, _, _, _⟩ :: _) _ _); refine wpList_putA rfl _ _ _ rfl rfl _ 0 26 (stCells ({ s with sh := 1 })).toList _ _ rfl rfl l1 rfl (by kernel_rfl) (by kernel_rfl) (by kernel_rfl) ?_; intro w9 p9 l9 n9; replace l1 := l9.trans (congrArg (fun c => some (Obj.cells c 26 (0, 0))) (show _ = stCells ({ s with sh := 1 }) by kernel_rfl)); replace bel := p9.below bel (by omega); clear l9 n9 p9))
  exact bodyPost_ret (v := .agg (stCells ({ s with sh := 1 }))) (results_cell_row Tryz.results18 _ _ _ _ (stCells ({ s with sh := 1 })) _ _ rfl l1 Tryz.underlying26 rfl (by kernel_rfl)) rfl ⟨rfl, bel⟩
set_option maxRecDepth 100000 in
set_option maxHeartbeats 4000000 in
theorem fixed_inline (s : St) (w : World) :
    Calls Tryz.prog 18 #[.agg #[.int .i64 2, .int .i64 0, .int .i64 s.cl, .bool s.w.a, .bool s.w.p, .int .i64 s.w.n, .bool s.h.a, .bool s.h.p, .int .i64 s.h.n, .int .i64 s.mn, .int .i64 s.mx, .int .i64 s.mt, .bool s.mr.a, .bool s.mr.p, .int .i64 s.mr.n, .int .i64 s.mb, .bool s.ml.a, .bool s.ml.p, .int .i64 s.ml.n, .int .i64 s.bo, .int .i64 s.pa, .int .i64 s.wh, .int .i64 s.al, .int .i64 s.lh, .int .i64 s.ri, .int .i64 s.dn]] w fun e w' => e = .returned (.agg (stCells ({ plainSt with sh := 2 }))) ∧ Below w.heap.size w w' := by
  have l0 : ((w.alloc (.cells (#[.int .i64 2, .int .i64 0, .int .i64 s.cl, .bool s.w.a, .bool s.w.p, .int .i64 s.w.n, .bool s.h.a, .bool s.h.p, .int .i64 s.h.n, .int .i64 s.mn, .int .i64 s.mx, .int .i64 s.mt, .bool s.mr.a, .bool s.mr.p, .int .i64 s.mr.n, .int .i64 s.mb, .bool s.ml.a, .bool s.ml.p, .int .i64 s.ml.n, .int .i64 s.bo, .int .i64 s.pa, .int .i64 s.wh, .int .i64 s.al, .int .i64 s.lh, .int .i64 s.ri, .int .i64 s.dn]) 26)).alloc (.cells (#[.int .i64 0, .int .i64 0, .int .i64 0, .bool false, .bool false, .int .i64 0, .bool false, .bool false, .int .i64 0, .int .i64 0, .int .i64 0, .int .i64 0, .bool false, .bool false, .int .i64 0, .int .i64 0, .bool false, .bool false, .int .i64 0, .int .i64 0, .int .i64 0, .int .i64 0, .int .i64 0, .int .i64 0, .int .i64 0, .int .i64 0]) 26)).heap[w.heap.size]? = some (.cells (stCells ({ s with sh := 2, fl := 0 })) 26 (0, 0)) := heap_in (heap_at _ _ _ rfl)
  have l1 : ((w.alloc (.cells (#[.int .i64 2, .int .i64 0, .int .i64 s.cl, .bool s.w.a, .bool s.w.p, .int .i64 s.w.n, .bool s.h.a, .bool s.h.p, .int .i64 s.h.n, .int .i64 s.mn, .int .i64 s.mx, .int .i64 s.mt, .bool s.mr.a, .bool s.mr.p, .int .i64 s.mr.n, .int .i64 s.mb, .bool s.ml.a, .bool s.ml.p, .int .i64 s.ml.n, .int .i64 s.bo, .int .i64 s.pa, .int .i64 s.wh, .int .i64 s.al, .int .i64 s.lh, .int .i64 s.ri, .int .i64 s.dn]) 26)).alloc (.cells (#[.int .i64 0, .int .i64 0, .int .i64 0, .bool false, .bool false, .int .i64 0, .bool false, .bool false, .int .i64 0, .int .i64 0, .int .i64 0, .int .i64 0, .bool false, .bool false, .int .i64 0, .int .i64 0, .bool false, .bool false, .int .i64 0, .int .i64 0, .int .i64 0, .int .i64 0, .int .i64 0, .int .i64 0, .int .i64 0, .int .i64 0]) 26)).heap[w.heap.size + 1]? = some (.cells (#[.int .i64 0, .int .i64 0, .int .i64 0, .bool false, .bool false, .int .i64 0, .bool false, .bool false, .int .i64 0, .int .i64 0, .int .i64 0, .int .i64 0, .bool false, .bool false, .int .i64 0, .int .i64 0, .bool false, .bool false, .int .i64 0, .int .i64 0, .int .i64 0, .int .i64 0, .int .i64 0, .int .i64 0, .int .i64 0, .int .i64 0]) 26 (0, 0)) := heap_at _ _ _ (by simp)
  have bel : Below w.heap.size w ((w.alloc (.cells (#[.int .i64 2, .int .i64 0, .int .i64 s.cl, .bool s.w.a, .bool s.w.p, .int .i64 s.w.n, .bool s.h.a, .bool s.h.p, .int .i64 s.h.n, .int .i64 s.mn, .int .i64 s.mx, .int .i64 s.mt, .bool s.mr.a, .bool s.mr.p, .int .i64 s.mr.n, .int .i64 s.mb, .bool s.ml.a, .bool s.ml.p, .int .i64 s.ml.n, .int .i64 s.bo, .int .i64 s.pa, .int .i64 s.wh, .int .i64 s.al, .int .i64 s.lh, .int .i64 s.ri, .int .i64 s.dn]) 26)).alloc (.cells (#[.int .i64 0, .int .i64 0, .int .i64 0, .bool false, .bool false, .int .i64 0, .bool false, .bool false, .int .i64 0, .int .i64 0, .int .i64 0, .int .i64 0, .bool false, .bool false, .int .i64 0, .int .i64 0, .bool false, .bool false, .int .i64 0, .int .i64 0, .int .i64 0, .int .i64 0, .int .i64 0, .int .i64 0, .int .i64 0, .int .i64 0]) 26)) := ((Below.refl _ _).alloc (Nat.le_refl _) _).alloc (by simp) _
  go_enter Tryz.func18, Tryz.ntmps18
  go_wp2_with (first
    | (go_at_call 22; refine (implPlain_at _).mono ?_; rintro e w8 ⟨rfl, rfl⟩; replace bel := bel.alloc (by simp; omega) (.cells (#[.int .i64 1, .int .i64 0, .int .i64 0, .bool true, .bool false, .int .i64 0, .bool true, .bool false, .int .i64 0, .int .i64 0, .int .i64 (-1), .int .i64 0, .bool false, .bool false, .int .i64 0, .int .i64 0, .bool false, .bool false, .int .i64 0, .int .i64 0, .int .i64 0, .int .i64 1, .int .i64 1, .int .i64 0, .int .i64 0, .int .i64 0]) 26); replace l1 := heap_in (o := .cells (#[.int .i64 1, .int .i64 0, .int .i64 0, .bool true, .bool false, .int .i64 0, .bool true, .bool false, .int .i64 0, .int .i64 0, .int .i64 (-1), .int .i64 0, .bool false, .bool false, .int .i64 0, .int .i64 0, .bool false, .bool false, .int .i64 0, .int .i64 0, .int .i64 0, .int .i64 1, .int .i64 1, .int .i64 0, .int .i64 0, .int .i64 0]) 26) l1; replace l0 := heap_in (o := .cells (#[.int .i64 1, .int .i64 0, .int .i64 0, .bool true, .bool false, .int .i64 0, .bool true, .bool false, .int .i64 0, .int .i64 0, .int .i64 (-1), .int .i64 0, .bool false, .bool false, .int .i64 0, .int .i64 0, .bool false, .bool false, .int .i64 0, .int .i64 0, .int .i64 0, .int .i64 1, .int .i64 1, .int .i64 0, .int .i64 0, .int .i64 0]) 26) l0)
    | ((with_reducible show wpList _ _ _ (⟨none, Op.store 26 (Operand.tmp 1) (Operand.tmp 16), _, _, _, _⟩ :: _) _ _); refine wpList_putA rfl _ _ _ rfl rfl _ 0 26 (stCells plainSt).toList _ _ rfl rfl l0 rfl (by kernel_rfl) (by kernel_rfl) (by kernel_rfl) ?_; intro w9 p9 l9 n9; replace l0 := l9.trans (congrArg (fun c => some (Obj.cells c 26 (0, 0))) (show _ = stCells plainSt by kernel_rfl)); replace l1 := p9.lies l1 (by omega); replace bel := p9.below bel (by omega); clear l9 n9 p9)
    | ((with_reducible show wpList _ _ _ (⟨none, Op.store 3 (Operand.tmp 17) _, _, _, _, _⟩ :: _) _ _); refine wpList_putA rfl _ _ _ rfl rfl _ 0 26 [.int .i64 2] _ _ rfl rfl l0 rfl (by kernel_rfl) (by kernel_rfl) (by kernel_rfl) ?_; intro w9 p9 l9 n9; replace l0 := l9.trans (congrArg (fun c => some (Obj.cells c 26 (0, 0))) (show _ = stCells ({ plainSt with sh := 2 }) by kernel_rfl)); replace l1 := p9.lies l1 (by omega); replace bel := p9.below bel (by omega); clear l9 n9 p9; have hc : w9.cell? ⟨w.heap.size, 0, none⟩ = some (.int .i64 2) := (lies_cell l0 0).trans rfl)
    | ((with_reducible show wpList _ _ _ (⟨some 18, Op.load 26 _, _, _, _, _⟩ :: _) _ _); refine wpList_load_row rfl 26 _ rfl w.heap.size rfl _ (stCells ({ plainSt with sh := 2 })) _ _ l0 Tryz.underlying26 rfl (by kernel_rfl) ?_)
    | ((with_reducible show wpList _ _ _ (⟨none, Op.store 26 (Operand.tmp 2) (Operand.tmp 18), _, _, _, _⟩ :: _) _ _); refine wpList_putA rfl _ _ _ rfl rfl _ 0 26 (stCells ({ plainSt with sh := 2 })).toList _ _ rfl rfl l1 rfl (by kernel_rfl) (by kernel_rfl) (by kernel_rfl) ?_; intro w9 p9 l9 n9; replace l1 := l9.trans (congrArg (fun c => some (Obj.cells c 26 (0, 0))) (show _ = stCells ({ plainSt with sh := 2 }) by kernel_rfl)); replace bel := p9.below bel (by omega); clear l9 n9 p9))
  exact bodyPost_ret (v := .agg (stCells ({ plainSt with sh := 2 }))) (results_cell_row Tryz.results18 _ _ _ _ (stCells ({ plainSt with sh := 2 })) _ _ rfl l1 Tryz.underlying26 rfl (by kernel_rfl)) rfl ⟨rfl, bel⟩
set_option maxRecDepth 100000 in
set_option maxHeartbeats 4000000 in
theorem fixed_same (s : St) (w : World) (h : ¬ s.sh = 3) (h3 : ¬ s.sh = 2) :
    Calls Tryz.prog 18 #[.agg #[.int .i64 s.sh, .int .i64 0, .int .i64 s.cl, .bool s.w.a, .bool s.w.p, .int .i64 s.w.n, .bool s.h.a, .bool s.h.p, .int .i64 s.h.n, .int .i64 s.mn, .int .i64 s.mx, .int .i64 s.mt, .bool s.mr.a, .bool s.mr.p, .int .i64 s.mr.n, .int .i64 s.mb, .bool s.ml.a, .bool s.ml.p, .int .i64 s.ml.n, .int .i64 s.bo, .int .i64 s.pa, .int .i64 s.wh, .int .i64 s.al, .int .i64 s.lh, .int .i64 s.ri, .int .i64 s.dn]] w fun e w' => e = .returned (.agg (stCells ({ s with fl := 0 }))) ∧ Below w.heap.size w w' := by
  have l0 : ((w.alloc (.cells (#[.int .i64 s.sh, .int .i64 0, .int .i64 s.cl, .bool s.w.a, .bool s.w.p, .int .i64 s.w.n, .bool s.h.a, .bool s.h.p, .int .i64 s.h.n, .int .i64 s.mn, .int .i64 s.mx, .int .i64 s.mt, .bool s.mr.a, .bool s.mr.p, .int .i64 s.mr.n, .int .i64 s.mb, .bool s.ml.a, .bool s.ml.p, .int .i64 s.ml.n, .int .i64 s.bo, .int .i64 s.pa, .int .i64 s.wh, .int .i64 s.al, .int .i64 s.lh, .int .i64 s.ri, .int .i64 s.dn]) 26)).alloc (.cells (#[.int .i64 0, .int .i64 0, .int .i64 0, .bool false, .bool false, .int .i64 0, .bool false, .bool false, .int .i64 0, .int .i64 0, .int .i64 0, .int .i64 0, .bool false, .bool false, .int .i64 0, .int .i64 0, .bool false, .bool false, .int .i64 0, .int .i64 0, .int .i64 0, .int .i64 0, .int .i64 0, .int .i64 0, .int .i64 0, .int .i64 0]) 26)).heap[w.heap.size]? = some (.cells (stCells ({ s with fl := 0 })) 26 (0, 0)) := heap_in (heap_at _ _ _ rfl)
  have l1 : ((w.alloc (.cells (#[.int .i64 s.sh, .int .i64 0, .int .i64 s.cl, .bool s.w.a, .bool s.w.p, .int .i64 s.w.n, .bool s.h.a, .bool s.h.p, .int .i64 s.h.n, .int .i64 s.mn, .int .i64 s.mx, .int .i64 s.mt, .bool s.mr.a, .bool s.mr.p, .int .i64 s.mr.n, .int .i64 s.mb, .bool s.ml.a, .bool s.ml.p, .int .i64 s.ml.n, .int .i64 s.bo, .int .i64 s.pa, .int .i64 s.wh, .int .i64 s.al, .int .i64 s.lh, .int .i64 s.ri, .int .i64 s.dn]) 26)).alloc (.cells (#[.int .i64 0, .int .i64 0, .int .i64 0, .bool false, .bool false, .int .i64 0, .bool false, .bool false, .int .i64 0, .int .i64 0, .int .i64 0, .int .i64 0, .bool false, .bool false, .int .i64 0, .int .i64 0, .bool false, .bool false, .int .i64 0, .int .i64 0, .int .i64 0, .int .i64 0, .int .i64 0, .int .i64 0, .int .i64 0, .int .i64 0]) 26)).heap[w.heap.size + 1]? = some (.cells (#[.int .i64 0, .int .i64 0, .int .i64 0, .bool false, .bool false, .int .i64 0, .bool false, .bool false, .int .i64 0, .int .i64 0, .int .i64 0, .int .i64 0, .bool false, .bool false, .int .i64 0, .int .i64 0, .bool false, .bool false, .int .i64 0, .int .i64 0, .int .i64 0, .int .i64 0, .int .i64 0, .int .i64 0, .int .i64 0, .int .i64 0]) 26 (0, 0)) := heap_at _ _ _ (by simp)
  have bel : Below w.heap.size w ((w.alloc (.cells (#[.int .i64 s.sh, .int .i64 0, .int .i64 s.cl, .bool s.w.a, .bool s.w.p, .int .i64 s.w.n, .bool s.h.a, .bool s.h.p, .int .i64 s.h.n, .int .i64 s.mn, .int .i64 s.mx, .int .i64 s.mt, .bool s.mr.a, .bool s.mr.p, .int .i64 s.mr.n, .int .i64 s.mb, .bool s.ml.a, .bool s.ml.p, .int .i64 s.ml.n, .int .i64 s.bo, .int .i64 s.pa, .int .i64 s.wh, .int .i64 s.al, .int .i64 s.lh, .int .i64 s.ri, .int .i64 s.dn]) 26)).alloc (.cells (#[.int .i64 0, .int .i64 0, .int .i64 0, .bool false, .bool false, .int .i64 0, .bool false, .bool false, .int .i64 0, .int .i64 0, .int .i64 0, .int .i64 0, .bool false, .bool false, .int .i64 0, .int .i64 0, .bool false, .bool false, .int .i64 0, .int .i64 0, .int .i64 0, .int .i64 0, .int .i64 0, .int .i64 0, .int .i64 0, .int .i64 0]) 26)) := ((Below.refl _ _).alloc (Nat.le_refl _) _).alloc (by simp) _
  go_enter Tryz.func18, Tryz.ntmps18
  go_wp2_with (first
    | ((with_reducible show wpList _ _ _ (⟨some 18, Op.load 26 _, _, _, _, _⟩ :: _) _ _); refine wpList_load_row rfl 26 _ rfl w.heap.size rfl _ (stCells ({ s with fl := 0 })) _ _ l0 Tryz.underlying26 rfl (by kernel_rfl) ?_)
    | ((with_reducible show wpList _ _ _ (⟨none, Op.store 26 (Operand.tmp 2) (Operand.tmp 18), _, _, _, _⟩ :: _) _ _); refine wpList_putA rfl _ _ _ rfl rfl _ 0 26 (stCells ({ s with fl := 0 })).toList _ _ rfl rfl l1 rfl (by kernel_rfl) (by kernel_rfl) (by kernel_rfl) ?_; intro w9 p9 l9 n9; replace l1 := l9.trans (congrArg (fun c => some (Obj.cells c 26 (0, 0))) (show _ = stCells ({ s with fl := 0 }) by kernel_rfl)); replace bel := p9.below bel (by omega); clear l9 n9 p9))
  exact bodyPost_ret (v := .agg (stCells ({ s with fl := 0 }))) (results_cell_row Tryz.results18 _ _ _ _ (stCells ({ s with fl := 0 })) _ _ rfl l1 Tryz.underlying26 rfl (by kernel_rfl)) rfl ⟨rfl, bel⟩

theorem fixed_any (s : St) (w : World) :
    Calls Tryz.prog 18 #[.agg (stCells s)] w fun e w' => e = .returned (.agg (stCells (fixSt s))) ∧ Below w.heap.size w w' := by
  by_cases h : s.sh = 3
  · have e : fixSt s = { s with sh := 3 } := by unfold fixSt; rw [if_pos h, ← h]
    rw [e, show stCells s = #[.int .i64 3, .int .i64 s.fl, .int .i64 s.cl, .bool s.w.a, .bool s.w.p, .int .i64 s.w.n, .bool s.h.a, .bool s.h.p, .int .i64 s.h.n, .int .i64 s.mn, .int .i64 s.mx, .int .i64 s.mt, .bool s.mr.a, .bool s.mr.p, .int .i64 s.mr.n, .int .i64 s.mb, .bool s.ml.a, .bool s.ml.p, .int .i64 s.ml.n, .int .i64 s.bo, .int .i64 s.pa, .int .i64 s.wh, .int .i64 s.al, .int .i64 s.lh, .int .i64 s.ri, .int .i64 s.dn] by unfold stCells; rw [h]]
    exact fixed_none s w
  · by_cases h2 : s.fl = 0
    · by_cases h3 : s.sh = 2
      · have e : fixSt s = { plainSt with sh := 2 } := by unfold fixSt; rw [if_neg h, if_neg (by simpa using h2), if_pos h3]
        rw [e, show stCells s = #[.int .i64 2, .int .i64 0, .int .i64 s.cl, .bool s.w.a, .bool s.w.p, .int .i64 s.w.n, .bool s.h.a, .bool s.h.p, .int .i64 s.h.n, .int .i64 s.mn, .int .i64 s.mx, .int .i64 s.mt, .bool s.mr.a, .bool s.mr.p, .int .i64 s.mr.n, .int .i64 s.mb, .bool s.ml.a, .bool s.ml.p, .int .i64 s.ml.n, .int .i64 s.bo, .int .i64 s.pa, .int .i64 s.wh, .int .i64 s.al, .int .i64 s.lh, .int .i64 s.ri, .int .i64 s.dn] by unfold stCells; rw [h3, h2]]
        exact fixed_inline s w
      · have e : fixSt s = { s with fl := 0 } := by unfold fixSt; rw [if_neg h, if_neg (by simpa using h2), if_neg h3, ← h2]
        rw [e, show stCells s = #[.int .i64 s.sh, .int .i64 0, .int .i64 s.cl, .bool s.w.a, .bool s.w.p, .int .i64 s.w.n, .bool s.h.a, .bool s.h.p, .int .i64 s.h.n, .int .i64 s.mn, .int .i64 s.mx, .int .i64 s.mt, .bool s.mr.a, .bool s.mr.p, .int .i64 s.mr.n, .int .i64 s.mb, .bool s.ml.a, .bool s.ml.p, .int .i64 s.ml.n, .int .i64 s.bo, .int .i64 s.pa, .int .i64 s.wh, .int .i64 s.al, .int .i64 s.lh, .int .i64 s.ri, .int .i64 s.dn] by unfold stCells; rw [h2]]
        exact fixed_same s w h h3
    · have e : fixSt s = { s with sh := 1 } := by unfold fixSt; rw [if_neg h, if_pos (by simpa using h2)]
      rw [e]
      exact fixed_float s w h h2
end Go.Proofs.YtojdmcennpgndaaGreatDoor

namespace Go.Proofs.YtojdmcennpgndaaGreatDoor
open Go.ChangeShapes Go.WideShapes Go.ChangeAt Go.RowKit
set_option linter.unusedVariables false

def fixR (s : St) : St := if styleB s then fixSt s else zeroSt
set_option maxRecDepth 100000 in
set_option maxHeartbeats 4000000 in
theorem specFix_no (s : St) (w : World) (hs : styleB s = false) :
    Calls Tryz.prog 9 #[.agg #[.int .i64 s.sh, .int .i64 s.fl, .int .i64 s.cl, .bool s.w.a, .bool s.w.p, .int .i64 s.w.n, .bool s.h.a, .bool s.h.p, .int .i64 s.h.n, .int .i64 s.mn, .int .i64 s.mx, .int .i64 s.mt, .bool s.mr.a, .bool s.mr.p, .int .i64 s.mr.n, .int .i64 s.mb, .bool s.ml.a, .bool s.ml.p, .int .i64 s.ml.n, .int .i64 s.bo, .int .i64 s.pa, .int .i64 s.wh, .int .i64 s.al, .int .i64 s.lh, .int .i64 s.ri, .int .i64 s.dn]] w fun e w' => e = .returned (.tuple #[.agg (stCells (fixR s)), .bool (styleB s)]) ∧ Below w.heap.size w w' := by
  have GS := fun w => specGoodStyle_any s w
  rw [hs] at GS ⊢
  have HS : Hid (styleB s = false) := hs
  clear hs
  have l0 : ((w.alloc (.cells (#[.int .i64 s.sh, .int .i64 s.fl, .int .i64 s.cl, .bool s.w.a, .bool s.w.p, .int .i64 s.w.n, .bool s.h.a, .bool s.h.p, .int .i64 s.h.n, .int .i64 s.mn, .int .i64 s.mx, .int .i64 s.mt, .bool s.mr.a, .bool s.mr.p, .int .i64 s.mr.n, .int .i64 s.mb, .bool s.ml.a, .bool s.ml.p, .int .i64 s.ml.n, .int .i64 s.bo, .int .i64 s.pa, .int .i64 s.wh, .int .i64 s.al, .int .i64 s.lh, .int .i64 s.ri, .int .i64 s.dn]) 26)).alloc (.cells (#[.int .i64 0, .int .i64 0, .int .i64 0, .bool false, .bool false, .int .i64 0, .bool false, .bool false, .int .i64 0, .int .i64 0, .int .i64 0, .int .i64 0, .bool false, .bool false, .int .i64 0, .int .i64 0, .bool false, .bool false, .int .i64 0, .int .i64 0, .int .i64 0, .int .i64 0, .int .i64 0, .int .i64 0, .int .i64 0, .int .i64 0]) 26)).heap[w.heap.size]? = some (.cells (stCells s) 26 (0, 0)) := heap_in (heap_at _ _ _ rfl)
  have l1 : ((w.alloc (.cells (#[.int .i64 s.sh, .int .i64 s.fl, .int .i64 s.cl, .bool s.w.a, .bool s.w.p, .int .i64 s.w.n, .bool s.h.a, .bool s.h.p, .int .i64 s.h.n, .int .i64 s.mn, .int .i64 s.mx, .int .i64 s.mt, .bool s.mr.a, .bool s.mr.p, .int .i64 s.mr.n, .int .i64 s.mb, .bool s.ml.a, .bool s.ml.p, .int .i64 s.ml.n, .int .i64 s.bo, .int .i64 s.pa, .int .i64 s.wh, .int .i64 s.al, .int .i64 s.lh, .int .i64 s.ri, .int .i64 s.dn]) 26)).alloc (.cells (#[.int .i64 0, .int .i64 0, .int .i64 0, .bool false, .bool false, .int .i64 0, .bool false, .bool false, .int .i64 0, .int .i64 0, .int .i64 0, .int .i64 0, .bool false, .bool false, .int .i64 0, .int .i64 0, .bool false, .bool false, .int .i64 0, .int .i64 0, .int .i64 0, .int .i64 0, .int .i64 0, .int .i64 0, .int .i64 0, .int .i64 0]) 26)).heap[w.heap.size + 1]? = some (.cells (#[.int .i64 0, .int .i64 0, .int .i64 0, .bool false, .bool false, .int .i64 0, .bool false, .bool false, .int .i64 0, .int .i64 0, .int .i64 0, .int .i64 0, .bool false, .bool false, .int .i64 0, .int .i64 0, .bool false, .bool false, .int .i64 0, .int .i64 0, .int .i64 0, .int .i64 0, .int .i64 0, .int .i64 0, .int .i64 0, .int .i64 0]) 26 (0, 0)) := heap_at _ _ _ (by simp)
  have bel : Below w.heap.size w ((w.alloc (.cells (#[.int .i64 s.sh, .int .i64 s.fl, .int .i64 s.cl, .bool s.w.a, .bool s.w.p, .int .i64 s.w.n, .bool s.h.a, .bool s.h.p, .int .i64 s.h.n, .int .i64 s.mn, .int .i64 s.mx, .int .i64 s.mt, .bool s.mr.a, .bool s.mr.p, .int .i64 s.mr.n, .int .i64 s.mb, .bool s.ml.a, .bool s.ml.p, .int .i64 s.ml.n, .int .i64 s.bo, .int .i64 s.pa, .int .i64 s.wh, .int .i64 s.al, .int .i64 s.lh, .int .i64 s.ri, .int .i64 s.dn]) 26)).alloc (.cells (#[.int .i64 0, .int .i64 0, .int .i64 0, .bool false, .bool false, .int .i64 0, .bool false, .bool false, .int .i64 0, .int .i64 0, .int .i64 0, .int .i64 0, .bool false, .bool false, .int .i64 0, .int .i64 0, .bool false, .bool false, .int .i64 0, .int .i64 0, .int .i64 0, .int .i64 0, .int .i64 0, .int .i64 0, .int .i64 0, .int .i64 0]) 26)) := ((Below.refl _ _).alloc (Nat.le_refl _) _).alloc (by simp) _
  go_enter Tryz.func9, Tryz.ntmps9
  go_wp2_with (first
    | ((with_reducible show wpList _ _ _ (⟨some 4, Op.load 26 _, _, _, _, _⟩ :: _) _ _); refine wpList_load_row rfl 26 _ rfl w.heap.size rfl _ (stCells s) _ _ l0 Tryz.underlying26 rfl (by kernel_rfl) ?_)
    | (go_at_call 13; refine (GS _).mono ?_; rintro e w1 ⟨rfl, hb⟩; replace bel := bel.trans (hb.mono bel.size); replace l1 := below_lies hb l1 (lies_lt l1); replace l0 := below_lies hb l0 (lies_lt l0); clear hb)
    | ((with_reducible show wpList _ _ _ (⟨some 7, Op.build 26 _, _, _, _, _⟩ :: _) _ _); refine wpList_buildTo rfl 26 _ rfl _ rfl (stCells zeroSt) (by kernel_rfl) ?_)
    | ((with_reducible show wpList _ _ _ (⟨none, Op.store 26 (Operand.tmp 2) (Operand.tmp 7), _, _, _, _⟩ :: _) _ _); refine wpList_putA rfl _ _ _ rfl rfl _ 0 26 (stCells zeroSt).toList _ _ rfl rfl l1 rfl (by kernel_rfl) (by kernel_rfl) (by kernel_rfl) ?_; intro w9 p9 l9 n9; replace l1 := l9.trans (congrArg (fun c => some (Obj.cells c 26 (0, 0))) (show _ = stCells zeroSt by kernel_rfl)); replace bel := p9.below bel (by omega); clear l9 n9 p9))
  exact bodyPost_ret (v := .tuple #[.agg (stCells (zeroSt)), .bool false]) (results_row_tmp2 Tryz.results9 _ _ _ _ (stCells (zeroSt)) _ _ _ rfl l1 Tryz.underlying26 rfl (by kernel_rfl) rfl) rfl ⟨by simp [fixR, HS.out], bel⟩
set_option maxRecDepth 100000 in
set_option maxHeartbeats 4000000 in
theorem specFix_yes (s : St) (w : World) (hs : styleB s = true) :
    Calls Tryz.prog 9 #[.agg #[.int .i64 s.sh, .int .i64 s.fl, .int .i64 s.cl, .bool s.w.a, .bool s.w.p, .int .i64 s.w.n, .bool s.h.a, .bool s.h.p, .int .i64 s.h.n, .int .i64 s.mn, .int .i64 s.mx, .int .i64 s.mt, .bool s.mr.a, .bool s.mr.p, .int .i64 s.mr.n, .int .i64 s.mb, .bool s.ml.a, .bool s.ml.p, .int .i64 s.ml.n, .int .i64 s.bo, .int .i64 s.pa, .int .i64 s.wh, .int .i64 s.al, .int .i64 s.lh, .int .i64 s.ri, .int .i64 s.dn]] w fun e w' => e = .returned (.tuple #[.agg (stCells (fixR s)), .bool (styleB s)]) ∧ Below w.heap.size w w' := by
  have GS := fun w => specGoodStyle_any s w
  rw [hs] at GS ⊢
  have HS : Hid (styleB s = true) := hs
  clear hs
  have l0 : ((w.alloc (.cells (#[.int .i64 s.sh, .int .i64 s.fl, .int .i64 s.cl, .bool s.w.a, .bool s.w.p, .int .i64 s.w.n, .bool s.h.a, .bool s.h.p, .int .i64 s.h.n, .int .i64 s.mn, .int .i64 s.mx, .int .i64 s.mt, .bool s.mr.a, .bool s.mr.p, .int .i64 s.mr.n, .int .i64 s.mb, .bool s.ml.a, .bool s.ml.p, .int .i64 s.ml.n, .int .i64 s.bo, .int .i64 s.pa, .int .i64 s.wh, .int .i64 s.al, .int .i64 s.lh, .int .i64 s.ri, .int .i64 s.dn]) 26)).alloc (.cells (#[.int .i64 0, .int .i64 0, .int .i64 0, .bool false, .bool false, .int .i64 0, .bool false, .bool false, .int .i64 0, .int .i64 0, .int .i64 0, .int .i64 0, .bool false, .bool false, .int .i64 0, .int .i64 0, .bool false, .bool false, .int .i64 0, .int .i64 0, .int .i64 0, .int .i64 0, .int .i64 0, .int .i64 0, .int .i64 0, .int .i64 0]) 26)).heap[w.heap.size]? = some (.cells (stCells s) 26 (0, 0)) := heap_in (heap_at _ _ _ rfl)
  have l1 : ((w.alloc (.cells (#[.int .i64 s.sh, .int .i64 s.fl, .int .i64 s.cl, .bool s.w.a, .bool s.w.p, .int .i64 s.w.n, .bool s.h.a, .bool s.h.p, .int .i64 s.h.n, .int .i64 s.mn, .int .i64 s.mx, .int .i64 s.mt, .bool s.mr.a, .bool s.mr.p, .int .i64 s.mr.n, .int .i64 s.mb, .bool s.ml.a, .bool s.ml.p, .int .i64 s.ml.n, .int .i64 s.bo, .int .i64 s.pa, .int .i64 s.wh, .int .i64 s.al, .int .i64 s.lh, .int .i64 s.ri, .int .i64 s.dn]) 26)).alloc (.cells (#[.int .i64 0, .int .i64 0, .int .i64 0, .bool false, .bool false, .int .i64 0, .bool false, .bool false, .int .i64 0, .int .i64 0, .int .i64 0, .int .i64 0, .bool false, .bool false, .int .i64 0, .int .i64 0, .bool false, .bool false, .int .i64 0, .int .i64 0, .int .i64 0, .int .i64 0, .int .i64 0, .int .i64 0, .int .i64 0, .int .i64 0]) 26)).heap[w.heap.size + 1]? = some (.cells (#[.int .i64 0, .int .i64 0, .int .i64 0, .bool false, .bool false, .int .i64 0, .bool false, .bool false, .int .i64 0, .int .i64 0, .int .i64 0, .int .i64 0, .bool false, .bool false, .int .i64 0, .int .i64 0, .bool false, .bool false, .int .i64 0, .int .i64 0, .int .i64 0, .int .i64 0, .int .i64 0, .int .i64 0, .int .i64 0, .int .i64 0]) 26 (0, 0)) := heap_at _ _ _ (by simp)
  have bel : Below w.heap.size w ((w.alloc (.cells (#[.int .i64 s.sh, .int .i64 s.fl, .int .i64 s.cl, .bool s.w.a, .bool s.w.p, .int .i64 s.w.n, .bool s.h.a, .bool s.h.p, .int .i64 s.h.n, .int .i64 s.mn, .int .i64 s.mx, .int .i64 s.mt, .bool s.mr.a, .bool s.mr.p, .int .i64 s.mr.n, .int .i64 s.mb, .bool s.ml.a, .bool s.ml.p, .int .i64 s.ml.n, .int .i64 s.bo, .int .i64 s.pa, .int .i64 s.wh, .int .i64 s.al, .int .i64 s.lh, .int .i64 s.ri, .int .i64 s.dn]) 26)).alloc (.cells (#[.int .i64 0, .int .i64 0, .int .i64 0, .bool false, .bool false, .int .i64 0, .bool false, .bool false, .int .i64 0, .int .i64 0, .int .i64 0, .int .i64 0, .bool false, .bool false, .int .i64 0, .int .i64 0, .bool false, .bool false, .int .i64 0, .int .i64 0, .int .i64 0, .int .i64 0, .int .i64 0, .int .i64 0, .int .i64 0, .int .i64 0]) 26)) := ((Below.refl _ _).alloc (Nat.le_refl _) _).alloc (by simp) _
  go_enter Tryz.func9, Tryz.ntmps9
  go_wp2_with (first
    | ((with_reducible show wpList _ _ _ (⟨some 4, Op.load 26 _, _, _, _, _⟩ :: _) _ _); refine wpList_load_row rfl 26 _ rfl w.heap.size rfl _ (stCells s) _ _ l0 Tryz.underlying26 rfl (by kernel_rfl) ?_)
    | (go_at_call 13; refine (GS _).mono ?_; rintro e w1 ⟨rfl, hb⟩; replace bel := bel.trans (hb.mono bel.size); replace l1 := below_lies hb l1 (lies_lt l1); replace l0 := below_lies hb l0 (lies_lt l0); clear hb)
    | ((with_reducible show wpList _ _ _ (⟨some 8, Op.load 26 _, _, _, _, _⟩ :: _) _ _); refine wpList_load_row rfl 26 _ rfl w.heap.size rfl _ (stCells s) _ _ l0 Tryz.underlying26 rfl (by kernel_rfl) ?_)
    | (go_at_call 19; refine (l4Fix_any s _).mono ?_; rintro e w1 ⟨rfl, hb⟩; replace bel := bel.trans (hb.mono bel.size); replace l1 := below_lies hb l1 (lies_lt l1); replace l0 := below_lies hb l0 (lies_lt l0); clear hb)
    | ((with_reducible show wpList _ _ _ (⟨none, Op.store 26 (Operand.tmp 2) (Operand.tmp 9), _, _, _, _⟩ :: _) _ _); refine wpList_putA rfl _ _ _ rfl rfl _ 0 26 (stCells (fixSt s)).toList _ _ rfl rfl l1 rfl (by kernel_rfl) (by kernel_rfl) (by kernel_rfl) ?_; intro w9 p9 l9 n9; replace l1 := l9.trans (congrArg (fun c => some (Obj.cells c 26 (0, 0))) (show _ = stCells (fixSt s) by kernel_rfl)); replace bel := p9.below bel (by omega); clear l9 n9 p9))
  exact bodyPost_ret (v := .tuple #[.agg (stCells (fixSt s)), .bool true]) (results_row_tmp2 Tryz.results9 _ _ _ _ (stCells (fixSt s)) _ _ _ rfl l1 Tryz.underlying26 rfl (by kernel_rfl) rfl) rfl ⟨by simp [fixR, HS.out], bel⟩
set_option maxRecDepth 100000 in
set_option maxHeartbeats 4000000 in
theorem implFix_no (s : St) (w : World) (et : TypeId) (ev : Value) (he : w.cell? ⟨2, 0, none⟩ = some (.iface et ev)) (hs : styleB s = false) :
    Calls Tryz.prog 8 #[.agg #[.int .i64 s.sh, .int .i64 s.fl, .int .i64 s.cl, .bool s.w.a, .bool s.w.p, .int .i64 s.w.n, .bool s.h.a, .bool s.h.p, .int .i64 s.h.n, .int .i64 s.mn, .int .i64 s.mx, .int .i64 s.mt, .bool s.mr.a, .bool s.mr.p, .int .i64 s.mr.n, .int .i64 s.mb, .bool s.ml.a, .bool s.ml.p, .int .i64 s.ml.n, .int .i64 s.bo, .int .i64 s.pa, .int .i64 s.wh, .int .i64 s.al, .int .i64 s.lh, .int .i64 s.ri, .int .i64 s.dn]] w fun e w' => e = .returned (.tuple #[.agg (stCells (fixR s)), .bool (styleB s)]) ∧ Below w.heap.size w w' := by
  have lte : 2 < w.heap.size := World.block_lt_of_cell? _ ⟨2, 0, none⟩ he
  have GI := implGoodStyle_any s ((w.alloc (.cells (#[.int .i64 s.sh, .int .i64 s.fl, .int .i64 s.cl, .bool s.w.a, .bool s.w.p, .int .i64 s.w.n, .bool s.h.a, .bool s.h.p, .int .i64 s.h.n, .int .i64 s.mn, .int .i64 s.mx, .int .i64 s.mt, .bool s.mr.a, .bool s.mr.p, .int .i64 s.mr.n, .int .i64 s.mb, .bool s.ml.a, .bool s.ml.p, .int .i64 s.ml.n, .int .i64 s.bo, .int .i64 s.pa, .int .i64 s.wh, .int .i64 s.al, .int .i64 s.lh, .int .i64 s.ri, .int .i64 s.dn]) 26)).alloc (.cells (#[.int .i64 0, .int .i64 0, .int .i64 0, .bool false, .bool false, .int .i64 0, .bool false, .bool false, .int .i64 0, .int .i64 0, .int .i64 0, .int .i64 0, .bool false, .bool false, .int .i64 0, .int .i64 0, .bool false, .bool false, .int .i64 0, .int .i64 0, .int .i64 0, .int .i64 0, .int .i64 0, .int .i64 0, .int .i64 0, .int .i64 0]) 26)) et ev ((((((Below.refl w.heap.size w).alloc (Nat.le_refl _) _).alloc (by simp) _)).cell (p := ⟨2, 0, none⟩) lte).trans he)
  rw [hs] at GI ⊢
  clear he lte
  have HS : Hid (styleB s = false) := hs
  clear hs
  have l0 : ((w.alloc (.cells (#[.int .i64 s.sh, .int .i64 s.fl, .int .i64 s.cl, .bool s.w.a, .bool s.w.p, .int .i64 s.w.n, .bool s.h.a, .bool s.h.p, .int .i64 s.h.n, .int .i64 s.mn, .int .i64 s.mx, .int .i64 s.mt, .bool s.mr.a, .bool s.mr.p, .int .i64 s.mr.n, .int .i64 s.mb, .bool s.ml.a, .bool s.ml.p, .int .i64 s.ml.n, .int .i64 s.bo, .int .i64 s.pa, .int .i64 s.wh, .int .i64 s.al, .int .i64 s.lh, .int .i64 s.ri, .int .i64 s.dn]) 26)).alloc (.cells (#[.int .i64 0, .int .i64 0, .int .i64 0, .bool false, .bool false, .int .i64 0, .bool false, .bool false, .int .i64 0, .int .i64 0, .int .i64 0, .int .i64 0, .bool false, .bool false, .int .i64 0, .int .i64 0, .bool false, .bool false, .int .i64 0, .int .i64 0, .int .i64 0, .int .i64 0, .int .i64 0, .int .i64 0, .int .i64 0, .int .i64 0]) 26)).heap[w.heap.size]? = some (.cells (stCells s) 26 (0, 0)) := heap_in (heap_at _ _ _ rfl)
  have l1 : ((w.alloc (.cells (#[.int .i64 s.sh, .int .i64 s.fl, .int .i64 s.cl, .bool s.w.a, .bool s.w.p, .int .i64 s.w.n, .bool s.h.a, .bool s.h.p, .int .i64 s.h.n, .int .i64 s.mn, .int .i64 s.mx, .int .i64 s.mt, .bool s.mr.a, .bool s.mr.p, .int .i64 s.mr.n, .int .i64 s.mb, .bool s.ml.a, .bool s.ml.p, .int .i64 s.ml.n, .int .i64 s.bo, .int .i64 s.pa, .int .i64 s.wh, .int .i64 s.al, .int .i64 s.lh, .int .i64 s.ri, .int .i64 s.dn]) 26)).alloc (.cells (#[.int .i64 0, .int .i64 0, .int .i64 0, .bool false, .bool false, .int .i64 0, .bool false, .bool false, .int .i64 0, .int .i64 0, .int .i64 0, .int .i64 0, .bool false, .bool false, .int .i64 0, .int .i64 0, .bool false, .bool false, .int .i64 0, .int .i64 0, .int .i64 0, .int .i64 0, .int .i64 0, .int .i64 0, .int .i64 0, .int .i64 0]) 26)).heap[w.heap.size + 1]? = some (.cells (#[.int .i64 0, .int .i64 0, .int .i64 0, .bool false, .bool false, .int .i64 0, .bool false, .bool false, .int .i64 0, .int .i64 0, .int .i64 0, .int .i64 0, .bool false, .bool false, .int .i64 0, .int .i64 0, .bool false, .bool false, .int .i64 0, .int .i64 0, .int .i64 0, .int .i64 0, .int .i64 0, .int .i64 0, .int .i64 0, .int .i64 0]) 26 (0, 0)) := heap_at _ _ _ (by simp)
  have bel : Below w.heap.size w ((w.alloc (.cells (#[.int .i64 s.sh, .int .i64 s.fl, .int .i64 s.cl, .bool s.w.a, .bool s.w.p, .int .i64 s.w.n, .bool s.h.a, .bool s.h.p, .int .i64 s.h.n, .int .i64 s.mn, .int .i64 s.mx, .int .i64 s.mt, .bool s.mr.a, .bool s.mr.p, .int .i64 s.mr.n, .int .i64 s.mb, .bool s.ml.a, .bool s.ml.p, .int .i64 s.ml.n, .int .i64 s.bo, .int .i64 s.pa, .int .i64 s.wh, .int .i64 s.al, .int .i64 s.lh, .int .i64 s.ri, .int .i64 s.dn]) 26)).alloc (.cells (#[.int .i64 0, .int .i64 0, .int .i64 0, .bool false, .bool false, .int .i64 0, .bool false, .bool false, .int .i64 0, .int .i64 0, .int .i64 0, .int .i64 0, .bool false, .bool false, .int .i64 0, .int .i64 0, .bool false, .bool false, .int .i64 0, .int .i64 0, .int .i64 0, .int .i64 0, .int .i64 0, .int .i64 0, .int .i64 0, .int .i64 0]) 26)) := ((Below.refl _ _).alloc (Nat.le_refl _) _).alloc (by simp) _
  go_enter Tryz.func8, Tryz.ntmps8
  go_wp2_with (first
    | ((with_reducible show wpList _ _ _ (⟨some 4, Op.load 26 _, _, _, _, _⟩ :: _) _ _); refine wpList_load_row rfl 26 _ rfl w.heap.size rfl _ (stCells s) _ _ l0 Tryz.underlying26 rfl (by kernel_rfl) ?_)
    | (go_at_call 10; refine GI.mono ?_; rintro e w1 ⟨rfl, hb⟩; replace bel := bel.trans (hb.mono bel.size); replace l1 := below_lies hb l1 (lies_lt l1); replace l0 := below_lies hb l0 (lies_lt l0); clear hb; have hc0 : w1.cell? ⟨w.heap.size, 0, none⟩ = some (.int .i64 s.sh) := (lies_cell l0 0).trans rfl; have hc1 : w1.cell? ⟨w.heap.size, 1, none⟩ = some (.int .i64 s.fl) := (lies_cell l0 1).trans rfl)
    | ((with_reducible show wpList _ _ _ (⟨some 7, Op.build 26 _, _, _, _, _⟩ :: _) _ _); refine wpList_buildTo rfl 26 _ rfl _ rfl (stCells zeroSt) (by kernel_rfl) ?_)
    | ((with_reducible show wpList _ _ _ (⟨none, Op.store 26 (Operand.tmp 2) (Operand.tmp 7), _, _, _, _⟩ :: _) _ _); refine wpList_putA rfl _ _ _ rfl rfl _ 0 26 (stCells zeroSt).toList _ _ rfl rfl l1 rfl (by kernel_rfl) (by kernel_rfl) (by kernel_rfl) ?_; intro w9 p9 l9 n9; replace l1 := l9.trans (congrArg (fun c => some (Obj.cells c 26 (0, 0))) (show _ = stCells zeroSt by kernel_rfl)); replace bel := p9.below bel (by omega); clear l9 n9 p9))
  exact bodyPost_ret (v := .tuple #[.agg (stCells (zeroSt)), .bool false]) (results_row_tmp2 Tryz.results8 _ _ _ _ (stCells (zeroSt)) _ _ _ rfl l1 Tryz.underlying26 rfl (by kernel_rfl) rfl) rfl ⟨by simp [fixR, HS.out], bel⟩
set_option maxRecDepth 100000 in
set_option maxHeartbeats 4000000 in
theorem implFix_yes (s : St) (w : World) (et : TypeId) (ev : Value) (he : w.cell? ⟨2, 0, none⟩ = some (.iface et ev)) (hs : styleB s = true) :
    Calls Tryz.prog 8 #[.agg #[.int .i64 s.sh, .int .i64 s.fl, .int .i64 s.cl, .bool s.w.a, .bool s.w.p, .int .i64 s.w.n, .bool s.h.a, .bool s.h.p, .int .i64 s.h.n, .int .i64 s.mn, .int .i64 s.mx, .int .i64 s.mt, .bool s.mr.a, .bool s.mr.p, .int .i64 s.mr.n, .int .i64 s.mb, .bool s.ml.a, .bool s.ml.p, .int .i64 s.ml.n, .int .i64 s.bo, .int .i64 s.pa, .int .i64 s.wh, .int .i64 s.al, .int .i64 s.lh, .int .i64 s.ri, .int .i64 s.dn]] w fun e w' => e = .returned (.tuple #[.agg (stCells (fixR s)), .bool (styleB s)]) ∧ Below w.heap.size w w' := by
  have lte : 2 < w.heap.size := World.block_lt_of_cell? _ ⟨2, 0, none⟩ he
  have GI := implGoodStyle_any s ((w.alloc (.cells (#[.int .i64 s.sh, .int .i64 s.fl, .int .i64 s.cl, .bool s.w.a, .bool s.w.p, .int .i64 s.w.n, .bool s.h.a, .bool s.h.p, .int .i64 s.h.n, .int .i64 s.mn, .int .i64 s.mx, .int .i64 s.mt, .bool s.mr.a, .bool s.mr.p, .int .i64 s.mr.n, .int .i64 s.mb, .bool s.ml.a, .bool s.ml.p, .int .i64 s.ml.n, .int .i64 s.bo, .int .i64 s.pa, .int .i64 s.wh, .int .i64 s.al, .int .i64 s.lh, .int .i64 s.ri, .int .i64 s.dn]) 26)).alloc (.cells (#[.int .i64 0, .int .i64 0, .int .i64 0, .bool false, .bool false, .int .i64 0, .bool false, .bool false, .int .i64 0, .int .i64 0, .int .i64 0, .int .i64 0, .bool false, .bool false, .int .i64 0, .int .i64 0, .bool false, .bool false, .int .i64 0, .int .i64 0, .int .i64 0, .int .i64 0, .int .i64 0, .int .i64 0, .int .i64 0, .int .i64 0]) 26)) et ev ((((((Below.refl w.heap.size w).alloc (Nat.le_refl _) _).alloc (by simp) _)).cell (p := ⟨2, 0, none⟩) lte).trans he)
  rw [hs] at GI ⊢
  clear he lte
  have HS : Hid (styleB s = true) := hs
  clear hs
  have l0 : ((w.alloc (.cells (#[.int .i64 s.sh, .int .i64 s.fl, .int .i64 s.cl, .bool s.w.a, .bool s.w.p, .int .i64 s.w.n, .bool s.h.a, .bool s.h.p, .int .i64 s.h.n, .int .i64 s.mn, .int .i64 s.mx, .int .i64 s.mt, .bool s.mr.a, .bool s.mr.p, .int .i64 s.mr.n, .int .i64 s.mb, .bool s.ml.a, .bool s.ml.p, .int .i64 s.ml.n, .int .i64 s.bo, .int .i64 s.pa, .int .i64 s.wh, .int .i64 s.al, .int .i64 s.lh, .int .i64 s.ri, .int .i64 s.dn]) 26)).alloc (.cells (#[.int .i64 0, .int .i64 0, .int .i64 0, .bool false, .bool false, .int .i64 0, .bool false, .bool false, .int .i64 0, .int .i64 0, .int .i64 0, .int .i64 0, .bool false, .bool false, .int .i64 0, .int .i64 0, .bool false, .bool false, .int .i64 0, .int .i64 0, .int .i64 0, .int .i64 0, .int .i64 0, .int .i64 0, .int .i64 0, .int .i64 0]) 26)).heap[w.heap.size]? = some (.cells (stCells s) 26 (0, 0)) := heap_in (heap_at _ _ _ rfl)
  have l1 : ((w.alloc (.cells (#[.int .i64 s.sh, .int .i64 s.fl, .int .i64 s.cl, .bool s.w.a, .bool s.w.p, .int .i64 s.w.n, .bool s.h.a, .bool s.h.p, .int .i64 s.h.n, .int .i64 s.mn, .int .i64 s.mx, .int .i64 s.mt, .bool s.mr.a, .bool s.mr.p, .int .i64 s.mr.n, .int .i64 s.mb, .bool s.ml.a, .bool s.ml.p, .int .i64 s.ml.n, .int .i64 s.bo, .int .i64 s.pa, .int .i64 s.wh, .int .i64 s.al, .int .i64 s.lh, .int .i64 s.ri, .int .i64 s.dn]) 26)).alloc (.cells (#[.int .i64 0, .int .i64 0, .int .i64 0, .bool false, .bool false, .int .i64 0, .bool false, .bool false, .int .i64 0, .int .i64 0, .int .i64 0, .int .i64 0, .bool false, .bool false, .int .i64 0, .int .i64 0, .bool false, .bool false, .int .i64 0, .int .i64 0, .int .i64 0, .int .i64 0, .int .i64 0, .int .i64 0, .int .i64 0, .int .i64 0]) 26)).heap[w.heap.size + 1]? = some (.cells (#[.int .i64 0, .int .i64 0, .int .i64 0, .bool false, .bool false, .int .i64 0, .bool false, .bool false, .int .i64 0, .int .i64 0, .int .i64 0, .int .i64 0, .bool false, .bool false, .int .i64 0, .int .i64 0, .bool false, .bool false, .int .i64 0, .int .i64 0, .int .i64 0, .int .i64 0, .int .i64 0, .int .i64 0, .int .i64 0, .int .i64 0]) 26 (0, 0)) := heap_at _ _ _ (by simp)
  have bel : Below w.heap.size w ((w.alloc (.cells (#[.int .i64 s.sh, .int .i64 s.fl, .int .i64 s.cl, .bool s.w.a, .bool s.w.p, .int .i64 s.w.n, .bool s.h.a, .bool s.h.p, .int .i64 s.h.n, .int .i64 s.mn, .int .i64 s.mx, .int .i64 s.mt, .bool s.mr.a, .bool s.mr.p, .int .i64 s.mr.n, .int .i64 s.mb, .bool s.ml.a, .bool s.ml.p, .int .i64 s.ml.n, .int .i64 s.bo, .int .i64 s.pa, .int .i64 s.wh, .int .i64 s.al, .int .i64 s.lh, .int .i64 s.ri, .int .i64 s.dn]) 26)).alloc (.cells (#[.int .i64 0, .int .i64 0, .int .i64 0, .bool false, .bool false, .int .i64 0, .bool false, .bool false, .int .i64 0, .int .i64 0, .int .i64 0, .int .i64 0, .bool false, .bool false, .int .i64 0, .int .i64 0, .bool false, .bool false, .int .i64 0, .int .i64 0, .int .i64 0, .int .i64 0, .int .i64 0, .int .i64 0, .int .i64 0, .int .i64 0]) 26)) := ((Below.refl _ _).alloc (Nat.le_refl _) _).alloc (by simp) _
  go_enter Tryz.func8, Tryz.ntmps8
  go_wp2_with (first
    | ((with_reducible show wpList _ _ _ (⟨some 4, Op.load 26 _, _, _, _, _⟩ :: _) _ _); refine wpList_load_row rfl 26 _ rfl w.heap.size rfl _ (stCells s) _ _ l0 Tryz.underlying26 rfl (by kernel_rfl) ?_)
    | (go_at_call 10; refine GI.mono ?_; rintro e w1 ⟨rfl, hb⟩; replace bel := bel.trans (hb.mono bel.size); replace l1 := below_lies hb l1 (lies_lt l1); replace l0 := below_lies hb l0 (lies_lt l0); clear hb)
    | ((with_reducible show wpList _ _ _ (⟨some 8, Op.load 26 _, _, _, _, _⟩ :: _) _ _); refine wpList_load_row rfl 26 _ rfl w.heap.size rfl _ (stCells s) _ _ l0 Tryz.underlying26 rfl (by kernel_rfl) ?_)
    | (go_at_call 18; refine (fixed_any s _).mono ?_; rintro e w1 ⟨rfl, hb⟩; replace bel := bel.trans (hb.mono bel.size); replace l1 := below_lies hb l1 (lies_lt l1); replace l0 := below_lies hb l0 (lies_lt l0); clear hb)
    | ((with_reducible show wpList _ _ _ (⟨none, Op.store 26 (Operand.tmp 2) (Operand.tmp 9), _, _, _, _⟩ :: _) _ _); refine wpList_putA rfl _ _ _ rfl rfl _ 0 26 (stCells (fixSt s)).toList _ _ rfl rfl l1 rfl (by kernel_rfl) (by kernel_rfl) (by kernel_rfl) ?_; intro w9 p9 l9 n9; replace l1 := l9.trans (congrArg (fun c => some (Obj.cells c 26 (0, 0))) (show _ = stCells (fixSt s) by kernel_rfl)); replace bel := p9.below bel (by omega); clear l9 n9 p9))
  exact bodyPost_ret (v := .tuple #[.agg (stCells (fixSt s)), .bool true]) (results_row_tmp2 Tryz.results8 _ _ _ _ (stCells (fixSt s)) _ _ _ rfl l1 Tryz.underlying26 rfl (by kernel_rfl) rfl) rfl ⟨by simp [fixR, HS.out], bel⟩

theorem specFix_any (s : St) (w : World) :
    Calls Tryz.prog 9 #[.agg #[.int .i64 s.sh, .int .i64 s.fl, .int .i64 s.cl, .bool s.w.a, .bool s.w.p, .int .i64 s.w.n, .bool s.h.a, .bool s.h.p, .int .i64 s.h.n, .int .i64 s.mn, .int .i64 s.mx, .int .i64 s.mt, .bool s.mr.a, .bool s.mr.p, .int .i64 s.mr.n, .int .i64 s.mb, .bool s.ml.a, .bool s.ml.p, .int .i64 s.ml.n, .int .i64 s.bo, .int .i64 s.pa, .int .i64 s.wh, .int .i64 s.al, .int .i64 s.lh, .int .i64 s.ri, .int .i64 s.dn]] w fun e w' => e = .returned (.tuple #[.agg (stCells (fixR s)), .bool (styleB s)]) ∧ Below w.heap.size w w' := by
  cases hs : styleB s
  · rw [← hs]; exact specFix_no s w hs
  · rw [← hs]; exact specFix_yes s w hs
theorem implFix_any (s : St) (w : World) (et : TypeId) (ev : Value) (he : w.cell? ⟨2, 0, none⟩ = some (.iface et ev)) :
    Calls Tryz.prog 8 #[.agg #[.int .i64 s.sh, .int .i64 s.fl, .int .i64 s.cl, .bool s.w.a, .bool s.w.p, .int .i64 s.w.n, .bool s.h.a, .bool s.h.p, .int .i64 s.h.n, .int .i64 s.mn, .int .i64 s.mx, .int .i64 s.mt, .bool s.mr.a, .bool s.mr.p, .int .i64 s.mr.n, .int .i64 s.mb, .bool s.ml.a, .bool s.ml.p, .int .i64 s.ml.n, .int .i64 s.bo, .int .i64 s.pa, .int .i64 s.wh, .int .i64 s.al, .int .i64 s.lh, .int .i64 s.ri, .int .i64 s.dn]] w fun e w' => e = .returned (.tuple #[.agg (stCells (fixR s)), .bool (styleB s)]) ∧ Below w.heap.size w w' := by
  cases hs : styleB s
  · rw [← hs]; exact implFix_no s w et ev he hs
  · rw [← hs]
    exact implFix_yes s w et ev he hs
end Go.Proofs.YtojdmcennpgndaaGreatDoor

namespace Go.Proofs.YtojdmcennpgndaaGreatDoor
open Go.ChangeShapes Go.WideShapes Go.ChangeAt Go.RowKit
set_option linter.unusedVariables false

/-- The size that is being answered, beside the cursor. -/
theorem put_cur {w0 w w' : World} {b g len cap m m0 : Nat} {a : Option Addr} (h0 : CurOk w0 b a len cap m0) (h : CurOk w b a len cap m) (p : Put g w w') (hg : w0.heap.size ≤ g) : CurOk w' b a len cap m :=
  CurOk.same h0 h (fun k hk => p.other k (by omega))
theorem put_gro {w0 w w' : World} {b g : Nat} (h : w0.grownBy w (some b)) (p : Put g w w') (hg : w0.heap.size ≤ g) : w0.grownBy w' (some b) :=
  ⟨p.os.trans h.os, p.tape.trans h.tape, p.output.trans h.output, by rw [p.size]; exact h.size, fun k hk hne => (p.other k (by omega)).trans (h.block k hk hne)⟩
theorem gro_lies {w w' : World} {b k : Nat} {x : Obj} (hg : w.grownBy w' (some b)) (h : w.heap[k]? = some x) (hne : k ≠ b) : w'.heap[k]? = some x := (hg.block k (lies_lt h) (fun e => hne (Option.some.inj e))).trans h
set_option maxHeartbeats 2000000 in
theorem size_any (b len cap m : Nat) (a : Option Addr) (w : World) (hm : m ≤ 1000000000000) (hC : CurOk w b a len cap m) :
    Calls Tryz.prog 40 #[.pointer (some ⟨b, 0, none⟩), .bool true] w fun e w' => ∃ z : Sz, e = .returned (.agg #[.bool z.a, .bool z.p, .int .i64 z.n]) ∧ CurOk w' b a len cap (m + 6) ∧ w.grownBy w' (some b) := by
  have hlt := hC.lt
  have hC0 := hC.grown ((Below.refl w.heap.size w).alloc (Nat.le_refl _) (.cells #[.bool false, .bool false, .int .i64 0] 24))
  have G0 := grown_of_below b ((Below.refl w.heap.size w).alloc (Nat.le_refl _) (.cells #[.bool false, .bool false, .int .i64 0] 24))
  have l0 : (w.alloc (.cells #[.bool false, .bool false, .int .i64 0] 24)).heap[w.heap.size]? = some (.cells #[.bool false, .bool false, .int .i64 0] 24 (0, 0)) := heap_at _ _ _ rfl
  go_enter Tryz.func40, Tryz.ntmps40
  go_wp2_with fail
  refine (one_any b len cap m a 2 _ (by omega) hC0 (by omega) (by omega)).mono ?_
  rintro e w1 ⟨v1, rfl, hC1, hg1⟩
  have l1 := gro_lies hg1 l0 (by omega)
  have G1 := grown_trans G0 hg1
  clear hC0 hg1 l0 G0
  cases v1
  rotate_left
  · go_wp2_with ((with_reducible show wpList _ _ _ (⟨none, Op.store 24 (Operand.tmp 4) (Operand.tmp 10), _, _, _, _⟩ :: _) _ _); refine wpList_putA rfl _ _ _ rfl rfl _ 0 3 [.bool true, .bool false, .int .i64 0] _ _ rfl rfl l1 rfl (by kernel_rfl) (by kernel_rfl) (by kernel_rfl) ?_; intro w9 p9 l9 n9; replace l1 := l9.trans (congrArg (fun c => some (Obj.cells c 24 (0, 0))) (show _ = (#[.bool true, .bool false, .int .i64 0] : Array Value) by kernel_rfl)); replace hC1 := put_cur hC hC1 p9 (Nat.le_refl _); replace G1 := put_gro G1 p9 (Nat.le_refl _); clear l9 n9 p9)
    exact bodyPost_ret (v := .agg #[.bool true, .bool false, .int .i64 0]) (results_cell_row Tryz.results40 _ _ _ _ (#[.bool true, .bool false, .int .i64 0]) _ _ rfl l1 Tryz.underlying24 rfl (by kernel_rfl)) rfl ⟨⟨true, false, 0⟩, rfl, hC1.more (by omega), G1⟩
  go_wp2_with fail
  refine (one_any b len cap (m + 2) a 3 _ (by omega) hC1 (by omega) (by omega)).mono ?_
  rintro e w2 ⟨v2, rfl, hC2, hg2⟩
  have l2 := gro_lies hg2 l1 (by omega)
  have G2 := grown_trans G1 hg2
  clear hC1 hg2 l1 G1
  cases v2
  · go_wp2_with fail
    refine (pick_any b len cap (m + 2 + 2) a 500 _ (by omega) hC2 (by omega) (by omega)).mono ?_
    rintro e w3 ⟨x, rfl, x0, x1, hC3, hg3⟩
    have l3 := gro_lies hg3 l2 (by omega)
    have G3 := grown_trans G2 hg3
    clear hC2 hg3 l2 G2
    go_wp2_with ((with_reducible show wpList _ _ _ (⟨none, Op.store 24 (Operand.tmp 4) (Operand.tmp 20), _, _, _, _⟩ :: _) _ _); refine wpList_putA rfl _ _ _ rfl rfl _ 0 3 [.bool false, .bool false, .int .i64 (16 * x)] _ _ rfl rfl l3 rfl (by kernel_rfl) (by kernel_rfl) (by kernel_rfl) ?_; intro w9 p9 l9 n9; replace l3 := l9.trans (congrArg (fun c => some (Obj.cells c 24 (0, 0))) (show _ = (#[.bool false, .bool false, .int .i64 (16 * x)] : Array Value) by kernel_rfl)); replace hC3 := put_cur hC hC3 p9 (Nat.le_refl _); replace G3 := put_gro G3 p9 (Nat.le_refl _); clear l9 n9 p9)
    exact bodyPost_ret (v := .agg #[.bool false, .bool false, .int .i64 (16 * x)]) (results_cell_row Tryz.results40 _ _ _ _ (#[.bool false, .bool false, .int .i64 (16 * x)]) _ _ rfl l3 Tryz.underlying24 rfl (by kernel_rfl)) rfl ⟨⟨false, false, 16 * x⟩, rfl, hC3.more (by omega), G3⟩
  · go_wp2_with fail
    refine (pick_any b len cap (m + 2 + 2) a 130 _ (by omega) hC2 (by omega) (by omega)).mono ?_
    rintro e w3 ⟨x, rfl, x0, x1, hC3, hg3⟩
    have l3 := gro_lies hg3 l2 (by omega)
    have G3 := grown_trans G2 hg3
    clear hC2 hg3 l2 G2
    go_wp2_with ((with_reducible show wpList _ _ _ (⟨none, Op.store 24 (Operand.tmp 4) (Operand.tmp 16), _, _, _, _⟩ :: _) _ _); refine wpList_putA rfl _ _ _ rfl rfl _ 0 3 [.bool false, .bool true, .int .i64 (100 * x)] _ _ rfl rfl l3 rfl (by kernel_rfl) (by kernel_rfl) (by kernel_rfl) ?_; intro w9 p9 l9 n9; replace l3 := l9.trans (congrArg (fun c => some (Obj.cells c 24 (0, 0))) (show _ = (#[.bool false, .bool true, .int .i64 (100 * x)] : Array Value) by kernel_rfl)); replace hC3 := put_cur hC hC3 p9 (Nat.le_refl _); replace G3 := put_gro G3 p9 (Nat.le_refl _); clear l9 n9 p9)
    exact bodyPost_ret (v := .agg #[.bool false, .bool true, .int .i64 (100 * x)]) (results_cell_row Tryz.results40 _ _ _ _ (#[.bool false, .bool true, .int .i64 (100 * x)]) _ _ rfl l3 Tryz.underlying24 rfl (by kernel_rfl)) rfl ⟨⟨false, true, 100 * x⟩, rfl, hC3.more (by omega), G3⟩

/-- The style that is being drawn, beside the cursor. -/
structure DrS (w0 w : World) (g b len cap m : Nat) (a : Option Addr) (s : St) : Prop where
  gt : w0.heap.size < g
  cur : CurOk w b a len cap m
  gro : w0.grownBy w (some b)
  lr : w.heap[w0.heap.size]? = some (.cells (stCells zeroSt) 26 (0, 0))
  ls : w.heap[g]? = some (.cells (stCells s) 26 (0, 0))
theorem DrS.step {w0 w w' : World} {g b len cap m m' : Nat} {a : Option Addr} {s : St} (h : DrS w0 w g b len cap m a s) (hb : b < w0.heap.size) (hC : CurOk w' b a len cap m') (hg : w.grownBy w' (some b)) : DrS w0 w' g b len cap m' a s :=
  ⟨h.gt, hC, grown_trans h.gro hg, gro_lies hg h.lr (by omega), gro_lies hg h.ls (by have := h.gt; omega)⟩
theorem DrS.put {w0 w w' : World} {g b len cap m m0 : Nat} {a : Option Addr} {s s' : St} (h : DrS w0 w g b len cap m a s) (h0 : CurOk w0 b a len cap m0) (p : Put g w w') (l : w'.heap[g]? = some (.cells (stCells s') 26 (0, 0))) : DrS w0 w' g b len cap m a s' :=
  ⟨h.gt, put_cur h0 h.cur p (by have := h.gt; omega), put_gro h.gro p (by have := h.gt; omega), p.lies h.lr (by have := h.gt; omega), l⟩
theorem DrS.alloc {w0 w : World} {g b len cap m : Nat} {a : Option Addr} {s : St} (h : DrS w0 w g b len cap m a s) (o : Obj) : DrS w0 (w.alloc o) g b len cap m a s :=
  ⟨h.gt, h.cur.grown ((Below.refl _ _).alloc (Nat.le_refl _) _), grown_alloc h.gro o, heap_in h.lr, heap_in h.ls⟩
theorem DrS.more {w0 w : World} {g b len cap m m' : Nat} {a : Option Addr} {s : St} (h : DrS w0 w g b len cap m a s) (hm : m ≤ m') : DrS w0 w g b len cap m' a s := ⟨h.gt, h.cur.more hm, h.gro, h.lr, h.ls⟩
theorem two_cells (w : World) (x0 x1 : Int) (i : Nat) (hi : i < 2) : ∃ z : Int, (w.alloc (.cells #[.int .i64 x0, .int .i64 x1] 3)).cell? ⟨w.heap.size, i, none⟩ = some (.int .i64 z) := by
  rcases (by omega : i = 0 ∨ i = 1) with rfl | rfl
  · exact ⟨x0, by simp⟩
  · exact ⟨x1, by simp⟩
theorem three_cells (w : World) (x0 x1 x2 : Int) (i : Nat) (hi : i < 3) : ∃ z : Int, (w.alloc (.cells #[.int .i64 x0, .int .i64 x1, .int .i64 x2] 3)).cell? ⟨w.heap.size, i, none⟩ = some (.int .i64 z) := by
  rcases (by omega : i = 0 ∨ i = 1 ∨ i = 2) with rfl | rfl | rfl
  · exact ⟨x0, by simp⟩
  · exact ⟨x1, by simp⟩
  · exact ⟨x2, by simp⟩

set_option maxRecDepth 100000 in
set_option maxHeartbeats 16000000 in
theorem style_any (b len cap m : Nat) (a : Option Addr) (w : World) (hm : m ≤ 1000000000) (hC : CurOk w b a len cap m) :
    Calls Tryz.prog 21 #[.pointer (some ⟨b, 0, none⟩)] w fun e w' => ∃ s : St, e = .returned (.agg (stCells s)) ∧ CurOk w' b a len cap (m + 60) ∧ w.grownBy w' (some b) := by
  have hlt := hC.lt
  have B1 : Below w.heap.size w (w.alloc (.cells (#[.int .i64 0, .int .i64 0, .int .i64 0, .bool false, .bool false, .int .i64 0, .bool false, .bool false, .int .i64 0, .int .i64 0, .int .i64 0, .int .i64 0, .bool false, .bool false, .int .i64 0, .int .i64 0, .bool false, .bool false, .int .i64 0, .int .i64 0, .int .i64 0, .int .i64 0, .int .i64 0, .int .i64 0, .int .i64 0, .int .i64 0]) 26)) := (Below.refl _ _).alloc (Nat.le_refl _) _
  have l1 : (w.alloc (.cells (#[.int .i64 0, .int .i64 0, .int .i64 0, .bool false, .bool false, .int .i64 0, .bool false, .bool false, .int .i64 0, .int .i64 0, .int .i64 0, .int .i64 0, .bool false, .bool false, .int .i64 0, .int .i64 0, .bool false, .bool false, .int .i64 0, .int .i64 0, .int .i64 0, .int .i64 0, .int .i64 0, .int .i64 0, .int .i64 0, .int .i64 0]) 26)).heap[w.heap.size]? = some (.cells (stCells zeroSt) 26 (0, 0)) := heap_at _ _ _ rfl
  go_enter Tryz.func21, Tryz.ntmps21
  go_wp2_with fail
  refine (specPlain_at _).mono ?_
  rintro e w8 ⟨rfl, hw8⟩
  have b8 : Below (w.alloc (.cells (#[.int .i64 0, .int .i64 0, .int .i64 0, .bool false, .bool false, .int .i64 0, .bool false, .bool false, .int .i64 0, .int .i64 0, .int .i64 0, .int .i64 0, .bool false, .bool false, .int .i64 0, .int .i64 0, .bool false, .bool false, .int .i64 0, .int .i64 0, .int .i64 0, .int .i64 0, .int .i64 0, .int .i64 0, .int .i64 0, .int .i64 0]) 26)).heap.size (w.alloc (.cells (#[.int .i64 0, .int .i64 0, .int .i64 0, .bool false, .bool false, .int .i64 0, .bool false, .bool false, .int .i64 0, .int .i64 0, .int .i64 0, .int .i64 0, .bool false, .bool false, .int .i64 0, .int .i64 0, .bool false, .bool false, .int .i64 0, .int .i64 0, .int .i64 0, .int .i64 0, .int .i64 0, .int .i64 0, .int .i64 0, .int .i64 0]) 26)) w8 := by rw [hw8]; exact (Below.refl _ _).alloc (Nat.le_refl _) _
  replace l1 := below_lies b8 l1 (lies_lt l1)
  replace B1 := B1.trans (b8.mono B1.size)
  have z8 : w.heap.size < w8.heap.size := lies_lt l1
  clear hw8 b8
  go_wp2_with ((with_reducible show wpList _ _ _ (⟨none, Op.store 26 (Operand.tmp 3) (Operand.tmp 5), _, _, _, _⟩ :: _) _ _); refine wpList_store_new rfl 26 _ _ rfl rfl (#[.int .i64 1, .int .i64 0, .int .i64 0, .bool true, .bool false, .int .i64 0, .bool true, .bool false, .int .i64 0, .int .i64 0, .int .i64 (-1), .int .i64 0, .bool false, .bool false, .int .i64 0, .int .i64 0, .bool false, .bool false, .int .i64 0, .int .i64 0, .int .i64 0, .int .i64 1, .int .i64 1, .int .i64 0, .int .i64 0, .int .i64 0]) 26 _ _ rfl rfl rfl (by kernel_rfl) rfl (by kernel_rfl) ?_)
  have h : DrS w (w8.alloc (.cells (#[.int .i64 1, .int .i64 0, .int .i64 0, .bool true, .bool false, .int .i64 0, .bool true, .bool false, .int .i64 0, .int .i64 0, .int .i64 (-1), .int .i64 0, .bool false, .bool false, .int .i64 0, .int .i64 0, .bool false, .bool false, .int .i64 0, .int .i64 0, .int .i64 0, .int .i64 1, .int .i64 1, .int .i64 0, .int .i64 0, .int .i64 0]) 26)) w8.heap.size b len cap m a plainSt := by
    have B3 := B1.alloc B1.size (.cells (#[.int .i64 1, .int .i64 0, .int .i64 0, .bool true, .bool false, .int .i64 0, .bool true, .bool false, .int .i64 0, .int .i64 0, .int .i64 (-1), .int .i64 0, .bool false, .bool false, .int .i64 0, .int .i64 0, .bool false, .bool false, .int .i64 0, .int .i64 0, .int .i64 0, .int .i64 1, .int .i64 1, .int .i64 0, .int .i64 0, .int .i64 0]) 26)
    exact ⟨z8, hC.grown B3, grown_of_below b B3, heap_in l1, heap_at _ _ _ rfl⟩
  clear B1 l1
  refine (pick_any b len cap _ a 5 _ (by omega) h.cur (by omega) (by omega)).mono ?_
  rintro e w1 ⟨v, rfl, v0, v1, hc, hg⟩
  replace h := h.step hlt hc hg
  clear hc hg
  go_wp2
  go_loopw [4] (fun i wr => ∃ (n : Nat) (s : St), n ≤ 4 ∧ i = .int .i64 (n : Int) ∧ DrS w wr w8.heap.size b len cap (m + 2 + 10 * (4 - n)) a s) (fun i _ => (intOf i).toNat)
  case atStart => exact ⟨v.toNat, plainSt, by omega, by rw [Int.toNat_of_nonneg v0], h.more (by omega)⟩
  case round =>
    clear h
    obtain ⟨n, s, hn, rfl, h⟩ := hrel
    by_cases hn0 : 0 < n
    · have hn0' : (0 : Int) < (n : Int) := by omega
      go_wp2_with fail
      refine (pick_any b len cap _ a 16 _ (by omega) h.cur (by omega) (by omega)).mono ?_
      rintro e w1 ⟨k, rfl, k0, k1, hc, hg⟩
      replace h := h.step hlt hc hg
      clear hc hg
      rcases (by omega : k = 0 ∨ k = 1 ∨ k = 2 ∨ k = 3 ∨ k = 4 ∨ k = 5 ∨ k = 6 ∨ k = 7 ∨ k = 8 ∨ k = 9 ∨ k = 10 ∨ k = 11 ∨ k = 12 ∨ k = 13 ∨ k = 14 ∨ k = 15) with rfl | rfl | rfl | rfl | rfl | rfl | rfl | rfl | rfl | rfl | rfl | rfl | rfl | rfl | rfl | rfl
      · go_wp2_with fail
        refine (pick_any b len cap _ a 3 _ (by omega) h.cur (by omega) (by omega)).mono ?_
        rintro e w2 ⟨x, rfl, x0, x1, hc, hg⟩
        replace h := h.step hlt hc hg
        clear hc hg
        go_wp2_with ((with_reducible show wpList _ _ _ (⟨none, Op.store 3 (Operand.tmp 28) _, _, _, _, _⟩ :: _) _ _); refine wpList_putA rfl _ _ _ rfl rfl _ 0 26 [.int .i64 (1 + x)] _ _ rfl rfl h.ls rfl (by kernel_rfl) (by kernel_rfl) (by kernel_rfl) ?_; intro w9 p9 l9 n9; replace h := h.put hC p9 (s' := { s with sh := 1 + x }) (l9.trans (congrArg (fun c => some (Obj.cells c 26 (0, 0))) (show _ = stCells ({ s with sh := 1 + x }) by kernel_rfl))); clear l9 n9 p9)
        go_roundw
        case rel => exact ⟨n - 1, _, by omega, by rw [show ((n - 1 : Nat) : Int) = (n : Int) - 1 by omega], h.more (by omega)⟩
        case measure => simp [intOf]; omega
      · go_wp2_with fail
        refine (pick_any b len cap _ a 3 _ (by omega) h.cur (by omega) (by omega)).mono ?_
        rintro e w2 ⟨x, rfl, x0, x1, hc, hg⟩
        replace h := h.step hlt hc hg
        clear hc hg
        go_wp2_with ((with_reducible show wpList _ _ _ (⟨none, Op.store 3 (Operand.tmp 34) _, _, _, _, _⟩ :: _) _ _); refine wpList_putA rfl _ _ _ rfl rfl _ 1 26 [.int .i64 (x)] _ _ rfl rfl h.ls rfl (by kernel_rfl) (by kernel_rfl) (by kernel_rfl) ?_; intro w9 p9 l9 n9; replace h := h.put hC p9 (s' := { s with fl := x }) (l9.trans (congrArg (fun c => some (Obj.cells c 26 (0, 0))) (show _ = stCells ({ s with fl := x }) by kernel_rfl))); clear l9 n9 p9)
        go_roundw
        case rel => exact ⟨n - 1, _, by omega, by rw [show ((n - 1 : Nat) : Int) = (n : Int) - 1 by omega], h.more (by omega)⟩
        case measure => simp [intOf]; omega
      · go_wp2_with fail
        refine (pick_any b len cap _ a 3 _ (by omega) h.cur (by omega) (by omega)).mono ?_
        rintro e w2 ⟨x, rfl, x0, x1, hc, hg⟩
        replace h := h.step hlt hc hg
        clear hc hg
        go_wp2_with ((with_reducible show wpList _ _ _ (⟨none, Op.store 3 (Operand.tmp 34) _, _, _, _, _⟩ :: _) _ _); refine wpList_putA rfl _ _ _ rfl rfl _ 1 26 [.int .i64 (x)] _ _ rfl rfl h.ls rfl (by kernel_rfl) (by kernel_rfl) (by kernel_rfl) ?_; intro w9 p9 l9 n9; replace h := h.put hC p9 (s' := { s with fl := x }) (l9.trans (congrArg (fun c => some (Obj.cells c 26 (0, 0))) (show _ = stCells ({ s with fl := x }) by kernel_rfl))); clear l9 n9 p9)
        go_roundw
        case rel => exact ⟨n - 1, _, by omega, by rw [show ((n - 1 : Nat) : Int) = (n : Int) - 1 by omega], h.more (by omega)⟩
        case measure => simp [intOf]; omega
      · go_wp2_with fail
        refine (pick_any b len cap _ a 4 _ (by omega) h.cur (by omega) (by omega)).mono ?_
        rintro e w2 ⟨x, rfl, x0, x1, hc, hg⟩
        replace h := h.step hlt hc hg
        clear hc hg
        go_wp2_with ((with_reducible show wpList _ _ _ (⟨none, Op.store 3 (Operand.tmp 39) _, _, _, _, _⟩ :: _) _ _); refine wpList_putA rfl _ _ _ rfl rfl _ 2 26 [.int .i64 (x)] _ _ rfl rfl h.ls rfl (by kernel_rfl) (by kernel_rfl) (by kernel_rfl) ?_; intro w9 p9 l9 n9; replace h := h.put hC p9 (s' := { s with cl := x }) (l9.trans (congrArg (fun c => some (Obj.cells c 26 (0, 0))) (show _ = stCells ({ s with cl := x }) by kernel_rfl))); clear l9 n9 p9)
        go_roundw
        case rel => exact ⟨n - 1, _, by omega, by rw [show ((n - 1 : Nat) : Int) = (n : Int) - 1 by omega], h.more (by omega)⟩
        case measure => simp [intOf]; omega
      · go_wp2_with fail
        refine (size_any b len cap _ a _ (by omega) h.cur).mono ?_
        rintro e w2 ⟨z, rfl, hc, hg⟩
        replace h := h.step hlt hc hg
        clear hc hg
        go_wp2_with ((with_reducible show wpList _ _ _ (⟨none, Op.store 24 (Operand.tmp 44) _, _, _, _, _⟩ :: _) _ _); refine wpList_putA rfl _ _ _ rfl rfl _ 3 26 [.bool z.a, .bool z.p, .int .i64 z.n] _ _ rfl rfl h.ls rfl (by kernel_rfl) (by kernel_rfl) (by kernel_rfl) ?_; intro w9 p9 l9 n9; replace h := h.put hC p9 (s' := { s with w := z }) (l9.trans (congrArg (fun c => some (Obj.cells c 26 (0, 0))) (show _ = stCells ({ s with w := z }) by kernel_rfl))); clear l9 n9 p9)
        go_roundw
        case rel => exact ⟨n - 1, _, by omega, by rw [show ((n - 1 : Nat) : Int) = (n : Int) - 1 by omega], h.more (by omega)⟩
        case measure => simp [intOf]; omega
      · go_wp2_with fail
        refine (pick_any b len cap _ a 200 _ (by omega) h.cur (by omega) (by omega)).mono ?_
        rintro e w2 ⟨x, rfl, x0, x1, hc, hg⟩
        replace h := h.step hlt hc hg
        clear hc hg
        go_wp2_with ((with_reducible show wpList _ _ _ (⟨none, Op.store 24 (Operand.tmp 51) _, _, _, _, _⟩ :: _) _ _); refine wpList_putA rfl _ _ _ rfl rfl _ 6 26 [.bool false, .bool false, .int .i64 (16 * x)] _ _ rfl rfl h.ls rfl (by kernel_rfl) (by kernel_rfl) (by kernel_rfl) ?_; intro w9 p9 l9 n9; replace h := h.put hC p9 (s' := { s with h := ⟨false, false, 16 * x⟩ }) (l9.trans (congrArg (fun c => some (Obj.cells c 26 (0, 0))) (show _ = stCells ({ s with h := ⟨false, false, 16 * x⟩ }) by kernel_rfl))); clear l9 n9 p9)
        go_roundw
        case rel => exact ⟨n - 1, _, by omega, by rw [show ((n - 1 : Nat) : Int) = (n : Int) - 1 by omega], h.more (by omega)⟩
        case measure => simp [intOf]; omega
      · go_wp2_with fail
        refine (pick_any b len cap _ a 300 _ (by omega) h.cur (by omega) (by omega)).mono ?_
        rintro e w2 ⟨x, rfl, x0, x1, hc, hg⟩
        replace h := h.step hlt hc hg
        clear hc hg
        go_wp2_with ((with_reducible show wpList _ _ _ (⟨none, Op.store 3 (Operand.tmp 57) _, _, _, _, _⟩ :: _) _ _); refine wpList_putA rfl _ _ _ rfl rfl _ 9 26 [.int .i64 (16 * x)] _ _ rfl rfl h.ls rfl (by kernel_rfl) (by kernel_rfl) (by kernel_rfl) ?_; intro w9 p9 l9 n9; replace h := h.put hC p9 (s' := { s with mn := 16 * x }) (l9.trans (congrArg (fun c => some (Obj.cells c 26 (0, 0))) (show _ = stCells ({ s with mn := 16 * x }) by kernel_rfl))); clear l9 n9 p9)
        go_roundw
        case rel => exact ⟨n - 1, _, by omega, by rw [show ((n - 1 : Nat) : Int) = (n : Int) - 1 by omega], h.more (by omega)⟩
        case measure => simp [intOf]; omega
      · go_wp2_with fail
        refine (pick_any b len cap _ a 400 _ (by omega) h.cur (by omega) (by omega)).mono ?_
        rintro e w2 ⟨x, rfl, x0, x1, hc, hg⟩
        replace h := h.step hlt hc hg
        clear hc hg
        go_wp2_with ((with_reducible show wpList _ _ _ (⟨none, Op.store 3 (Operand.tmp 63) _, _, _, _, _⟩ :: _) _ _); refine wpList_putA rfl _ _ _ rfl rfl _ 10 26 [.int .i64 (16 * x)] _ _ rfl rfl h.ls rfl (by kernel_rfl) (by kernel_rfl) (by kernel_rfl) ?_; intro w9 p9 l9 n9; replace h := h.put hC p9 (s' := { s with mx := 16 * x }) (l9.trans (congrArg (fun c => some (Obj.cells c 26 (0, 0))) (show _ = stCells ({ s with mx := 16 * x }) by kernel_rfl))); clear l9 n9 p9)
        go_roundw
        case rel => exact ⟨n - 1, _, by omega, by rw [show ((n - 1 : Nat) : Int) = (n : Int) - 1 by omega], h.more (by omega)⟩
        case measure => simp [intOf]; omega
      · go_wp2_with fail
        refine (pick_any b len cap _ a 120 _ (by omega) h.cur (by omega) (by omega)).mono ?_
        rintro e w2 ⟨x, rfl, x0, x1, hc, hg⟩
        replace h := h.step hlt hc hg
        clear hc hg
        go_wp2_with ((with_reducible show wpList _ _ _ (⟨none, Op.store 3 (Operand.tmp 70) _, _, _, _, _⟩ :: _) _ _); refine wpList_putA rfl _ _ _ rfl rfl _ 11 26 [.int .i64 (16 * (x - 40))] _ _ rfl rfl h.ls rfl (by kernel_rfl) (by kernel_rfl) (by kernel_rfl) ?_; intro w9 p9 l9 n9; replace h := h.put hC p9 (s' := { s with mt := 16 * (x - 40) }) (l9.trans (congrArg (fun c => some (Obj.cells c 26 (0, 0))) (show _ = stCells ({ s with mt := 16 * (x - 40) }) by kernel_rfl))); clear l9 n9 p9)
        go_roundw
        case rel => exact ⟨n - 1, _, by omega, by rw [show ((n - 1 : Nat) : Int) = (n : Int) - 1 by omega], h.more (by omega)⟩
        case measure => simp [intOf]; omega
      · go_wp2_with fail
        refine (pick_any b len cap _ a 120 _ (by omega) h.cur (by omega) (by omega)).mono ?_
        rintro e w2 ⟨x, rfl, x0, x1, hc, hg⟩
        replace h := h.step hlt hc hg
        clear hc hg
        go_wp2_with ((with_reducible show wpList _ _ _ (⟨none, Op.store 3 (Operand.tmp 77) _, _, _, _, _⟩ :: _) _ _); refine wpList_putA rfl _ _ _ rfl rfl _ 15 26 [.int .i64 (16 * (x - 40))] _ _ rfl rfl h.ls rfl (by kernel_rfl) (by kernel_rfl) (by kernel_rfl) ?_; intro w9 p9 l9 n9; replace h := h.put hC p9 (s' := { s with mb := 16 * (x - 40) }) (l9.trans (congrArg (fun c => some (Obj.cells c 26 (0, 0))) (show _ = stCells ({ s with mb := 16 * (x - 40) }) by kernel_rfl))); clear l9 n9 p9)
        go_roundw
        case rel => exact ⟨n - 1, _, by omega, by rw [show ((n - 1 : Nat) : Int) = (n : Int) - 1 by omega], h.more (by omega)⟩
        case measure => simp [intOf]; omega
      · go_wp2_with fail
        refine (size_any b len cap _ a _ (by omega) h.cur).mono ?_
        rintro e w2 ⟨z, rfl, hc, hg⟩
        replace h := h.step hlt hc hg
        clear hc hg
        go_wp2_with ((with_reducible show wpList _ _ _ (⟨none, Op.store 24 (Operand.tmp 82) _, _, _, _, _⟩ :: _) _ _); refine wpList_putA rfl _ _ _ rfl rfl _ 16 26 [.bool z.a, .bool z.p, .int .i64 z.n] _ _ rfl rfl h.ls rfl (by kernel_rfl) (by kernel_rfl) (by kernel_rfl) ?_; intro w9 p9 l9 n9; replace h := h.put hC p9 (s' := { s with ml := z }) (l9.trans (congrArg (fun c => some (Obj.cells c 26 (0, 0))) (show _ = stCells ({ s with ml := z }) by kernel_rfl))); clear l9 n9 p9)
        go_roundw
        case rel => exact ⟨n - 1, _, by omega, by rw [show ((n - 1 : Nat) : Int) = (n : Int) - 1 by omega], h.more (by omega)⟩
        case measure => simp [intOf]; omega
      · go_wp2_with fail
        refine (size_any b len cap _ a _ (by omega) h.cur).mono ?_
        rintro e w2 ⟨z, rfl, hc, hg⟩
        replace h := h.step hlt hc hg
        clear hc hg
        go_wp2_with ((with_reducible show wpList _ _ _ (⟨none, Op.store 24 (Operand.tmp 87) _, _, _, _, _⟩ :: _) _ _); refine wpList_putA rfl _ _ _ rfl rfl _ 12 26 [.bool z.a, .bool z.p, .int .i64 z.n] _ _ rfl rfl h.ls rfl (by kernel_rfl) (by kernel_rfl) (by kernel_rfl) ?_; intro w9 p9 l9 n9; replace h := h.put hC p9 (s' := { s with mr := z }) (l9.trans (congrArg (fun c => some (Obj.cells c 26 (0, 0))) (show _ = stCells ({ s with mr := z }) by kernel_rfl))); clear l9 n9 p9)
        go_roundw
        case rel => exact ⟨n - 1, _, by omega, by rw [show ((n - 1 : Nat) : Int) = (n : Int) - 1 by omega], h.more (by omega)⟩
        case measure => simp [intOf]; omega
      · go_wp2_with fail
        refine (pick_any b len cap _ a 20 _ (by omega) h.cur (by omega) (by omega)).mono ?_
        rintro e w2 ⟨x, rfl, x0, x1, hc, hg⟩
        replace h := h.step hlt hc hg
        clear hc hg
        go_wp2_with ((with_reducible show wpList _ _ _ (⟨none, Op.store 3 (Operand.tmp 93) _, _, _, _, _⟩ :: _) _ _); refine wpList_putA rfl _ _ _ rfl rfl _ 19 26 [.int .i64 (16 * x)] _ _ rfl rfl h.ls rfl (by kernel_rfl) (by kernel_rfl) (by kernel_rfl) ?_; intro w9 p9 l9 n9; replace h := h.put hC p9 (s' := { s with bo := 16 * x }) (l9.trans (congrArg (fun c => some (Obj.cells c 26 (0, 0))) (show _ = stCells ({ s with bo := 16 * x }) by kernel_rfl))); clear l9 n9 p9)
        go_roundw
        case rel => exact ⟨n - 1, _, by omega, by rw [show ((n - 1 : Nat) : Int) = (n : Int) - 1 by omega], h.more (by omega)⟩
        case measure => simp [intOf]; omega
      · go_wp2_with fail
        refine (pick_any b len cap _ a 40 _ (by omega) h.cur (by omega) (by omega)).mono ?_
        rintro e w2 ⟨x, rfl, x0, x1, hc, hg⟩
        replace h := h.step hlt hc hg
        clear hc hg
        go_wp2_with ((with_reducible show wpList _ _ _ (⟨none, Op.store 3 (Operand.tmp 99) _, _, _, _, _⟩ :: _) _ _); refine wpList_putA rfl _ _ _ rfl rfl _ 20 26 [.int .i64 (16 * x)] _ _ rfl rfl h.ls rfl (by kernel_rfl) (by kernel_rfl) (by kernel_rfl) ?_; intro w9 p9 l9 n9; replace h := h.put hC p9 (s' := { s with pa := 16 * x }) (l9.trans (congrArg (fun c => some (Obj.cells c 26 (0, 0))) (show _ = stCells ({ s with pa := 16 * x }) by kernel_rfl))); clear l9 n9 p9)
        go_roundw
        case rel => exact ⟨n - 1, _, by omega, by rw [show ((n - 1 : Nat) : Int) = (n : Int) - 1 by omega], h.more (by omega)⟩
        case measure => simp [intOf]; omega
      · go_wp2_with fail
        refine (pick_any b len cap _ a 5 _ (by omega) h.cur (by omega) (by omega)).mono ?_
        rintro e w2 ⟨x, rfl, x0, x1, hc, hg⟩
        replace h := h.step hlt hc hg
        clear hc hg
        go_wp2_with ((with_reducible show wpList _ _ _ (⟨none, Op.store 3 (Operand.tmp 105) _, _, _, _, _⟩ :: _) _ _); refine wpList_putA rfl _ _ _ rfl rfl _ 21 26 [.int .i64 (1 + x)] _ _ rfl rfl h.ls rfl (by kernel_rfl) (by kernel_rfl) (by kernel_rfl) ?_; intro w9 p9 l9 n9; replace h := h.put hC p9 (s' := { s with wh := 1 + x }) (l9.trans (congrArg (fun c => some (Obj.cells c 26 (0, 0))) (show _ = stCells ({ s with wh := 1 + x }) by kernel_rfl))); clear l9 n9 p9)
        obtain ⟨s, h⟩ : ∃ s : St, DrS w _ _ b len cap _ a s := ⟨_, h⟩
        refine (pick_any b len cap _ a 3 _ (by omega) h.cur (by omega) (by omega)).mono ?_
        rintro e w2 ⟨x, rfl, x0, x1, hc, hg⟩
        replace h := h.step hlt hc hg
        clear hc hg
        go_wp2_with ((with_reducible show wpList _ _ _ (⟨none, Op.store 3 (Operand.tmp 109) _, _, _, _, _⟩ :: _) _ _); refine wpList_putA rfl _ _ _ rfl rfl _ 22 26 [.int .i64 (1 + x)] _ _ rfl rfl h.ls rfl (by kernel_rfl) (by kernel_rfl) (by kernel_rfl) ?_; intro w9 p9 l9 n9; replace h := h.put hC p9 (s' := { s with al := 1 + x }) (l9.trans (congrArg (fun c => some (Obj.cells c 26 (0, 0))) (show _ = stCells ({ s with al := 1 + x }) by kernel_rfl))); clear l9 n9 p9)
        go_roundw
        case rel => exact ⟨n - 1, _, by omega, by rw [show ((n - 1 : Nat) : Int) = (n : Int) - 1 by omega], h.more (by omega)⟩
        case measure => simp [intOf]; omega
      · go_wp2_with fail
        refine (pick_any b len cap _ a 100 _ (by omega) h.cur (by omega) (by omega)).mono ?_
        rintro e w2 ⟨x, rfl, x0, x1, hc, hg⟩
        replace h := h.step hlt hc hg
        clear hc hg
        go_wp2_with ((with_reducible show wpList _ _ _ (⟨none, Op.store 3 (Operand.tmp 17) _, _, _, _, _⟩ :: _) _ _); refine wpList_putA rfl _ _ _ rfl rfl _ 23 26 [.int .i64 (16 * x)] _ _ rfl rfl h.ls rfl (by kernel_rfl) (by kernel_rfl) (by kernel_rfl) ?_; intro w9 p9 l9 n9; replace h := h.put hC p9 (s' := { s with lh := 16 * x }) (l9.trans (congrArg (fun c => some (Obj.cells c 26 (0, 0))) (show _ = stCells ({ s with lh := 16 * x }) by kernel_rfl))); clear l9 n9 p9)
        obtain ⟨s, h⟩ : ∃ s : St, DrS w _ _ b len cap _ a s := ⟨_, h⟩
        refine (pick_any b len cap _ a 30 _ (by omega) h.cur (by omega) (by omega)).mono ?_
        rintro e w2 ⟨x, rfl, x0, x1, hc, hg⟩
        replace h := h.step hlt hc hg
        clear hc hg
        go_wp2_with ((with_reducible show wpList _ _ _ (⟨none, Op.store 3 (Operand.tmp 22) _, _, _, _, _⟩ :: _) _ _); refine wpList_putA rfl _ _ _ rfl rfl _ 24 26 [.int .i64 (16 * (x - 10))] _ _ rfl rfl h.ls rfl (by kernel_rfl) (by kernel_rfl) (by kernel_rfl) ?_; intro w9 p9 l9 n9; replace h := h.put hC p9 (s' := { s with ri := 16 * (x - 10) }) (l9.trans (congrArg (fun c => some (Obj.cells c 26 (0, 0))) (show _ = stCells ({ s with ri := 16 * (x - 10) }) by kernel_rfl))); clear l9 n9 p9)
        go_roundw
        case rel => exact ⟨n - 1, _, by omega, by rw [show ((n - 1 : Nat) : Int) = (n : Int) - 1 by omega], h.more (by omega)⟩
        case measure => simp [intOf]; omega
    · have hn1 : n = 0 := by omega
      subst hn1
      go_wp2_with fail
      refine (pick_any b len cap _ a 60 _ (by omega) h.cur (by omega) (by omega)).mono ?_
      rintro e w1 ⟨k, rfl, k0, k1, hc, hg⟩
      replace h := h.step hlt hc hg
      clear hc hg
      rcases (by omega : k = 0 ∨ k = 1 ∨ k = 2 ∨ k = 3 ∨ k = 4 ∨ 5 ≤ k) with rfl | rfl | rfl | rfl | rfl | hk5
      · have h0 := h
        replace h := h.alloc (.cells #[.int .i64 0, .int .i64 4] 3)
        go_wp2_with fail
        refine (among_any b len cap _ w1.heap.size 2 2 a _ (by omega) h.cur (by omega) (by omega) (by have := lies_lt h0.ls; omega) (two_cells w1 0 4)).mono ?_
        rintro e w2 ⟨x, rfl, hc, hg⟩
        replace h := h.step hlt hc hg
        clear hc hg h0
        go_wp2_with (first | ((with_reducible show wpList _ _ _ (⟨none, Op.store 3 (Operand.tmp 117) _, _, _, _, _⟩ :: _) _ _); refine wpList_putA rfl _ _ _ rfl rfl _ 0 26 [.int .i64 x] _ _ rfl rfl h.ls rfl (by kernel_rfl) (by kernel_rfl) (by kernel_rfl) ?_; intro w9 p9 l9 n9; replace h := h.put hC p9 (s' := { s with sh := x }) (l9.trans (congrArg (fun c => some (Obj.cells c 26 (0, 0))) (show _ = stCells ({ s with sh := x }) by kernel_rfl))); clear l9 n9 p9) | ((with_reducible show wpList _ _ _ (⟨some 141, Op.load 26 _, _, _, _, _⟩ :: _) _ _); refine wpList_load_row rfl 26 _ rfl w8.heap.size rfl _ (stCells ({ s with sh := x })) _ _ h.ls Tryz.underlying26 rfl (by kernel_rfl) ?_) | ((with_reducible show wpList _ _ _ (⟨none, Op.store 26 (Operand.tmp 2) (Operand.tmp 141), _, _, _, _⟩ :: _) _ _); refine wpList_putA rfl _ _ _ rfl rfl _ 0 26 (stCells ({ s with sh := x })).toList _ _ rfl rfl h.lr rfl (by kernel_rfl) (by kernel_rfl) (by kernel_rfl) ?_; intro w9 p9 l9 n9; have lf := l9.trans (congrArg (fun c => some (Obj.cells c 26 (0, 0))) (show _ = stCells ({ s with sh := x }) by kernel_rfl)); have cf := put_cur hC h.cur p9 (Nat.le_refl _); have gf := put_gro h.gro p9 (Nat.le_refl _); clear l9 n9 p9))
        exact bodyPost_ret (v := .agg (stCells ({ s with sh := x }))) (results_cell_row Tryz.results21 _ _ _ _ (stCells ({ s with sh := x })) _ _ rfl lf Tryz.underlying26 rfl (by kernel_rfl)) rfl ⟨_, rfl, cf.more (by omega), gf⟩
      · go_wp2_with (first | ((with_reducible show wpList _ _ _ (⟨none, Op.store 24 (Operand.tmp 121) _, _, _, _, _⟩ :: _) _ _); refine wpList_putA rfl _ _ _ rfl rfl _ 3 26 [.bool true, .bool false, .int .i64 1] _ _ rfl rfl h.ls rfl (by kernel_rfl) (by kernel_rfl) (by kernel_rfl) ?_; intro w9 p9 l9 n9; replace h := h.put hC p9 (s' := { s with w := ⟨true, false, 1⟩ }) (l9.trans (congrArg (fun c => some (Obj.cells c 26 (0, 0))) (show _ = stCells ({ s with w := ⟨true, false, 1⟩ }) by kernel_rfl))); clear l9 n9 p9) | ((with_reducible show wpList _ _ _ (⟨some 141, Op.load 26 _, _, _, _, _⟩ :: _) _ _); refine wpList_load_row rfl 26 _ rfl w8.heap.size rfl _ (stCells ({ s with w := ⟨true, false, 1⟩ })) _ _ h.ls Tryz.underlying26 rfl (by kernel_rfl) ?_) | ((with_reducible show wpList _ _ _ (⟨none, Op.store 26 (Operand.tmp 2) (Operand.tmp 141), _, _, _, _⟩ :: _) _ _); refine wpList_putA rfl _ _ _ rfl rfl _ 0 26 (stCells ({ s with w := ⟨true, false, 1⟩ })).toList _ _ rfl rfl h.lr rfl (by kernel_rfl) (by kernel_rfl) (by kernel_rfl) ?_; intro w9 p9 l9 n9; have lf := l9.trans (congrArg (fun c => some (Obj.cells c 26 (0, 0))) (show _ = stCells ({ s with w := ⟨true, false, 1⟩ }) by kernel_rfl)); have cf := put_cur hC h.cur p9 (Nat.le_refl _); have gf := put_gro h.gro p9 (Nat.le_refl _); clear l9 n9 p9))
        exact bodyPost_ret (v := .agg (stCells ({ s with w := ⟨true, false, 1⟩ }))) (results_cell_row Tryz.results21 _ _ _ _ (stCells ({ s with w := ⟨true, false, 1⟩ })) _ _ rfl lf Tryz.underlying26 rfl (by kernel_rfl)) rfl ⟨_, rfl, cf.more (by omega), gf⟩
      · have h0 := h
        replace h := h.alloc (.cells #[.int .i64 (-1), .int .i64 64000, .int .i64 64001, .int .i64 5] 3)
        go_wp2_with fail
        refine (among_any b len cap _ w1.heap.size 4 4 a _ (by omega) h.cur (by omega) (by omega) (by have := lies_lt h0.ls; omega) (four_cells w1 (-1) 64000 64001 5)).mono ?_
        rintro e w2 ⟨x, rfl, hc, hg⟩
        replace h := h.step hlt hc hg
        clear hc hg h0
        go_wp2_with (first | ((with_reducible show wpList _ _ _ (⟨none, Op.store 3 (Operand.tmp 127) _, _, _, _, _⟩ :: _) _ _); refine wpList_putA rfl _ _ _ rfl rfl _ 20 26 [.int .i64 x] _ _ rfl rfl h.ls rfl (by kernel_rfl) (by kernel_rfl) (by kernel_rfl) ?_; intro w9 p9 l9 n9; replace h := h.put hC p9 (s' := { s with pa := x }) (l9.trans (congrArg (fun c => some (Obj.cells c 26 (0, 0))) (show _ = stCells ({ s with pa := x }) by kernel_rfl))); clear l9 n9 p9) | ((with_reducible show wpList _ _ _ (⟨some 141, Op.load 26 _, _, _, _, _⟩ :: _) _ _); refine wpList_load_row rfl 26 _ rfl w8.heap.size rfl _ (stCells ({ s with pa := x })) _ _ h.ls Tryz.underlying26 rfl (by kernel_rfl) ?_) | ((with_reducible show wpList _ _ _ (⟨none, Op.store 26 (Operand.tmp 2) (Operand.tmp 141), _, _, _, _⟩ :: _) _ _); refine wpList_putA rfl _ _ _ rfl rfl _ 0 26 (stCells ({ s with pa := x })).toList _ _ rfl rfl h.lr rfl (by kernel_rfl) (by kernel_rfl) (by kernel_rfl) ?_; intro w9 p9 l9 n9; have lf := l9.trans (congrArg (fun c => some (Obj.cells c 26 (0, 0))) (show _ = stCells ({ s with pa := x }) by kernel_rfl)); have cf := put_cur hC h.cur p9 (Nat.le_refl _); have gf := put_gro h.gro p9 (Nat.le_refl _); clear l9 n9 p9))
        exact bodyPost_ret (v := .agg (stCells ({ s with pa := x }))) (results_cell_row Tryz.results21 _ _ _ _ (stCells ({ s with pa := x })) _ _ rfl lf Tryz.underlying26 rfl (by kernel_rfl)) rfl ⟨_, rfl, cf.more (by omega), gf⟩
      · have h0 := h
        replace h := h.alloc (.cells #[.int .i64 (-2), .int .i64 (-1), .int .i64 0] 3)
        go_wp2_with fail
        refine (among_any b len cap _ w1.heap.size 3 3 a _ (by omega) h.cur (by omega) (by omega) (by have := lies_lt h0.ls; omega) (three_cells w1 (-2) (-1) 0)).mono ?_
        rintro e w2 ⟨x, rfl, hc, hg⟩
        replace h := h.step hlt hc hg
        clear hc hg h0
        go_wp2_with (first | ((with_reducible show wpList _ _ _ (⟨none, Op.store 3 (Operand.tmp 133) _, _, _, _, _⟩ :: _) _ _); refine wpList_putA rfl _ _ _ rfl rfl _ 10 26 [.int .i64 x] _ _ rfl rfl h.ls rfl (by kernel_rfl) (by kernel_rfl) (by kernel_rfl) ?_; intro w9 p9 l9 n9; replace h := h.put hC p9 (s' := { s with mx := x }) (l9.trans (congrArg (fun c => some (Obj.cells c 26 (0, 0))) (show _ = stCells ({ s with mx := x }) by kernel_rfl))); clear l9 n9 p9) | ((with_reducible show wpList _ _ _ (⟨some 141, Op.load 26 _, _, _, _, _⟩ :: _) _ _); refine wpList_load_row rfl 26 _ rfl w8.heap.size rfl _ (stCells ({ s with mx := x })) _ _ h.ls Tryz.underlying26 rfl (by kernel_rfl) ?_) | ((with_reducible show wpList _ _ _ (⟨none, Op.store 26 (Operand.tmp 2) (Operand.tmp 141), _, _, _, _⟩ :: _) _ _); refine wpList_putA rfl _ _ _ rfl rfl _ 0 26 (stCells ({ s with mx := x })).toList _ _ rfl rfl h.lr rfl (by kernel_rfl) (by kernel_rfl) (by kernel_rfl) ?_; intro w9 p9 l9 n9; have lf := l9.trans (congrArg (fun c => some (Obj.cells c 26 (0, 0))) (show _ = stCells ({ s with mx := x }) by kernel_rfl)); have cf := put_cur hC h.cur p9 (Nat.le_refl _); have gf := put_gro h.gro p9 (Nat.le_refl _); clear l9 n9 p9))
        exact bodyPost_ret (v := .agg (stCells ({ s with mx := x }))) (results_cell_row Tryz.results21 _ _ _ _ (stCells ({ s with mx := x })) _ _ rfl lf Tryz.underlying26 rfl (by kernel_rfl)) rfl ⟨_, rfl, cf.more (by omega), gf⟩
      · have h0 := h
        replace h := h.alloc (.cells #[.int .i64 (-16), .int .i64 1000001, .int .i64 100001] 3)
        go_wp2_with fail
        refine (among_any b len cap _ w1.heap.size 3 3 a _ (by omega) h.cur (by omega) (by omega) (by have := lies_lt h0.ls; omega) (three_cells w1 (-16) 1000001 100001)).mono ?_
        rintro e w2 ⟨x, rfl, hc, hg⟩
        replace h := h.step hlt hc hg
        clear hc hg h0
        go_wp2_with (first | ((with_reducible show wpList _ _ _ (⟨none, Op.store 3 (Operand.tmp 140) _, _, _, _, _⟩ :: _) _ _); refine wpList_putA rfl _ _ _ rfl rfl _ 18 26 [.int .i64 x] _ _ rfl rfl h.ls rfl (by kernel_rfl) (by kernel_rfl) (by kernel_rfl) ?_; intro w9 p9 l9 n9; replace h := h.put hC p9 (s' := { s with ml := ⟨s.ml.a, s.ml.p, x⟩ }) (l9.trans (congrArg (fun c => some (Obj.cells c 26 (0, 0))) (show _ = stCells ({ s with ml := ⟨s.ml.a, s.ml.p, x⟩ }) by kernel_rfl))); clear l9 n9 p9) | ((with_reducible show wpList _ _ _ (⟨some 141, Op.load 26 _, _, _, _, _⟩ :: _) _ _); refine wpList_load_row rfl 26 _ rfl w8.heap.size rfl _ (stCells ({ s with ml := ⟨s.ml.a, s.ml.p, x⟩ })) _ _ h.ls Tryz.underlying26 rfl (by kernel_rfl) ?_) | ((with_reducible show wpList _ _ _ (⟨none, Op.store 26 (Operand.tmp 2) (Operand.tmp 141), _, _, _, _⟩ :: _) _ _); refine wpList_putA rfl _ _ _ rfl rfl _ 0 26 (stCells ({ s with ml := ⟨s.ml.a, s.ml.p, x⟩ })).toList _ _ rfl rfl h.lr rfl (by kernel_rfl) (by kernel_rfl) (by kernel_rfl) ?_; intro w9 p9 l9 n9; have lf := l9.trans (congrArg (fun c => some (Obj.cells c 26 (0, 0))) (show _ = stCells ({ s with ml := ⟨s.ml.a, s.ml.p, x⟩ }) by kernel_rfl)); have cf := put_cur hC h.cur p9 (Nat.le_refl _); have gf := put_gro h.gro p9 (Nat.le_refl _); clear l9 n9 p9))
        exact bodyPost_ret (v := .agg (stCells ({ s with ml := ⟨s.ml.a, s.ml.p, x⟩ }))) (results_cell_row Tryz.results21 _ _ _ _ (stCells ({ s with ml := ⟨s.ml.a, s.ml.p, x⟩ })) _ _ rfl lf Tryz.underlying26 rfl (by kernel_rfl)) rfl ⟨_, rfl, cf.more (by omega), gf⟩
      · have e0 : (k == 0) = false := by rw [beq_eq_false_iff_ne]; omega
        have e1 : (k == 1) = false := by rw [beq_eq_false_iff_ne]; omega
        have e2 : (k == 2) = false := by rw [beq_eq_false_iff_ne]; omega
        have e3 : (k == 3) = false := by rw [beq_eq_false_iff_ne]; omega
        have e4 : (k == 4) = false := by rw [beq_eq_false_iff_ne]; omega
        go_wp2_with (first | ((with_reducible show wpList _ _ _ (⟨some 141, Op.load 26 _, _, _, _, _⟩ :: _) _ _); refine wpList_load_row rfl 26 _ rfl w8.heap.size rfl _ (stCells s) _ _ h.ls Tryz.underlying26 rfl (by kernel_rfl) ?_) | ((with_reducible show wpList _ _ _ (⟨none, Op.store 26 (Operand.tmp 2) (Operand.tmp 141), _, _, _, _⟩ :: _) _ _); refine wpList_putA rfl _ _ _ rfl rfl _ 0 26 (stCells s).toList _ _ rfl rfl h.lr rfl (by kernel_rfl) (by kernel_rfl) (by kernel_rfl) ?_; intro w9 p9 l9 n9; have lf := l9.trans (congrArg (fun c => some (Obj.cells c 26 (0, 0))) (show _ = stCells s by kernel_rfl)); have cf := put_cur hC h.cur p9 (Nat.le_refl _); have gf := put_gro h.gro p9 (Nat.le_refl _); clear l9 n9 p9))
        exact bodyPost_ret (v := .agg (stCells s)) (results_cell_row Tryz.results21 _ _ _ _ (stCells s) _ _ rfl lf Tryz.underlying26 rfl (by kernel_rfl)) rfl ⟨_, rfl, cf.more (by omega), gf⟩
end Go.Proofs.YtojdmcennpgndaaGreatDoor

namespace Go.Proofs.YtojdmcennpgndaaGreatDoor
open Go.ChangeShapes Go.WideShapes Go.ChangeAt Go.RowKit
set_option linter.unusedVariables false
set_option linter.unusedSimpArgs false

theorem fsLoadG {P : Program} {ops : Array Oper} {rest : List Oper} {op : Oper} {a : Act} {w : World} {Q : Exit → Act → World → Prop} (hw : Region.wanted op (yielded ops a.tmps) = true) (ty : TypeId) (x : Operand) (ho : op.op = .load ty x)
    (b o : Nat) (hx : a.eval x = .pointer (some ⟨b, o, none⟩)) (cs : List Value) (d : TypeDesc) (hc : w.rangeAt b o cs)
    (hu : P.underlying ty = some d) (hd : d.isRow = true) (hi : (P.info? ty).map (·.size) = some cs.length)
    (h : wpList P ops Q rest (a.put op.dst (.agg cs.toArray)) w) : wpList P ops Q (op :: rest) a w :=
  wpList_step fun K hK => by rw [if_pos hw]; exact wp_load_mid ty x ho b o hx cs d hc hu hd hi (hK _ _ h)
theorem fsRange {W : World} {g : Nat} {c : Array Value} {t : TypeId} {fr : Nat × Nat} (h : W.heap[g]? = some (.cells c t fr)) : W.rangeAt g 0 c.toList := fun j v hj => (lies_cell h (0 + j)).trans (by rw [← hj, Nat.zero_add]; simp)
def StayF (p : Prop) : Prop := p
theorem stayF {p : Prop} (h : StayF p) : p := h
theorem fsSt_held : Tryz.prog.stoodInHeld 26 = false := by kernel_rfl
theorem fsSt_guard : Tryz.prog.eqGuardType Tryz.prog.depth 26 = false := by kernel_rfl
theorem fsSt_fields : Tryz.prog.underlying 26 = some (.struct (Tryz.prog.fieldsOf 26)) := by kernel_rfl
theorem fsSz_held : Tryz.prog.stoodInHeld 24 = false := by kernel_rfl
theorem fsSz_fields : Tryz.prog.underlying 24 = some (.struct (Tryz.prog.fieldsOf 24)) := by kernel_rfl
theorem fsSz (d : Nat) (a p : Bool) (n : Int) (w : World) :
    (Op.equalIn (d + 1 + 1) 24 (.agg #[.bool a, .bool p, .int .i64 n]) (.agg #[.bool a, .bool p, .int .i64 n])).run Tryz.prog w = .ok true w := by
  rw [run_equalIn_agg _ _ _ _ _ fsSz_fields fsSz_held]
  simp only [Program.fieldsOf, Tryz.underlying24]
  simp [Op.eqFields, go_sem, Tryz.underlying3, Tryz.underlying4]
set_option maxRecDepth 100000 in
set_option maxHeartbeats 4000000 in
theorem fsSt (s : St) (w : World) : (Op.equalIn 10000 26 (.agg (stCells s)) (.agg (stCells s))).run Tryz.prog w = .ok true w := by
  rw [run_equalIn_agg _ _ _ _ _ fsSt_fields fsSt_held]
  simp only [Program.fieldsOf, Tryz.underlying26, stCells]
  simp [Op.eqFields, go_sem, Tryz.underlying3, Tryz.underlying4, fsSz]
theorem fsNe (s : St) (w : World) : (binOp .neq 26 (.agg (stCells s)) (.agg (stCells s))).run Tryz.prog w = .ok (.bool false) w := by
  rw [run_neq_struct, fsSt]; rfl
theorem fsEq (s : St) (w : World) : (binOp .eql 26 (.agg (stCells s)) (.agg (stCells s))).run Tryz.prog w = .ok (.bool true) w := by
  rw [run_eql_struct, fsSt]; rfl
theorem fix_good {s : St} (h : styleB s = true) : styleB (fixSt s) = true ∧ fixSt (fixSt s) = fixSt s := by
  unfold fixSt
  by_cases h3 : s.sh = 3
  · rw [if_pos h3, if_pos h3]; exact ⟨h, rfl⟩
  · rw [if_neg h3]
    by_cases hf : s.fl ≠ 0
    · rw [if_pos hf]
      refine ⟨?_, ?_⟩
      · simp only [styleB, gA, gB, gC, gD, gE, Bool.and_eq_true] at h ⊢
        obtain ⟨⟨⟨⟨⟨⟨⟨⟨a1, a2⟩, a3⟩, a4⟩, a5⟩, b⟩, c⟩, d⟩, e⟩ := h
        exact ⟨⟨⟨⟨⟨⟨⟨⟨by decide, a2⟩, a3⟩, a4⟩, a5⟩, b⟩, c⟩, d⟩, e⟩
      · rw [if_neg (by simp), if_pos hf]
    · rw [if_neg hf]
      by_cases h2 : s.sh = 2
      · rw [if_pos h2]
        exact ⟨by decide, rfl⟩
      · rw [if_neg h2, if_neg h3, if_neg hf, if_neg h2]
        exact ⟨h, rfl⟩
theorem fixR_twice {s : St} (h : styleB s = true) : styleB (fixR s) = true ∧ fixR (fixR s) = fixR s := by
  have e : fixR s = fixSt s := by unfold fixR; rw [if_pos h]
  obtain ⟨g1, g2⟩ := fix_good h
  rw [e]
  refine ⟨g1, ?_⟩
  unfold fixR
  rw [if_pos g1]
  exact g2
set_option maxRecDepth 100000 in
set_option maxHeartbeats 4000000 in
theorem drawGoodStyle_any (a : Option Addr) (len cap : Nat) (w : World) (hl : len ≤ 1048576) (h : RowB w a len) :
    Calls Tryz.prog 11 #[.slice a len cap] w fun e w' => ∃ s : St, e = .returned (.agg (stCells s)) ∧ Below w.heap.size w w' := by
  have hC0 : CurOk ((w.alloc (.cells (#[.int .i64 0, .int .i64 0, .int .i64 0, .bool false, .bool false, .int .i64 0, .bool false, .bool false, .int .i64 0, .int .i64 0, .int .i64 0, .int .i64 0, .bool false, .bool false, .int .i64 0, .int .i64 0, .bool false, .bool false, .int .i64 0, .int .i64 0, .int .i64 0, .int .i64 0, .int .i64 0, .int .i64 0, .int .i64 0, .int .i64 0]) 26)).alloc (.cells #[.slice a len cap, .int .i64 0, .int .u64 0] 51)) (w.heap.size + 1) a len cap 0 := by
    have := cur_new (w.alloc (.cells (#[.int .i64 0, .int .i64 0, .int .i64 0, .bool false, .bool false, .int .i64 0, .bool false, .bool false, .int .i64 0, .int .i64 0, .int .i64 0, .int .i64 0, .bool false, .bool false, .int .i64 0, .int .i64 0, .bool false, .bool false, .int .i64 0, .int .i64 0, .int .i64 0, .int .i64 0, .int .i64 0, .int .i64 0, .int .i64 0, .int .i64 0]) 26)) a len cap hl (h.below ((Below.refl w.heap.size w).alloc (Nat.le_refl _) _))
    simpa using this
  have lr : ((w.alloc (.cells (#[.int .i64 0, .int .i64 0, .int .i64 0, .bool false, .bool false, .int .i64 0, .bool false, .bool false, .int .i64 0, .int .i64 0, .int .i64 0, .int .i64 0, .bool false, .bool false, .int .i64 0, .int .i64 0, .bool false, .bool false, .int .i64 0, .int .i64 0, .int .i64 0, .int .i64 0, .int .i64 0, .int .i64 0, .int .i64 0, .int .i64 0]) 26)).alloc (.cells #[.slice a len cap, .int .i64 0, .int .u64 0] 51)).heap[w.heap.size]? = some (.cells (stCells zeroSt) 26 (0, 0)) := heap_in (heap_at _ _ _ rfl)
  have B : Below w.heap.size w ((w.alloc (.cells (#[.int .i64 0, .int .i64 0, .int .i64 0, .bool false, .bool false, .int .i64 0, .bool false, .bool false, .int .i64 0, .int .i64 0, .int .i64 0, .int .i64 0, .bool false, .bool false, .int .i64 0, .int .i64 0, .bool false, .bool false, .int .i64 0, .int .i64 0, .int .i64 0, .int .i64 0, .int .i64 0, .int .i64 0, .int .i64 0, .int .i64 0]) 26)).alloc (.cells #[.slice a len cap, .int .i64 0, .int .u64 0] 51)) := ((Below.refl _ _).alloc (Nat.le_refl _) _).alloc (by simp) _
  clear h
  go_enter Tryz.func11, Tryz.ntmps11
  go_wp2_with fail
  refine (style_any (w.heap.size + 1) len cap 0 a _ (by omega) hC0).mono ?_
  rintro e w1 ⟨s, rfl, hC, hg⟩
  replace lr := gro_lies hg lr (by omega)
  replace B : Below w.heap.size w w1 := B.grown hg B.size (fun k hk => by cases hk; omega)
  clear hC0 hC hg
  go_wp2_with ((with_reducible show wpList _ _ _ (⟨none, Op.store 26 (Operand.tmp 2) (Operand.tmp 8), _, _, _, _⟩ :: _) _ _); refine wpList_putA rfl _ _ _ rfl rfl _ 0 26 (stCells s).toList _ _ rfl rfl lr rfl (by kernel_rfl) (by kernel_rfl) (by kernel_rfl) ?_; intro w9 p9 l9 n9; replace lr := l9.trans (congrArg (fun c => some (Obj.cells c 26 (0, 0))) (show _ = stCells s by kernel_rfl)); replace B := p9.below B (Nat.le_refl _); clear l9 n9 p9)
  exact bodyPost_ret (v := .agg (stCells s)) (results_cell_row Tryz.results11 _ _ _ _ (stCells s) _ _ rfl lr Tryz.underlying26 rfl (by kernel_rfl)) rfl ⟨s, rfl, B⟩
set_option maxRecDepth 100000 in
set_option maxHeartbeats 4000000 in
theorem drawStyle_any (a : Option Addr) (len cap : Nat) (w : World) (hl : len ≤ 1048576) (h : RowB w a len) :
    Calls Tryz.prog 4 #[.slice a len cap] w fun e w' => ∃ s : St, e = .returned (.agg (stCells s)) ∧ Below w.heap.size w w' := by
  have D := drawGoodStyle_any a len cap (w.alloc (.cells (#[.int .i64 0, .int .i64 0, .int .i64 0, .bool false, .bool false, .int .i64 0, .bool false, .bool false, .int .i64 0, .int .i64 0, .int .i64 0, .int .i64 0, .bool false, .bool false, .int .i64 0, .int .i64 0, .bool false, .bool false, .int .i64 0, .int .i64 0, .int .i64 0, .int .i64 0, .int .i64 0, .int .i64 0, .int .i64 0, .int .i64 0]) 26)) hl (h.below ((Below.refl w.heap.size w).alloc (Nat.le_refl _) _))
  have lr : (w.alloc (.cells (#[.int .i64 0, .int .i64 0, .int .i64 0, .bool false, .bool false, .int .i64 0, .bool false, .bool false, .int .i64 0, .int .i64 0, .int .i64 0, .int .i64 0, .bool false, .bool false, .int .i64 0, .int .i64 0, .bool false, .bool false, .int .i64 0, .int .i64 0, .int .i64 0, .int .i64 0, .int .i64 0, .int .i64 0, .int .i64 0, .int .i64 0]) 26)).heap[w.heap.size]? = some (.cells (stCells zeroSt) 26 (0, 0)) := heap_at _ _ _ rfl
  have B : Below w.heap.size w (w.alloc (.cells (#[.int .i64 0, .int .i64 0, .int .i64 0, .bool false, .bool false, .int .i64 0, .bool false, .bool false, .int .i64 0, .int .i64 0, .int .i64 0, .int .i64 0, .bool false, .bool false, .int .i64 0, .int .i64 0, .bool false, .bool false, .int .i64 0, .int .i64 0, .int .i64 0, .int .i64 0, .int .i64 0, .int .i64 0, .int .i64 0, .int .i64 0]) 26)) := (Below.refl _ _).alloc (Nat.le_refl _) _
  clear h
  go_enter Tryz.func4, Tryz.ntmps4
  go_wp2_with fail
  refine D.mono ?_
  rintro e w1 ⟨s, rfl, hb⟩
  replace lr := below_lies hb lr (lies_lt lr)
  replace B : Below w.heap.size w w1 := B.trans (hb.mono B.size)
  clear hb D
  go_wp2_with ((with_reducible show wpList _ _ _ (⟨none, Op.store 26 (Operand.tmp 2) (Operand.tmp 4), _, _, _, _⟩ :: _) _ _); refine wpList_putA rfl _ _ _ rfl rfl _ 0 26 (stCells s).toList _ _ rfl rfl lr rfl (by kernel_rfl) (by kernel_rfl) (by kernel_rfl) ?_; intro w9 p9 l9 n9; replace lr := l9.trans (congrArg (fun c => some (Obj.cells c 26 (0, 0))) (show _ = stCells s by kernel_rfl)); replace B := p9.below B (Nat.le_refl _); clear l9 n9 p9)
  exact bodyPost_ret (v := .agg (stCells s)) (results_cell_row Tryz.results4 _ _ _ _ (stCells s) _ _ rfl lr Tryz.underlying26 rfl (by kernel_rfl)) rfl ⟨s, rfl, B⟩
end Go.Proofs.YtojdmcennpgndaaGreatDoor
