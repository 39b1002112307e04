/-
  The program's method 'tell' on a size and on a length.
-/
import Derived.Test.YtojdmcennpgndaaGreatDoorTell2
import Derived.LoopN
namespace Go.Proofs.YtojdmcennpgndaaGreatDoor
open Go.ChangeShapes Go.WideShapes Go.ChangeAt Go.RowKit
set_option linter.unusedVariables false

set_option maxHeartbeats 2000000 in
theorem tellS_any (nm : ByteArray) (b o : Nat) (lo hi n : Int) (np a p : Bool) (w : World) (E : Env w) (g0 : -1000000 ≤ n) (g1 : n ≤ 1000000) (hc0 : w.cell? ⟨b, o, none⟩ = some (.bool a)) (hc1 : w.cell? ⟨b, o + 1, none⟩ = some (.bool p)) (hc2 : w.cell? ⟨b, o + 2, none⟩ = some (.int .i64 n)) :
    Calls Tryz.prog 25 #[.agg #[.string nm, .pointer none, .pointer (some ⟨b, o, none⟩), .int .i64 lo, .int .i64 hi, .bool np]] w fun e w' => Told (toldB a p n) (toldT a p n) e ∧ Below w.heap.size w w' := by
  have hb : b < w.heap.size := World.block_lt_of_cell? _ ⟨b, o, none⟩ hc0
  have bel0 : Below w.heap.size w (w.alloc (.cells #[.string nm, .pointer none, .pointer (some ⟨b, o, none⟩), .int .i64 lo, .int .i64 hi, .bool np] 62)) := (Below.refl _ _).alloc (Nat.le_refl _) _
  have TZ := tellSize_any a p n (w.alloc (.cells #[.string nm, .pointer none, .pointer (some ⟨b, o, none⟩), .int .i64 lo, .int .i64 hi, .bool np] 62)) (E.below bel0 (Nat.le_refl _)) g0 g1
  generalize toldT a p n = t at TZ ⊢
  generalize toldB a p n = k at TZ ⊢
  clear E
  go_enter Tryz.func25, Tryz.ntmps25
  go_wp2_with (go_at_call 42; refine TZ.mono ?_; rintro e w1 ⟨he, hb1⟩; rcases he with ⟨hk, rfl⟩ | ⟨hk, x, v, rfl⟩)
  · go_ret2
    exact ⟨.inl ⟨hk, rfl⟩, bel0.trans (hb1.mono (by simp))⟩
  · go_ret2
    exact ⟨.inr ⟨hk, x, v, rfl⟩, bel0.trans (hb1.mono (by simp))⟩

set_option maxRecDepth 100000 in
set_option maxHeartbeats 2000000 in
theorem tellL_any (nm : ByteArray) (b o : Nat) (lo hi n : Int) (np : Bool) (w : World) (E : Env w) (hc : w.cell? ⟨b, o, none⟩ = some (.int .i64 n))
    (WO : ∀ w, Calls Tryz.prog 43 #[.string nm] w fun e w' => e = .returned (.map none) ∧ w' = w) :
    Calls Tryz.prog 25 #[.agg #[.string nm, .pointer (some ⟨b, o, none⟩), .pointer none, .int .i64 lo, .int .i64 hi, .bool np]] w fun e w' => Told (pixB n) (pixText n) e ∧ Below w.heap.size w w' := by
  have hb : b < w.heap.size := World.block_lt_of_cell? _ ⟨b, o, none⟩ hc
  have hne : ¬ b = w.heap.size + 1 := by omega
  have bel0 : Below w.heap.size w ((w.alloc (.cells #[.string nm, .pointer (some ⟨b, o, none⟩), .pointer none, .int .i64 lo, .int .i64 hi, .bool np] 62)).alloc (.mapIter none 0 #[] 0)) := ((Below.refl _ _).alloc (Nat.le_refl _) _).alloc (by simp) _
  have TZ := tellLength_any n ((w.alloc (.cells #[.string nm, .pointer (some ⟨b, o, none⟩), .pointer none, .int .i64 lo, .int .i64 hi, .bool np] 62)).alloc (.mapIter none 0 #[] 0)) (E.below bel0 (Nat.le_refl _))
  generalize pixText n = t at TZ ⊢
  generalize pixB n = k at TZ ⊢
  have hrg := run_range_nilMap (P := Tryz.prog) (w.alloc (.cells #[.string nm, .pointer (some ⟨b, o, none⟩), .pointer none, .int .i64 lo, .int .i64 hi, .bool np] 62)) 86 9 3 Tryz.underlying86
  have hnx : ∀ ty, (Instr.next (.pointer (some ⟨(w.alloc (.cells #[.string nm, .pointer (some ⟨b, o, none⟩), .pointer none, .int .i64 lo, .int .i64 hi, .bool np] 62)).heap.size, 0, none⟩)) false ty).run Tryz.prog ((w.alloc (.cells #[.string nm, .pointer (some ⟨b, o, none⟩), .pointer none, .int .i64 lo, .int .i64 hi, .bool np] 62)).alloc (.mapIter none 0 #[] 0)) = _ := fun ty => run_next_nilMap (w.alloc (.cells #[.string nm, .pointer (some ⟨b, o, none⟩), .pointer none, .int .i64 lo, .int .i64 hi, .bool np] 62)) ty 0 0 #[]
  have hsz : (w.alloc (.cells #[.string nm, .pointer (some ⟨b, o, none⟩), .pointer none, .int .i64 lo, .int .i64 hi, .bool np] 62)).heap.size = w.heap.size + 1 := by simp
  rw [hsz] at hrg hnx
  clear E hsz
  go_enter Tryz.func25, Tryz.ntmps25
  go_wp2_with (go_at_call 43; refine (WO _).mono ?_; rintro e w1 ⟨rfl, rfl⟩)
  refine wp_loop_rounds 1 ?_
  rw [rounds_succ]
  go_wp2_with (go_at_call 44; refine TZ.mono ?_; rintro e w1 ⟨he, hb1⟩; rcases he with ⟨hk, rfl⟩ | ⟨hk, x, v, rfl⟩)
  · go_ret2
    exact ⟨.inl ⟨hk, rfl⟩, bel0.trans (hb1.mono (by simp; omega))⟩
  · go_ret2
    exact ⟨.inr ⟨hk, x, v, rfl⟩, bel0.trans (hb1.mono (by simp; omega))⟩
end Go.Proofs.YtojdmcennpgndaaGreatDoor
