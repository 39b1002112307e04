/-
  The program's method 'same' on two things of a style: two numbers, two sizes.
-/
import Derived.Test.YtojdmcennpgndaaGreatDoorStyN
import Derived.Laws.StructEq
namespace Go.Proofs.YtojdmcennpgndaaGreatDoor
open Go.ChangeShapes Go.WideShapes Go.ChangeAt Go.RowKit
set_option linter.unusedVariables false

theorem eqSz_held : Tryz.prog.stoodInHeld 24 = false := by kernel_rfl
theorem eqSz_guard : Tryz.prog.eqGuardType Tryz.prog.depth 24 = false := by kernel_rfl
theorem eqSz_fields : Tryz.prog.underlying 24 = some (.struct (Tryz.prog.fieldsOf 24)) := by kernel_rfl
theorem eqSz_run (a p a2 p2 : Bool) (n n2 : Int) (w : World) :
    (binOp .eql 24 (.agg #[.bool a, .bool p, .int .i64 n]) (.agg #[.bool a2, .bool p2, .int .i64 n2])).run Tryz.prog w = .ok (.bool (decide (a = a2 ∧ p = p2 ∧ n = n2))) w := by
  rw [run_eql_struct, run_equalIn_agg _ _ _ _ _ eqSz_fields eqSz_held]
  simp only [Program.fieldsOf, Tryz.underlying24]
  by_cases h1 : a = a2 <;> by_cases h2 : p = p2 <;> by_cases h3 : n = n2 <;> simp [Op.eqFields, go_sem, Tryz.underlying3, Tryz.underlying4, h1, h2, h3]

set_option maxHeartbeats 2000000 in
theorem sameN_any (nm nm2 : ByteArray) (b o b2 o2 : Nat) (lo hi n lo2 hi2 n2 : Int) (np np2 : Bool) (w : World) (hc : w.cell? ⟨b, o, none⟩ = some (.int .i64 n)) (hc2 : w.cell? ⟨b2, o2, none⟩ = some (.int .i64 n2)) :
    Calls Tryz.prog 24 #[.agg #[.string nm, .pointer (some ⟨b, o, none⟩), .pointer none, .int .i64 lo, .int .i64 hi, .bool np], .agg #[.string nm2, .pointer (some ⟨b2, o2, none⟩), .pointer none, .int .i64 lo2, .int .i64 hi2, .bool np2]] w fun e w' => e = .returned (.bool (decide (n = n2))) ∧ Below w.heap.size w w' := by
  have hb : b < w.heap.size := World.block_lt_of_cell? _ ⟨b, o, none⟩ hc
  have hb2 : b2 < w.heap.size := World.block_lt_of_cell? _ ⟨b2, o2, none⟩ hc2
  have ne1 : ¬ b = w.heap.size + 1 := by omega
  have ne2 : ¬ b2 = w.heap.size + 1 := by omega
  go_enter Tryz.func24, Tryz.ntmps24
  go_wp2
  go_quiet (fail)
  all_goals
    go_wp2
    go_ret
    exact ⟨ret_bool (by first | rfl | simp), below_drewN (((Below.refl _ _).alloc (Nat.le_refl _) _).alloc (by simp) _) _⟩

set_option maxHeartbeats 2000000 in
theorem sameS_any (nm nm2 : ByteArray) (b o b2 o2 : Nat) (lo hi n lo2 hi2 n2 : Int) (np np2 a p a2 p2 : Bool) (w : World) (hc0 : w.cell? ⟨b, o, none⟩ = some (.bool a)) (hc1 : w.cell? ⟨b, o + 1, none⟩ = some (.bool p)) (hc2 : w.cell? ⟨b, o + 2, none⟩ = some (.int .i64 n))
    (hd0 : w.cell? ⟨b2, o2, none⟩ = some (.bool a2)) (hd1 : w.cell? ⟨b2, o2 + 1, none⟩ = some (.bool p2)) (hd2 : w.cell? ⟨b2, o2 + 2, none⟩ = some (.int .i64 n2)) :
    Calls Tryz.prog 24 #[.agg #[.string nm, .pointer none, .pointer (some ⟨b, o, none⟩), .int .i64 lo, .int .i64 hi, .bool np], .agg #[.string nm2, .pointer none, .pointer (some ⟨b2, o2, none⟩), .int .i64 lo2, .int .i64 hi2, .bool np2]] w fun e w' => e = .returned (.bool (decide (a = a2 ∧ p = p2 ∧ n = n2))) ∧ Below w.heap.size w w' := by
  have hb : b < w.heap.size := World.block_lt_of_cell? _ ⟨b, o, none⟩ hc0
  have hb2 : b2 < w.heap.size := World.block_lt_of_cell? _ ⟨b2, o2, none⟩ hd0
  have ne1 : ¬ b = w.heap.size + 1 := by omega
  have ne2 : ¬ b2 = w.heap.size + 1 := by omega
  have EQ := eqSz_run a p a2 p2 n n2
  have GD := fun (w : World) (x y : Operand) => run_eqGuard_agg (P := Tryz.prog) w .eql 24 x y #[.bool a, .bool p, .int .i64 n] #[.bool a2, .bool p2, .int .i64 n2] eqSz_guard
  generalize decide (a = a2 ∧ p = p2 ∧ n = n2) = r at EQ ⊢
  go_enter Tryz.func24, Tryz.ntmps24
  go_wp2
  go_quiet (fail)
  all_goals
    go_wp2
    go_ret
    exact ⟨ret_bool (by first | rfl | simp), below_drewN (((Below.refl _ _).alloc (Nat.le_refl _) _).alloc (by simp) _) _⟩
end Go.Proofs.YtojdmcennpgndaaGreatDoor
