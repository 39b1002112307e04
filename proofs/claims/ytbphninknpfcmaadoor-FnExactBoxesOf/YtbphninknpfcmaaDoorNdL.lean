/-
  The law's own marking of a row of nodes: it writes into that row alone, and counts on.
-/
import Derived.Test.YtbphninknpfcmaaDoorNdK
namespace Go.Proofs.YtbphninknpfcmaaDoor
open Go.ChangeShapes Go.WideShapes Go.ChangeAt Go.RowKit
set_option linter.unusedVariables false

theorem nd_grown_trans {w w1 w2 : World} {b : Nat} (h : w.grownBy w1 (some b)) (k : w1.grownBy w2 (some b)) : w.grownBy w2 (some b) :=
  ⟨k.os.trans h.os, k.tape.trans h.tape, k.output.trans h.output, Nat.le_trans h.size k.size, fun i hi hne => (k.block i (Nat.lt_of_lt_of_le hi h.size) hne).trans (h.block i hi hne)⟩
theorem nd_grown_set (w : World) (b o : Nat) (v : Value) : w.grownBy (w.setCell ⟨b, o, none⟩ v) (some b) :=
  ⟨rfl, rfl, rfl, by simp, fun k _ hne => Below.heap_setCell w ⟨b, o, none⟩ v k (by simpa using hne)⟩
theorem nd_grown_below {w w1 w2 : World} {b : Nat} (h : w.grownBy w1 (some b)) (k : Below w1.heap.size w1 w2) : w.grownBy w2 (some b) :=
  ⟨k.os.trans h.os, k.tape.trans h.tape, k.output.trans h.output, Nat.le_trans h.size k.size, fun i hi hne => (k.block i (Nat.lt_of_lt_of_le hi h.size)).trans (h.block i hi hne)⟩
theorem nd_grown_refl (w : World) (b : Nat) : w.grownBy w (some b) := ⟨rfl, rfl, rfl, Nat.le_refl _, fun _ _ _ => rfl⟩
theorem nd_there_lt {w : World} {g N : Nat} (h : w.there g 0 N) (h0 : 0 < N) : g < w.heap.size := by
  obtain ⟨u, hu⟩ := Option.isSome_iff_exists.1 (h 0 h0).1
  exact World.block_lt_of_cell? _ _ hu

/-- One cell stored into a row that may be written: which world it is does not matter. -/
theorem wpList_store_any {P : Program} {ops : Array Oper} {rest : List Oper} {o : Oper} {a : Act} {w : World} {Q : Exit → Act → World → Prop} (hgd : o.guard = none) (ty : TypeId) (x y : Operand) (ho : o.op = .store ty x y)
    (hd : o.dst = none) (g i N : Nat) (v : Value) (hx : a.eval x = .pointer (some ⟨g, i, none⟩)) (hy : (a.eval y).cells.toList = [v]) (hi : (P.info? ty).map (·.size) = some 1) (h1 : v.oneCell' = true)
    (ht : w.there g 0 N) (hl : i < N) (h : ∀ w', w'.there g 0 N → w.grownBy w' (some g) → wpList P ops Q rest a w') : wpList P ops Q (o :: rest) a w := by
  refine wpList_plain hgd fun K hK => ?_
  unfold Oper.wp execOp
  have hj := ht i hl
  rw [Nat.zero_add] at hj
  have hs := run_storeCells_cells (P := P) g i [v] 0 w (fun j hj' => by obtain rfl : j = 0 := (by simpa using hj'); simpa using hj.1) (fun j hj' => by obtain rfl : j = 0 := (by simpa using hj'); simpa using hj.2) (fun u hu => by rw [List.mem_singleton] at hu; subst hu; exact h1)
  simp only [Nat.add_zero] at hs
  cases hq : P.info? ty with
  | none => simp [hq] at hi
  | some inf =>
    have hsz : (a.eval y).cells.size = inf.size := by
      have := congrArg List.length hy
      simp [hq] at hi
      simp at this
      omega
    have hsv : (storeVar ty ⟨g, i, none⟩ (a.eval y)).run P w = .ok () (w.setCells g i [v]) := by
      simp [storeVar, sizeOf, typeInfo, hq, hsz, hy, hs]
    simp only [ho, hx, Instr.storeAt, Instr.sureAddr, Sem.run_bind, Sem.run_pure, Result.andThen_ok, hsv]
    refine hK _ _ ?_
    rw [hd]
    exact h _ (World.there_setCells ht _ _ _) (nd_grown_set w g i v)

set_option maxRecDepth 100000 in
set_option maxHeartbeats 8000000 in
theorem markNodes_any (g n cap : Nat) (w : World) (hn : n ≤ 1048576) (ht : w.there g 0 (n * 28)) :
    Calls Tryd.prog 14 #[.slice (some ⟨g, 0, none⟩) n cap, .int .i64 1] w fun e w' => (∃ z : Int, e = .returned (.int .i64 z) ∧ 0 ≤ z) ∧ w.grownBy w' (some g) := by
  go_enter Tryd.func14, Tryd.ntmps14
  go_wp2_with fail
  go_loopw [1, 5] (fun q i wr => ∃ j : Nat, j ≤ n ∧ i = .int .i64 j ∧ q = .int .i64 ((1 + 28 * j : Nat) : Int) ∧ wr.there g 0 (n * 28) ∧ w.grownBy wr (some g)) (fun _ i _ => n - (intOf i).toNat)
  case atStart => exact ⟨0, Nat.zero_le _, rfl, rfl, ht, nd_grown_refl _ _⟩
  case round =>
    obtain ⟨j, hj, rfl, rfl, hth, hgr⟩ := hrel
    clear ht
    by_cases hlt : j < n
    · obtain ⟨m, hm⟩ : ∃ m, m = 1 + 28 * j := ⟨_, rfl⟩
      rw [← hm]
      have MT := markText_any (m + 1) 
      have hm0 : (0 : Int) ≤ (m : Int) := by omega
      have hm1 : (m : Int) ≤ 30000000 := by omega
      have HM : Hid (m = 1 + 28 * j) := hm
      clear hm
      rw [show ((m + 1 : Nat) : Int) = (m : Int) + 1 by omega] at MT
      go_wp2_with (first
        | (with_reducible show wpList _ _ _ (⟨none, Op.store 3 _ _, _, _, _, _⟩ :: _) _ _; refine wpList_store_any rfl 3 _ _ rfl rfl g _ (n * 28) _ rfl rfl (by kernel_rfl) rfl hth (by omega) ?_; intro w2 hth2 hg2; replace hgr := nd_grown_trans hgr hg2; replace hth := hth2; clear hth2 hg2)
        | (with_reducible show wpList _ _ _ (⟨none, Op.store 4 _ _, _, _, _, _⟩ :: _) _ _; refine wpList_store_any rfl 4 _ _ rfl rfl g _ (n * 28) _ rfl rfl (by kernel_rfl) rfl hth (by omega) ?_; intro w2 hth2 hg2; replace hgr := nd_grown_trans hgr hg2; replace hth := hth2; clear hth2 hg2)
        | (with_reducible show wpList _ _ _ (⟨none, Op.store 9 _ _, _, _, _, _⟩ :: _) _ _; refine wpList_store_any rfl 9 _ _ rfl rfl g _ (n * 28) _ rfl rfl (by kernel_rfl) rfl hth (by omega) ?_; intro w2 hth2 hg2; replace hgr := nd_grown_trans hgr hg2; replace hth := hth2; clear hth2 hg2)
        | (go_at_call 40; refine (MT _ (by omega) (by omega)).mono ?_; rintro e w3 ⟨⟨s, rfl⟩, hb⟩; replace hgr := nd_grown_below hgr hb; replace hth := there_below hth hb (nd_there_lt hth (by omega)); clear hb))
      go_roundw
      case rel => exact ⟨j + 1, by omega, by go_num, by have := HM.out; first | rfl | (congr 1; omega), hth, hgr⟩
      case measure => simp [intOf]; omega
    · go_wp2
      go_ret
      exact ⟨⟨_, rfl, by omega⟩, hgr⟩
end Go.Proofs.YtbphninknpfcmaaDoor
