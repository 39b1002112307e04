/-
  The model's l4Value at a name that has words.
-/
import Derived.Test.YtdgagjnkbmckoaaGreatDoorMdB
namespace Go.Proofs.YtdgagjnkbmckoaaGreatDoor
open Go.ChangeShapes Go.WideShapes Go.ChangeAt Go.RowKit
set_option linter.unusedVariables false

theorem words_apart : ∀ k, k < 18 → ∀ i, i < (wl k).length → ∀ j, j < (wl k).length → (wl k).getD i ByteArray.empty = (wl k).getD j ByteArray.empty → i = j := by decide +kernel
theorem words_few : ∀ k, k < 18 → (wl k).length ≤ 6 ∧ (isW k = true → 0 < (wl k).length) := by decide +kernel
set_option maxHeartbeats 4000000 in
theorem value_word (k : Nat) (hk : k < 18) (hw : isW k = true) (v : ByteArray) (w : World) :
    Calls Tryz.prog 9 #[.string (nmT k), .string v] w fun e w' => (∃ (n : Int) (b : Bool), e = .returned (.tuple #[.int .i64 n, .agg #[.bool false, .bool false, .int .i64 0], .bool b]) ∧ ∀ m, m < (wl k).length → (wl k).getD m ByteArray.empty = v → v.size ≠ 0 → b = true ∧ n = m) ∧ Below w.heap.size w w' := by
  have HW : ∀ w, Calls Tryz.prog 14 #[.string (nmT k)] w fun e w' => e = .returned (.slice (some ⟨w.heap.size, 0, none⟩) (wl k).length (wl k).length) ∧ w' = w.alloc (.cells ((wl k).map Value.string).toArray 9) := fun w => (words_any k hk w).mono fun e w' h => by
    rcases h with h | h
    · exact h.2
    · rw [hw] at h; exact absurd h.1 (by simp)
  have HA : Hid (∀ i, i < (wl k).length → ∀ j, j < (wl k).length → (wl k).getD i ByteArray.empty = (wl k).getD j ByteArray.empty → i = j) := words_apart k hk
  obtain ⟨l6, l0⟩ := words_few k hk
  replace l0 := l0 hw
  generalize nmT k = nm at HW ⊢
  generalize wl k = l at *
  clear hw hk
  generalize hn : l.length = n at *
  go_enter Tryz.func9, Tryz.ntmps9
  go_wp2_with (go_at_call 14; refine (HW _).mono ?_; rintro e w1 ⟨rfl, rfl⟩)
  go_loopw [21] (fun i wr => ∃ j : Nat, j ≤ n ∧ i = .int .i64 j ∧ (∀ q, q < j → l.getD q ByteArray.empty = v → v.size = 0) ∧ wr.heap[w.heap.size]? = some (.cells #[.bool false, .bool false, .int .i64 0] 23 (0, 0)) ∧ wr.heap[w.heap.size + 1]? = some (.cells (l.map Value.string).toArray 9 (0, 0)) ∧ Below w.heap.size w wr) (fun i _ => n - (intOf i).toNat)
  case atStart =>
    refine ⟨0, by omega, rfl, fun q h => absurd h (by omega), heap_in (heap_at _ _ _ rfl), heap_at _ _ _ (by simp), by repeat (first | assumption | exact Below.refl _ _ | refine Below.setCell ?_ (by first | (simp; done) | (simp; omega) | omega) _ | refine Below.alloc ?_ (by first | (simp; done) | (simp; omega)) _ | refine below_drewN ?_ _)⟩
  case round =>
    obtain ⟨j, hj, rfl, hno, lS, lN, bel⟩ := hrel
    have HNO : Hid (∀ q, q < j → l.getD q ByteArray.empty = v → v.size = 0) := hno
    have HN : Hid (l.length = n) := hn
    clear hno hn
    by_cases hlt : j < n
    rotate_left
    · go_wp2_with (first | ((with_reducible show wpList _ _ _ (⟨none, Op.store 23 _ _, _, _, _, _⟩ :: _) _ _); refine wpList_putA rfl _ _ _ rfl rfl _ 0 3 [.bool false, .bool false, .int .i64 0] _ _ rfl rfl lS rfl (by kernel_rfl) (by kernel_rfl) (by kernel_rfl) ?_; intro w9 p9 l9 n9; replace lS := l9.trans (congrArg (fun c => some (Obj.cells c 23 (0, 0))) (show _ = #[.bool false, .bool false, .int .i64 0] by kernel_rfl)); replace bel := p9.below bel (by omega); clear l9 n9 p9; have s0 : w9.cell? ⟨w.heap.size, 0, none⟩ = some (.bool false) := lies_cell lS 0; have s1 : w9.cell? ⟨w.heap.size, 1, none⟩ = some (.bool false) := lies_cell lS 1; have s2 : w9.cell? ⟨w.heap.size, 2, none⟩ = some (.int .i64 0) := lies_cell lS 2))
      exact bodyPost_ret (v := .tuple #[.int .i64 0, .agg #[.bool false, .bool false, .int .i64 0], .bool false]) (by simp [results, Tryz.results9, go_sem, s0, s1, s2]) rfl ⟨⟨0, false, rfl, fun m hm h1 h2 => absurd (HNO.out m (by omega) h1) h2⟩, bel⟩
    have c0 : wr.cell? ⟨w.heap.size + 1, j, none⟩ = some (.string (l.getD j ByteArray.empty)) := (lies_cell lN j).trans (by simp [List.getElem?_eq_getElem (show j < l.length by rw [HN.out]; exact hlt)])
    generalize hx : l.getD j ByteArray.empty = x at c0
    have HX : Hid (l.getD j ByteArray.empty = x) := hx
    clear hx
    by_cases hv : x = v
    · subst hv
      by_cases h0 : x.size = 0
      · have h1 : x.toList.isEmpty = true := by rw [ByteArray.toList_eq, List.isEmpty_iff_length_eq_zero]; simpa using h0
        have H0 : Hid (x.size = 0) := h0
        clear h0
        go_wp2_with (first | ((with_reducible show wpList _ _ _ (⟨none, Op.store 23 _ _, _, _, _, _⟩ :: _) _ _); refine wpList_putA rfl _ _ _ rfl rfl _ 0 3 [.bool false, .bool false, .int .i64 0] _ _ rfl rfl lS rfl (by kernel_rfl) (by kernel_rfl) (by kernel_rfl) ?_; intro w9 p9 l9 n9; replace lS := l9.trans (congrArg (fun c => some (Obj.cells c 23 (0, 0))) (show _ = #[.bool false, .bool false, .int .i64 0] by kernel_rfl)); replace bel := p9.below bel (by omega); clear l9 n9 p9; have s0 : w9.cell? ⟨w.heap.size, 0, none⟩ = some (.bool false) := lies_cell lS 0; have s1 : w9.cell? ⟨w.heap.size, 1, none⟩ = some (.bool false) := lies_cell lS 1; have s2 : w9.cell? ⟨w.heap.size, 2, none⟩ = some (.int .i64 0) := lies_cell lS 2))
        exact ⟨⟨j + 1, by omega, rfl, fun q _ _ => H0.out, lS, lN, bel⟩, by show n - (((j : Int) + 1)).toNat < n - ((j : Int)).toNat; omega⟩
      · have h1 : x.toList.isEmpty = false := by rw [← Bool.not_eq_true, ByteArray.toList_eq, List.isEmpty_iff_length_eq_zero]; simpa using h0
        clear h0
        go_wp2_with (first | ((with_reducible show wpList _ _ _ (⟨none, Op.store 23 _ _, _, _, _, _⟩ :: _) _ _); refine wpList_putA rfl _ _ _ rfl rfl _ 0 3 [.bool false, .bool false, .int .i64 0] _ _ rfl rfl lS rfl (by kernel_rfl) (by kernel_rfl) (by kernel_rfl) ?_; intro w9 p9 l9 n9; replace lS := l9.trans (congrArg (fun c => some (Obj.cells c 23 (0, 0))) (show _ = #[.bool false, .bool false, .int .i64 0] by kernel_rfl)); replace bel := p9.below bel (by omega); clear l9 n9 p9; have s0 : w9.cell? ⟨w.heap.size, 0, none⟩ = some (.bool false) := lies_cell lS 0; have s1 : w9.cell? ⟨w.heap.size, 1, none⟩ = some (.bool false) := lies_cell lS 1; have s2 : w9.cell? ⟨w.heap.size, 2, none⟩ = some (.int .i64 0) := lies_cell lS 2))
        exact bodyPost_ret (v := .tuple #[.int .i64 j, .agg #[.bool false, .bool false, .int .i64 0], .bool true]) (by simp [results, Tryz.results9, go_sem, s0, s1, s2]) rfl ⟨⟨j, true, rfl, fun m hm h1 h2 => ⟨rfl, by rw [HA.out m hm j hlt (h1.trans HX.out.symm)]⟩⟩, bel⟩
    · have h1 : (x.toList == v.toList) = false := by
        rw [beq_eq_false_iff_ne]
        intro h
        apply hv
        rw [ByteArray.toList_eq, ByteArray.toList_eq] at h
        exact ByteArray.ext (Array.toList_inj.1 h)
      have HV : Hid (x ≠ v) := hv
      clear hv
      go_wp2_with (first | ((with_reducible show wpList _ _ _ (⟨none, Op.store 23 _ _, _, _, _, _⟩ :: _) _ _); refine wpList_putA rfl _ _ _ rfl rfl _ 0 3 [.bool false, .bool false, .int .i64 0] _ _ rfl rfl lS rfl (by kernel_rfl) (by kernel_rfl) (by kernel_rfl) ?_; intro w9 p9 l9 n9; replace lS := l9.trans (congrArg (fun c => some (Obj.cells c 23 (0, 0))) (show _ = #[.bool false, .bool false, .int .i64 0] by kernel_rfl)); replace bel := p9.below bel (by omega); clear l9 n9 p9; have s0 : w9.cell? ⟨w.heap.size, 0, none⟩ = some (.bool false) := lies_cell lS 0; have s1 : w9.cell? ⟨w.heap.size, 1, none⟩ = some (.bool false) := lies_cell lS 1; have s2 : w9.cell? ⟨w.heap.size, 2, none⟩ = some (.int .i64 0) := lies_cell lS 2))
      refine ⟨⟨j + 1, by omega, rfl, fun q h2 h3 => ?_, lS, lN, bel⟩, by show n - (((j : Int) + 1)).toNat < n - ((j : Int)).toNat; omega⟩
      by_cases e : q = j
      · subst e; exact absurd (HX.out.symm.trans h3) HV.out
      · exact HNO.out q (by omega) h3
end Go.Proofs.YtdgagjnkbmckoaaGreatDoor
