/-
  Rows of ints that a call has made: what keeps them, and the contracts of the laws' own marking and looking again.
-/
import Derived.Test.YtjknloimdbcogaaInts
import Derived.Laws.OwnMore
import Derived.Maps.AppendAt
namespace Go.Proofs.Ytjknloimdbcogaa
open Go.ChangeShapes Go.WideShapes Go.ChangeAt Go.RowKit
set_option linter.unusedVariables false

/-- The slice v owns the numbers zs, in a block from B on. -/
def OwnI (w : World) (B : Nat) (v : Value) (zs : List Int) : Prop := w.ownsRow B 3 1 v zs.length (zs.map (Value.int .i64))
theorem ownI_nil (w : World) (B : Nat) : OwnI w B (.slice none 0 0) [] := World.ownsRow_nil w B 3 1
theorem OwnI.base {w : World} {B : Nat} {v : Value} {zs : List Int} (h : OwnI w B v zs) (k : Nat) (hk : v.ownBlock = some k) : B ≤ k := (h.lt k hk).1
theorem OwnI.row {w : World} {B : Nat} {v : Value} {zs : List Int} (h : OwnI w B v zs) : ∃ (a : Option Addr) (cap : Nat), v = .slice a zs.length cap ∧ Row w a zs := by
  have h' : w.ownsRow B 3 1 v zs.length (zs.map (Value.int .i64)) := h
  rcases h.2 with ⟨rfl, hn⟩ | ⟨g, cap, cur, rfl, _, _, _, _, _, _⟩
  · have : zs = [] := List.eq_nil_of_length_eq_zero hn
    subst this
    exact ⟨none, 0, rfl, .inl rfl⟩
  · refine ⟨some ⟨g, 0, none⟩, cap, rfl, .inr ⟨g, 0, rfl, fun i hi => ?_⟩⟩
    rw [Nat.zero_add, h'.cellAt i (by omega), List.getElem?_map, List.getD_eq_getElem?_getD, List.getElem?_eq_getElem hi]
    rfl
theorem OwnI.below {w w' : World} {B C : Nat} {v : Value} {zs : List Int} (h : OwnI w B v zs) (hb : Below C w w') (hlt : ∀ k, v.ownBlock = some k → k < C) : OwnI w' B v zs := by
  refine ⟨h.1, ?_⟩
  rcases h.2 with hn | ⟨g, cap, cur, rfl, hbg, hg, rest⟩
  · exact .inl hn
  · exact .inr ⟨g, cap, cur, rfl, hbg, (hb.block g (hlt g rfl)).trans hg, rest⟩
theorem OwnI.keep {w w' : World} {B : Nat} {v : Value} {zs : List Int} (h : OwnI w B v zs) (hb : Below w.heap.size w w') : OwnI w' B v zs := h.below hb fun k hk => (h.lt k hk).2
theorem OwnI.snoc {w : World} {B n : Nat} {v : Value} {zs : List Int} {z : Int} (hn : n = zs.length) (h : w.ownsRow B 3 1 v (n + 1) (zs.map (Value.int .i64) ++ [.int .i64 z])) : OwnI w B v (zs ++ [z]) := by
  subst hn
  unfold OwnI
  rw [List.length_append, List.map_append]
  exact h
theorem one_i64 (z : Int) : ∀ u ∈ [Value.int .i64 z], u.oneCell' = true := by
  intro u hu
  rw [List.mem_singleton] at hu
  subst hu
  rfl

/-- The numbers k, k + 1, .. -/
def marks (k n : Nat) : List Int := (List.range n).map fun j => ((k + j : Nat) : Int)
theorem marks_len (k n : Nat) : (marks k n).length = n := by simp [marks]
theorem marks_at (k n j : Nat) (h : j < n) : (marks k n).getD j 0 = ((k + j : Nat) : Int) := by simp [marks, List.getD_eq_getElem?_getD, h]
def markTo (zs : List Int) (k j : Nat) : List Int := marks k j ++ zs.drop j
theorem markTo_zero (zs : List Int) (k : Nat) : markTo zs k 0 = zs := by simp [markTo, marks]
theorem markTo_all (zs : List Int) (k : Nat) : markTo zs k zs.length = marks k zs.length := by simp [markTo]
theorem markTo_len (zs : List Int) (k j : Nat) (h : j ≤ zs.length) : (markTo zs k j).length = zs.length := by
  rw [markTo, List.length_append, marks_len, List.length_drop]; omega
theorem markTo_next (zs : List Int) (k j : Nat) (h : j < zs.length) : (markTo zs k j).set j ((k + j : Nat) : Int) = markTo zs k (j + 1) := by
  unfold markTo
  rw [List.set_append_right _ _ (by rw [marks_len]; exact Nat.le_refl _), marks_len, Nat.sub_self, List.drop_eq_getElem_cons h]
  simp only [List.set_cons_zero, marks, List.range_succ, List.map_append, List.append_assoc]
  rfl

set_option maxHeartbeats 1000000 in
theorem mark_any (B k n : Nat) (v : Value) (zs : List Int) (w : World) (hn : n = zs.length) (hl : n ≤ 1048576) (hk : k ≤ 1048576) (h : OwnI w B v zs) :
    Calls Try.prog 11 #[v, .int .i64 k] w fun e w' => e = .returned (.int .i64 ((k + n : Nat) : Int)) ∧ OwnI w' B v (marks k n) ∧ Below B w w' := by
  have HN : Hid (n = zs.length) := hn
  have h' : w.ownsRow B 3 1 v n (zs.map (Value.int .i64)) := by rw [hn]; exact h
  clear hn
  rcases h'.2 with ⟨rfl, h0⟩ | ⟨g, cap, cur, rfl, hbg, _⟩
  · subst h0
    go_enter Try.func11, Try.ntmps11
    go_wp2_with fail
    refine wp_loop_rounds 1 ?_
    rw [rounds_succ]
    go_wp2
    go_ret
    exact ⟨rfl, ownI_nil _ _, Below.refl _ _⟩
  · clear h
    go_enter Try.func11, Try.ntmps11
    go_wp2_with fail
    go_loopw [1, 5] (fun m i wr => ∃ j : Nat, j ≤ n ∧ i = .int .i64 j ∧ m = .int .i64 ((k + j : Nat) : Int) ∧ wr.ownsRow B 3 1 (.slice (some ⟨g, 0, none⟩) n cap) n ((markTo zs k j).map (Value.int .i64)) ∧ Below B w wr) (fun _ i _ => n - (intOf i).toNat)
    case atStart => exact ⟨0, Nat.zero_le _, rfl, rfl, by rw [markTo_zero]; exact h', Below.refl _ _⟩
    case round =>
      obtain ⟨j, hj, rfl, rfl, hown, hbw⟩ := hrel
      clear h'
      by_cases hlt : j < n
      · have hfz := hown.frozenAt j
        have hll := markTo_len zs k j (by rw [← HN.out]; exact hj)
        obtain ⟨old, hold⟩ : ∃ old, wr.cell? ⟨g, j, none⟩ = some old := ⟨_, (hown.cellAt j (by omega)).trans (List.getElem?_eq_getElem (by rw [List.length_map, hll, ← HN.out]; exact hlt))⟩
        have hst := (hown.stored j (.int .i64 ((k + j : Nat) : Int))).1
        rw [← List.map_set, markTo_next zs k j (by rw [← HN.out]; exact hlt)] at hst
        have hbw2 := hbw.setCell (p := ⟨g, j, none⟩) hbg (.int .i64 ((k + j : Nat) : Int))
        obtain ⟨m, hm⟩ : ∃ m : Nat, m = k + j := ⟨_, rfl⟩
        rw [← hm] at hst hbw2 ⊢
        have HM : Hid (m = k + j) := hm
        have hm2 : m ≤ 2097152 := by omega
        clear hown hbw hll hm
        go_wp2
        go_roundw
        case rel => exact ⟨j + 1, by omega, by go_num, by have := HM.out; rw [show ((k + (j + 1) : Nat) : Int) = (m : Int) + 1 by omega], hst, hbw2⟩
        case measure => simp [intOf]; omega
      · have e : j = n := by omega
        subst e
        have hmk : markTo zs k j = marks k j := by rw [HN.out, markTo_all]
        rw [hmk] at hown
        have ho : OwnI wr B (.slice (some ⟨g, 0, none⟩) j cap) (marks k j) := by unfold OwnI; rw [marks_len]; exact hown
        clear hown hmk
        go_wp2
        go_ret
        exact ⟨rfl, ho, hbw⟩

set_option maxHeartbeats 1000000 in
theorem held_any (k n : Nat) (a : Option Addr) (cap : Nat) (w : World) (hl : n ≤ 1048576) (hk : k ≤ 1048576) (h : Row w a (marks k n)) :
    Calls Try.prog 12 #[.slice a n cap, .int .i64 k] w fun e w' => e = .returned (.int .i64 ((k + n : Nat) : Int)) ∧ Below w.heap.size w w' := by
  rcases h with h0 | ⟨g, off, rfl, hc⟩
  · have e : n = 0 := by have := marks_len k n; rw [h0] at this; exact this.symm
    subst e
    clear h0
    go_enter Try.func12, Try.ntmps12
    go_wp2_with fail
    refine wp_loop_rounds 1 ?_
    rw [rounds_succ]
    go_wp2
    go_ret
    exact ⟨rfl, Below.refl _ _⟩
  · rw [marks_len] at hc
    have HC : Hid (∀ j, j < n → w.cell? ⟨g, off + j, none⟩ = some (.int .i64 ((k + j : Nat) : Int))) := fun j hj => (hc j hj).trans (by rw [marks_at k n j hj])
    clear hc
    go_enter Try.func12, Try.ntmps12
    go_wp2_with fail
    go_loopw [1, 5] (fun m i wr => ∃ j : Nat, j ≤ n ∧ i = .int .i64 j ∧ m = .int .i64 ((k + j : Nat) : Int) ∧ Below w.heap.size w wr) (fun _ i _ => n - (intOf i).toNat)
    case atStart => exact ⟨0, Nat.zero_le _, rfl, rfl, Below.refl _ _⟩
    case round =>
      obtain ⟨j, hj, rfl, rfl, hbw⟩ := hrel
      by_cases hlt : j < n
      · have hcx : wr.cell? ⟨g, off + j, none⟩ = some (.int .i64 ((k + j : Nat) : Int)) := (hbw.cell (block_lt (HC.out j hlt))).trans (HC.out j hlt)
        obtain ⟨m, hm⟩ : ∃ m : Nat, m = k + j := ⟨_, rfl⟩
        rw [← hm] at hcx ⊢
        have HM : Hid (m = k + j) := hm
        have hm2 : m ≤ 2097152 := by omega
        clear hm
        go_wp2
        go_roundw
        case rel => exact ⟨j + 1, by omega, by go_num, by have := HM.out; rw [show ((k + (j + 1) : Nat) : Int) = (m : Int) + 1 by omega], hbw⟩
        case measure => simp [intOf]; omega
      · have e : j = n := by omega
        subst e
        go_wp2
        go_ret
        exact ⟨rfl, hbw⟩
end Go.Proofs.Ytjknloimdbcogaa
