/-
  The program's GoodTree, for every row of nodes: its first tests, and the whole.
-/
import Derived.Test.YtdgagjnkbmckoaaDoorNdT
namespace Go.Proofs.YtdgagjnkbmckoaaDoor
open Go.ChangeShapes Go.WideShapes Go.ChangeAt Go.RowKit
set_option linter.unusedVariables false

set_option maxHeartbeats 2000000 in
theorem implTree_len (a : Option Addr) (n cap : Nat) (w : World) (h : ¬ (1 ≤ n ∧ n ≤ 40)) (hl : n ≤ 1048576) :
    Calls Tryd.prog 8 #[.slice a n cap] w fun e w' => e = .returned (.bool false) ∧ Below w.heap.size w w' := by
  by_cases h1 : (n : Int) < 1
  · go_enter Tryd.func8, Tryd.ntmps8
    go_wp2
    go_ret
    exact ⟨rfl, Below.refl _ _⟩
  · have h2 : (40 : Int) < (n : Int) := by omega
    go_enter Tryd.func8, Tryd.ntmps8
    go_wp2
    go_ret
    exact ⟨rfl, Below.refl _ _⟩
set_option maxRecDepth 100000 in
set_option maxHeartbeats 2000000 in
theorem implTree_first (b off n cap : Nat) (x : Nd) (w : World) (h1 : 1 ≤ n) (h40 : n ≤ 40) (hr : w.rangeAt b off (ndL x)) (h : zeroS x.st = true ∨ x.up ≠ -1) :
    Calls Tryd.prog 8 #[.slice (some ⟨b, off, none⟩) n cap] w fun e w' => e = .returned (.bool false) ∧ Below w.heap.size w w' := by
  have T0 := implIsText_any x
  have hu0 : w.cell? ⟨b, off, none⟩ = some (.int .i64 x.up) := hr 0 _ rfl
  have hlb := range_lt hr
  have g1 : ¬ ((n : Int) < 1) := by omega
  have g2 : ¬ ((40 : Int) < (n : Int)) := by omega
  have g3 : (0 : Int) < (n : Int) := by omega
  cases hz : zeroS x.st
  · rw [hz] at T0 h
    have hne : ¬ x.up = -1 := by simpa using h
    have hq : (x.up == -1) = false := by simpa using hne
    clear h
    go_enter Tryd.func8, Tryd.ntmps8
    go_wp2_with (with_reducible show wpList _ _ _ (⟨some 18, Op.load 47 _, _, _, _, _⟩ :: _) _ _; refine wpList_load_midG ?q0 47 _ rfl b off ?q1 (ndL x) _ hr Tryd.underlying47 rfl (by kernel_rfl) ?_)
    refine (T0 _).mono ?_
    rintro e w0 ⟨rfl, hb0⟩
    have hu1 : w0.cell? ⟨b, off, none⟩ = some (.int .i64 x.up) := (hb0.cell (p := ⟨b, off, none⟩) hlb).trans hu0
    clear T0 hu0 hr
    go_wp2
    go_ret
    exact ⟨rfl, hb0⟩
  · rw [hz] at T0
    clear h
    go_enter Tryd.func8, Tryd.ntmps8
    go_wp2_with (with_reducible show wpList _ _ _ (⟨some 18, Op.load 47 _, _, _, _, _⟩ :: _) _ _; refine wpList_load_midG ?q2 47 _ rfl b off ?q3 (ndL x) _ hr Tryd.underlying47 rfl (by kernel_rfl) ?_)
    refine (T0 _).mono ?_
    rintro e w0 ⟨rfl, hb0⟩
    clear T0 hu0 hr
    go_wp2
    go_ret
    exact ⟨rfl, hb0⟩

theorem implTree_any (a : Option Addr) (cap : Nat) (ns : List Nd) (w : World) (hr : NdRow w a ns) (hl : ns.length ≤ 1048576) (hs : ∀ x ∈ ns, x.tx.size ≤ 1048576)
    (et : TypeId) (ev : Value) (he : w.cell? ⟨0, 0, none⟩ = some (.iface et ev)) :
    Calls Tryd.prog 8 #[.slice a ns.length cap] w fun e w' => e = .returned (.bool (treeB (okB true) styleB ns)) ∧ Below w.heap.size w w' := by
  by_cases hlen : 1 ≤ ns.length ∧ ns.length ≤ 40
  rotate_left
  · rw [treeB_len hlen]
    exact implTree_len a _ cap w hlen hl
  obtain ⟨b, off, rfl, hc⟩ : ∃ b off, a = some ⟨b, off, none⟩ ∧ ∀ i n, ns[i]? = some n → w.rangeAt b (off + i * 28) (ndL n) := by
    rcases hr with h | h
    · rw [h] at hlen; simp at hlen
    · exact h
  obtain ⟨x, hx⟩ : ∃ x, ns[0]? = some x := ⟨_, List.getElem?_eq_getElem (by omega)⟩
  by_cases h0 : zeroS x.st = true ∨ x.up ≠ -1
  · have hT : treeB (okB true) styleB ns = false := treeB_no (k := 0) (by omega) (by
      rw [okAt, okUp, if_pos rfl]
      unfold upL isT
      rw [getD_of hx]
      rcases h0 with h | h
      · simp [h]
      · simp [h])
    rw [hT]
    have := hc 0 x hx
    rw [Nat.zero_mul, Nat.add_zero] at this
    exact implTree_first b off _ cap x w hlen.1 hlen.2 this h0
  · have h1 : zeroS x.st = false := by
      cases h : zeroS x.st
      · rfl
      · exact absurd (.inl h) h0
    have h2 : x.up = -1 := Classical.byContradiction fun h => h0 (.inr h)
    exact implTree_loop b off _ cap ns w rfl hlen.1 hlen.2 hs hc (by unfold isT; rw [getD_of hx]; exact h1) (by unfold upL; rw [getD_of hx]; exact h2) et ev he
end Go.Proofs.YtdgagjnkbmckoaaDoor
