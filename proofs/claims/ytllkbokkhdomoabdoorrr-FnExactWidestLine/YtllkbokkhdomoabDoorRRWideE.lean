/-
  Contracts of the program's stretches, an iterator over the lines between places, and of widest, which goes along it.
-/
import Derived.Test.YtllkbokkhdomoabDoorRRWideD
import Derived.RangeFuncNested
import Derived.RangeFuncBound
import Derived.RangeFuncCalls
import Derived.RangeFuncLeaves
import Derived.RangeFuncFrom
import Derived.Shelf.Abstract
import Derived.Shelf.RegionOpen
import Derived.WalkKit
import Derived.OwnWalkIn
import Derived.TacticsInMore
import Derived.LoopNIn
import Derived.LoopIn
namespace Go.Proofs.YtllkbokkhdomoabDoorRR
open Go.ChangeShapes Go.WideShapes Go.ChangeAt Go.RowKit Go.Shelf
set_option linter.unusedVariables false
attribute [local go_sem] Oper.semAt_some

/-- A text that a line can be. -/
abbrev Txt := { x : ByteArray // x.size ≤ maxLen }
/-- The j-th line, as such a text. -/
def txtOf (s : ByteArray) (hs : s.size ≤ maxLen) (E : List Nat) (j : Nat) : Txt := ⟨lineOf s E j, Nat.le_trans (lineOf_size s E j) hs⟩
/-- What has come when k rounds are over. -/
def comeK (s : ByteArray) (hs : s.size ≤ maxLen) (E : List Nat) (k : Nat) : List Txt := (List.range k).map (txtOf s hs E)
theorem comeK_succ (s : ByteArray) (hs : s.size ≤ maxLen) (E : List Nat) (k : Nat) : comeK s hs E (k + 1) = comeK s hs E k ++ [txtOf s hs E k] := by simp [comeK, List.range_succ]
theorem comeK_len (s : ByteArray) (hs : s.size ≤ maxLen) (E : List Nat) (k : Nat) : (comeK s hs E k).length = k := by simp [comeK]

set_option maxRecDepth 100000 in
set_option maxHeartbeats 4000000 in
theorem stretch1_in (n : Nat) (hn : 1 ≤ n) (l Be Bs n₀ b off len cap : Nat) (s : ByteArray) (hs : s.size ≤ maxLen) (hs2 : s.size ≤ 200) (E : List Nat) (hE : EndsOk s.size E) (hlen : len = E.length) (hll : len ≤ 1000) (hb : b < n₀) (hBs : Bs < n₀) (J Jx : List Txt → World → Prop)
    (hY : ∀ pre (x : Txt) W, J pre W → pre.length < len → YieldAt Fence.wide (n - 1) Tryd.prog l #[.string x.1] W fun e W' =>
      (e = .returned (.bool true) ∧ J (pre ++ [x]) W' ∧ Below n₀ W W') ∨ (e = .returned (.bool false) ∧ Jx (pre ++ [x]) W'))
    (W : World) (hce : W.cell? ⟨Be, 0, none⟩ = some (.slice (some ⟨b, off, none⟩) len cap)) (hcs : W.cell? ⟨Bs, 0, none⟩ = some (.string s)) (hc : ∀ j, j < len → W.cell? ⟨b, off + j, none⟩ = some (.int .i64 ((E.getD j 0 : Nat) : Int))) (h0 : J [] W) :
    CallsIn Fence.wide n Tryd.prog 20 #[.func (.yield l) #[] #[], .pointer (some ⟨Be, 0, none⟩), .pointer (some ⟨Bs, 0, none⟩)] W fun e W' => (∃ v, e = .returned v) ∧
      ((∃ ys, ys = comeK s hs E len ∧ J ys W') ∨ (∃ pre, True ∧ Jx pre W')) := by
  have HC : Hid (∀ j, j < len → W.cell? ⟨b, off + j, none⟩ = some (.int .i64 ((E.getD j 0 : Nat) : Int))) := hc
  have HE : Hid (EndsOk s.size E) := hE
  have HL : Hid (len = E.length) := hlen
  clear hc hE hlen
  refine callsIn_of_wp Tryd.func20 rfl trivial ?_ rfl
  simp only [Tryd.ntmps20, List.size_toArray, List.length_cons, List.length_nil, Nat.reduceAdd, Nat.reduceSub, Array.replicate_succ, Array.replicate_zero, List.push_toArray, List.append_toArray, List.nil_append, List.cons_append]
  gi_wp2
  gi_loopw [4, 9] (fun f i wr => ∃ k : Nat, k ≤ len ∧ i = .int .i64 k ∧ f = .int .i64 (prevE E k : Nat) ∧ J (comeK s hs E k) wr ∧ Below n₀ W wr) (fun _ i _ => len - (intOf i).toNat)
  case atStart => exact ⟨0, Nat.zero_le _, rfl, rfl, h0, Below.refl _ _⟩
  case round =>
    obtain ⟨k, hk, rfl, rfl, hJs, hnx⟩ := hrel
    by_cases hlt : k < len
    · have hcx : wr.cell? ⟨b, off + k, none⟩ = some (.int .i64 ((E.getD k 0 : Nat) : Int)) := (hnx.cell (p := ⟨b, off + k, none⟩) hb).trans (HC.out k hlt)
      have hcsx : wr.cell? ⟨Bs, 0, none⟩ = some (.string s) := (hnx.cell (p := ⟨Bs, 0, none⟩) hBs).trans hcs
      have hEk := HE.out k (by rw [← HL.out]; exact hlt)
      have HP : Hid (prevE E (k + 1) = E.getD k 0) := rfl
      obtain ⟨fn, tmps, assign, body, hy, hR⟩ := hY _ (txtOf s hs E k) wr hJs (by rw [comeK_len]; exact hlt)
      have HJ : Hid (comeK s hs E (k + 1) = comeK s hs E k ++ [txtOf s hs E k]) := comeK_succ s hs E k
      rw [← HJ.out] at hR
      have e1 : (txtOf s hs E k).1 = s.extract (prevE E k) (E.getD k 0) := rfl
      rw [e1] at hy
      generalize E.getD k 0 = p at hcx hEk HP hy
      generalize prevE E k = q at hEk hy ⊢
      have q1 : (0 : Int) ≤ (q : Int) := by omega
      have q2 : (q : Int) ≤ (p : Int) := by omega
      have q3 : (p : Int) ≤ (s.size : Int) := by omega
      clear e1 hJs
      gi_wp2
      refine hR.mono ?_
      rintro e W3 (⟨rfl, hJ3, hk3⟩ | ⟨rfl, hJx3⟩)
      · gi_wp2
        go_roundw
        case rel => exact ⟨k + 1, by omega, by simp, by rw [HP.out], hJ3, hnx.trans hk3⟩
        case measure => simp [intOf]; omega
      · gi_wp2
        refine bodyPost_ret (results_none rfl _ _ _) rfl ?_
        exact ⟨⟨_, rfl⟩, .inr ⟨_, trivial, hJx3⟩⟩
    · obtain rfl : k = len := by omega
      gi_wp2
      go_end0
      exact ⟨⟨_, rfl⟩, .inl ⟨_, rfl, hJs⟩⟩

theorem stretches_stops (n : Nat) (hn : 1 ≤ n) (Be Bs n₀ b off len cap : Nat) (s : ByteArray) (hs : s.size ≤ maxLen) (hs2 : s.size ≤ 200) (E : List Nat) (hE : EndsOk s.size E) (hlen : len = E.length) (hll : len ≤ 1000) (w : World) (hn₀ : n₀ ≤ w.heap.size) (hb : b < n₀) (hBs : Bs < n₀) (hBe : Be < n₀)
    (hce : w.cell? ⟨Be, 0, none⟩ = some (.slice (some ⟨b, off, none⟩) len cap)) (hcs : w.cell? ⟨Bs, 0, none⟩ = some (.string s)) (hc : ∀ j, j < len → w.cell? ⟨b, off + j, none⟩ = some (.int .i64 ((E.getD j 0 : Nat) : Int))) :
    SeqStopsK Fence.wide n Tryd.prog 20 #[.pointer (some ⟨Be, 0, none⟩), .pointer (some ⟨Bs, 0, none⟩)] (fun x : Txt => #[Value.string x.1]) (Below n₀) (fun ys => ys = comeK s hs E len) (fun _ => True) len w := fun l J Jx W hW _ _ hY h0 =>
  stretch1_in n hn l Be Bs n₀ b off len cap s hs hs2 E hE hlen hll hb hBs J Jx hY W ((hW.cell (p := ⟨Be, 0, none⟩) (by show Be < _; omega)).trans hce) ((hW.cell (p := ⟨Bs, 0, none⟩) (by show Bs < _; omega)).trans hcs) (fun j hj => (hW.cell (p := ⟨b, off + j, none⟩) (by show b < _; omega)).trans (hc j hj)) h0

/-- The greatest width of what has come. -/
def wdL (W : ByteArray → Int) (pre : List Txt) : Int := pre.foldl (fun m x => max m (W x.1)) 0
theorem wdL_snoc (W : ByteArray → Int) (pre : List Txt) (x : Txt) : wdL W (pre ++ [x]) = max (wdL W pre) (W x.1) := by simp [wdL]
theorem wdL_come (W : ByteArray → Int) (s : ByteArray) (hs : s.size ≤ maxLen) (E : List Nat) (k : Nat) : wdL W (comeK s hs E k) = widestK W s E k := by
  induction k with
  | zero => rfl
  | succ k ih => rw [comeK_succ, wdL_snoc, ih]; rfl
theorem keeps_below {W w1 : World} (hb : Below W.heap.size W w1) : KeepsOthers W w1 :=
  ⟨hb.size, fun k o hk _ => (hb.block k (Array.getElem?_eq_some_iff.1 hk).1).trans hk⟩

set_option maxRecDepth 100000 in
set_option maxHeartbeats 8000000 in
theorem widest_any (fa fd fn fu fb : Int) (Be Bs b off len cap : Nat) (s : ByteArray) (hs : s.size ≤ maxLen) (hs2 : s.size ≤ 200) (E : List Nat) (hE : EndsOk s.size E) (hlen : len = E.length) (hll : len ≤ 1000) (w : World) (hb : b < w.heap.size) (hBs : Bs < w.heap.size) (hBe : Be < w.heap.size)
    (hce : w.cell? ⟨Be, 0, none⟩ = some (.slice (some ⟨b, off, none⟩) len cap)) (hcs : w.cell? ⟨Bs, 0, none⟩ = some (.string s)) (hc : ∀ j, j < len → w.cell? ⟨b, off + j, none⟩ = some (.int .i64 ((E.getD j 0 : Nat) : Int))) (hK : Kinds w) :
    Calls Tryd.prog 12 #[.agg #[.int .i64 fa, .int .i64 fd, .int .i64 fn, .int .i64 fu, .int .i64 fb], .func (.func 20) #[] #[.pointer (some ⟨Be, 0, none⟩), .pointer (some ⟨Bs, 0, none⟩)]] w fun e w' => e = .returned (.int .i64 (widestK (fun x => advN fa fd fn fu fb (bareS x)) s E len)) ∧ Below w.heap.size w w' := by
  have HC : Hid (∀ j, j < len → w.cell? ⟨b, off + j, none⟩ = some (.int .i64 ((E.getD j 0 : Nat) : Int))) := hc
  clear hc
  obtain ⟨Wf, hWf⟩ : ∃ Wf : ByteArray → Int, Wf = fun x => advN fa fd fn fu fb (bareS x) := ⟨_, rfl⟩
  have LW : ∀ (x : Txt) (W : World), Below w.heap.size w W → Calls Tryd.prog 19 #[.agg #[.int .i64 fa, .int .i64 fd, .int .i64 fn, .int .i64 fu, .int .i64 fb], .string x.1] W fun e w' => e = .returned (.int .i64 (Wf x.1)) ∧ Below W.heap.size W w' := fun x W hW => by
    rw [hWf]; exact lineWidth_any fa fd fn fu fb x.1 W x.2 (hK.below hW)
  rw [← hWf]
  clear hWf
  have hW0 := box_new w fa fd fn fu fb
  have hB1 : Below w.heap.size w ((w.alloc (.cells #[.int .i64 fa, .int .i64 fd, .int .i64 fn, .int .i64 fu, .int .i64 fb] 26)).alloc (.cells #[.int .i64 0] 3)) := ((Below.refl _ w).alloc (Nat.le_refl _) _).alloc (by simp) _
  refine (callsIn_wide (n := 3)).1 ?_
  refine callsIn_of_wp_marks Tryd.func12 rfl trivial ?_ rfl
  simp only [Tryd.ntmps12, List.size_toArray, List.length_cons, List.length_nil, Nat.reduceAdd, Nat.reduceSub, Array.replicate_succ, Array.replicate_zero, List.push_toArray, List.append_toArray, List.nil_append, List.cons_append]
  gi_wp2
  obtain ⟨W1, hW1⟩ : ∃ W1, W1 = (w.alloc (.cells #[.int .i64 fa, .int .i64 fd, .int .i64 fn, .int .i64 fu, .int .i64 fb] 26)).alloc (.cells #[.int .i64 0] 3) := ⟨_, rfl⟩
  have hm0 : W1.cell? ⟨w.heap.size + 1, 0, none⟩ = some (.int .i64 0) ∧ W1.frozen? ⟨w.heap.size + 1, 0, none⟩ = false ∧ W1.cell? ⟨w.heap.size, 0, none⟩ = some (.int .i64 fa) ∧ W1.cell? ⟨w.heap.size, 1, none⟩ = some (.int .i64 fd) ∧ W1.cell? ⟨w.heap.size, 2, none⟩ = some (.int .i64 fn) ∧ W1.cell? ⟨w.heap.size, 3, none⟩ = some (.int .i64 fu) ∧ W1.cell? ⟨w.heap.size, 4, none⟩ = some (.int .i64 fb) := by
    rw [hW1]
    exact ⟨by simp, by simp, by simp, by simp, by simp, by simp, by simp⟩
  have hs1 : W1.heap.size = w.heap.size + 1 + 1 := by rw [hW1]; simp
  rw [← hW1] at hB1 ⊢
  clear hW1
  refine wpIn_rangeFunc_ownF rfl (by omega) (gf := 20) (lb := #[.pointer (some ⟨Be, 0, none⟩), .pointer (some ⟨Bs, 0, none⟩)]) rfl trivial (enters_of Tryd.func20 (by kernel_rfl) rfl)
    (stretches_stops 2 (by omega) Be Bs w.heap.size b off len cap s hs hs2 E hE hlen hll W1 (by omega) hb hBs hBe ((hB1.cell (p := ⟨Be, 0, none⟩) hBe).trans hce) ((hB1.cell (p := ⟨Bs, 0, none⟩) hBs).trans hcs) (fun j hj => (hB1.cell (p := ⟨b, off + j, none⟩) hb).trans (HC.out j hj))) belowK_t (belowK_b (by omega)) (Below.refl _ _) (fun _ => rfl)
    (fun pre W => (W.cell? ⟨w.heap.size + 1, 0, none⟩ = some (.int .i64 (wdL Wf pre)) ∧ W.frozen? ⟨w.heap.size + 1, 0, none⟩ = false ∧ W.cell? ⟨w.heap.size, 0, none⟩ = some (.int .i64 fa) ∧ W.cell? ⟨w.heap.size, 1, none⟩ = some (.int .i64 fd) ∧ W.cell? ⟨w.heap.size, 2, none⟩ = some (.int .i64 fn) ∧ W.cell? ⟨w.heap.size, 3, none⟩ = some (.int .i64 fu) ∧ W.cell? ⟨w.heap.size, 4, none⟩ = some (.int .i64 fb)) ∧ Below w.heap.size w W)
    (fun _ _ _ => False)
    (OwnFrom.and (Own.from (fun s A B row hs hg hr => ⟨cell_kept hs.1 hg hr, (frozen_kept hs.1 hg hr).trans hs.2.1, cell_kept hs.2.2.1 hg hr, cell_kept hs.2.2.2.1 hg hr, cell_kept hs.2.2.2.2.1 hg hr, cell_kept hs.2.2.2.2.2.1 hg hr, cell_kept hs.2.2.2.2.2.2 hg hr⟩) _) (ownFrom_below (Nat.le_refl _) (by omega)))
    (fun _ _ _ _ _ hs _ _ => hs)
    ⟨hm0, hB1⟩
    (fun x => { tmps := #[.agg #[.int .i64 fa, .int .i64 fd, .int .i64 fn, .int .i64 fu, .int .i64 fb], .func (.func 20) #[] #[.pointer (some ⟨Be, 0, none⟩), .pointer (some ⟨Bs, 0, none⟩)], .pointer (some ⟨w.heap.size, 0, none⟩), undef, .int .i64 0, .pointer (some ⟨w.heap.size + 1, 0, none⟩), .string x.1, .func (.func 20) #[] #[.pointer (some ⟨Be, 0, none⟩), .pointer (some ⟨Bs, 0, none⟩)], .string x.1, undef, undef, undef, undef, undef, undef], defers := [] }) ?assign ?body ?done ?stop
  case assign =>
    intro l x W K hK
    gi_wp2
    exact hK
  case body =>
    rintro l pre x W ⟨⟨hc, hf, c0, c1, c2, c3, c4⟩, hB⟩ _
    have hmx : Tryd.prog.follows .mixedOrders = true := by kernel_rfl
    have hlt1 := block_lt hc
    have hsn := wdL_snoc Wf pre x
    have HS : Hid (wdL Wf (pre ++ [x]) = max (wdL Wf pre) (Wf x.1)) := hsn
    clear hsn
    have LWx := fun (W' : World) (h : Below w.heap.size w W') => LW x W' h
    generalize Wf x.1 = z at LWx HS
    generalize wdL Wf pre = m at hc HS
    obtain ⟨x, hx⟩ := x
    dsimp only at LWx ⊢
    gi_wp2
    gi_region_with_o (refine ⟨trivial, ?_⟩; gi_at_call 19; refine (CallsIn.inRound l (callsIn_wide.2 (LWx _ (by repeat (first | exact hB | refine Below.drew ?_))))).mono ?_; rintro e w1 ⟨rfl, hb1⟩; have hm1 := (hb1.cell (p := ⟨w.heap.size + 1, 0, none⟩) hlt1).trans hc; have hf1 := (hb1.frozen (p := ⟨w.heap.size + 1, 0, none⟩) hlt1).trans hf)
    all_goals
      have hb1' : Below W.heap.size W w1 := ⟨hb1.os, hb1.tape, hb1.output, hb1.size, hb1.block⟩
      have oth : ∀ (o : Nat) (v : Value), W.cell? ⟨w.heap.size, o, none⟩ = some v → (w1.setCell ⟨w.heap.size + 1, 0, none⟩ (.int .i64 (max m z))).cell? ⟨w.heap.size, o, none⟩ = some v := fun o v h => by
        rw [World.cell?_setCell_other _ _ _ _ (fun e => by have := congrArg Addr.block e; simp at this)]
        exact (hb1'.cell (p := ⟨w.heap.size, o, none⟩) (block_lt h)).trans h
      have R1 := And.intro ((keeps_below hb1').trans (KeepsOthers.setCell _ ⟨w.heap.size + 1, 0, none⟩ (.int .i64 (max m z)))) (And.intro ((hb1'.mono hB.size).setCell (p := ⟨w.heap.size + 1, 0, none⟩) (by simp) (.int .i64 (max m z))) (And.intro (And.intro (World.cell?_setCell_same' w1 ⟨w.heap.size + 1, 0, none⟩ (.int .i64 (max m z)) (by rw [hm1]; rfl)) (And.intro (show (w1.setCell ⟨w.heap.size + 1, 0, none⟩ (.int .i64 (max m z))).frozen? ⟨w.heap.size + 1, 0, none⟩ = false by rw [World.frozen?_setCell]; exact hf1) (And.intro (oth _ _ c0) (And.intro (oth _ _ c1) (And.intro (oth _ _ c2) (And.intro (oth _ _ c3) (oth _ _ c4))))))) ((hB.trans (hb1'.mono hB.size)).setCell (p := ⟨w.heap.size + 1, 0, none⟩) (by simp) (.int .i64 (max m z)))))
      rw [← HS.out] at R1 ⊢
      clear oth
      gi_wp2
      exact R1
  case done =>
    rintro D ys W hD rfl ⟨⟨hc, hf, c0, c1, c2, c3, c4⟩, hB⟩ hKd
    rw [wdL_come] at hc
    clear hlen
    gi_wp2
    refine ⟨by simp, .inl ⟨_, _, rfl, run_takeDeferred hKd, ?_⟩⟩
    exact ⟨_, results_tmp rfl _ _ _, rfl, hB.trans (belowK_b (w := w) (Nat.le_refl _) W D _ _ (by omega) hKd rfl rfl)⟩
  case stop =>
    rintro D c pre W _ _ h _
    exact h.elim

set_option maxHeartbeats 2000000 in
theorem stretches_any (s : ByteArray) (a : Option Addr) (n cap : Nat) (w : World) :
    Calls Tryd.prog 13 #[.string s, .slice a n cap] w fun e w' => e = .returned (.func (.func 20) #[] #[.pointer (some ⟨w.heap.size + 1, 0, none⟩), .pointer (some ⟨w.heap.size, 0, none⟩)]) ∧ Below w.heap.size w w' ∧ w.heap.size + 2 ≤ w'.heap.size ∧
      w'.cell? ⟨w.heap.size, 0, none⟩ = some (.string s) ∧ w'.cell? ⟨w.heap.size + 1, 0, none⟩ = some (.slice a n cap) := by
  go_enter Tryd.func13, Tryd.ntmps13
  go_wp2
  go_ret
  exact ⟨rfl, ((Below.refl _ _).alloc (Nat.le_refl _) _).alloc (by simp) _, by simp, by simp, by simp⟩
end Go.Proofs.YtllkbokkhdomoabDoorRR
