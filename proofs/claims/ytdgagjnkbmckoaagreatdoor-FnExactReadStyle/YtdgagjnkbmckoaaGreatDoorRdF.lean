/-
  The program's reader of the thing at a text's front.
-/
import Derived.Test.YtdgagjnkbmckoaaGreatDoorRdK
namespace Go.Proofs.YtdgagjnkbmckoaaGreatDoor
open Go.ChangeShapes Go.WideShapes Go.ChangeAt Go.RowKit
set_option linter.unusedVariables false

def nmC (k : Nat) : ByteArray := nmT k ++ ⟨#[58]⟩
/-- The thing is named at the front and ended; its value; what is behind. -/
def frB (k : Nat) (t : ByteArray) : Bool := preB t (nmC k) && s_dotB (preR t (nmC k))
def frV (k : Nat) (t : ByteArray) : ByteArray := s_wholeOf (preR t (nmC k))
def frR (k : Nat) (t : ByteArray) : ByteArray := s_partOf (preR t (nmC k))
def UnsE (au : Addr) (w : World) : Prop := w.cell? ⟨0, 0, none⟩ = some (.iface 161 (.pointer (some au)))
theorem UnsE.below {au : Addr} {w w' : World} (h : UnsE au w) (hb : Below w.heap.size w w') : UnsE au w' := (hb.cell (p := ⟨0, 0, none⟩) (World.block_lt_of_cell? _ ⟨0, 0, none⟩ h)).trans h
theorem nm_size (k : Nat) : (nmT k).size ≤ 30 := by
  have h : ∀ (l : List ByteArray), (l.all fun x => decide (x.size ≤ 30)) = true → ∀ i, (l.getD i ByteArray.empty).size ≤ 30 := by
    intro l
    induction l with
    | nil => intro _ i; show (ByteArray.empty).size ≤ 30; decide
    | cons x l ih =>
      intro h i
      cases i with
      | zero => simp at h; exact h.1
      | succ i => simp only [List.all_cons, Bool.and_eq_true] at h; exact ih h.2 i
  exact h _ (by decide) k
theorem preR_size (s p : ByteArray) : (preR s p).size ≤ s.size := by
  unfold preR
  split
  · rw [ByteArray.size_extract]; omega
  · exact Nat.le_refl _

set_option maxRecDepth 100000 in
set_option maxHeartbeats 4000000 in
theorem front_unsaid (b k : Nat) (t : ByteArray) (w : World) (ht : t.size ≤ 1048576) (au : Addr) (hU : UnsE au w) (h : frB k t = false) :
    Calls Tryz.prog 24 #[.agg (#[.string (nmT k), .pointer (p1T b k), .pointer (p2T b k), .int .i64 (loT k), .int .i64 (hiT k), .bool (npT k)]), .string t] w fun e w' =>
      ∃ q : Nat, e = .returned (.tuple #[.string ⟨#[]⟩, .iface 73 (.pointer (some ⟨q, 0, none⟩))]) ∧ w'.cell? ⟨q, 1, none⟩ = some (.iface 161 (.pointer (some au))) ∧ Below w.heap.size w w' := by
  have hn := nm_size k
  have CP := fun W => cutPre_any t (nmC k) W ht (by unfold nmC; rw [ByteArray.size_append]; show _ + 1 ≤ _; omega)
  have CT := fun W => s_cut_any (preR t (nmC k)) W (Nat.le_trans (preR_size _ _) ht)
  unfold frB at h
  unfold nmC at *
  have lte : 0 < w.heap.size := World.block_lt_of_cell? _ ⟨0, 0, none⟩ hU
  have hU' : w.cell? ⟨0, 0, none⟩ = some (.iface 161 (.pointer (some au))) := hU
  have hn1 : ¬ 0 = w.heap.size := by omega
  generalize preR t (nmT k ++ ⟨#[58]⟩) = sd at CP CT h
  generalize s_wholeOf sd = hd at CT
  generalize s_partOf sd = tl at CT
  cases hp : preB t (nmT k ++ ⟨#[58]⟩)
  · rw [hp] at CP
    clear h hU
    generalize s_dotB sd = en at CT
    go_enter Tryz.func24, Tryz.ntmps24
    go_wp2_with (first | (go_at_call 34; refine (CP _).mono ?_; rintro e w1 ⟨rfl, hw⟩; have hw := hw.symm; subst hw) | (go_at_call 35; refine (CT _).mono ?_; rintro e w1 ⟨rfl, nn, rfl⟩))
    go_region
    all_goals
      go_wp2
      go_ret2
      refine ⟨_, rfl, ?_, ?_⟩
      · exact (lies_cell (heap_at _ _ (w.heap.size + 1) (by show (w.alloc _).heap.size = _; simp)) 1).trans rfl
      · repeat (first | exact Below.refl _ _ | refine rd_drew ?_ _ | refine Below.drew ?_ | refine Below.setCell ?_ (by first | (simp; done) | (simp; omega)) _ | refine Below.alloc ?_ (by first | (simp; done) | (simp; omega)) _)
  · rw [hp] at CP h
    have he : s_dotB sd = false := by simpa using h
    rw [he] at CT
    clear h hU
    go_enter Tryz.func24, Tryz.ntmps24
    go_wp2_with (first | (go_at_call 34; refine (CP _).mono ?_; rintro e w1 ⟨rfl, hw⟩; have hw := hw.symm; subst hw) | (go_at_call 35; refine (CT _).mono ?_; rintro e w1 ⟨rfl, nn, rfl⟩))
    go_region
    all_goals
      go_wp2
      go_ret2
      refine ⟨_, rfl, ?_, ?_⟩
      · exact (lies_cell (heap_at _ _ (w.heap.size + 1) (by show (w.alloc _).heap.size = _; simp)) 1).trans rfl
      · repeat (first | exact Below.refl _ _ | refine rd_drew ?_ _ | refine Below.drew ?_ | refine Below.setCell ?_ (by first | (simp; done) | (simp; omega)) _ | refine Below.alloc ?_ (by first | (simp; done) | (simp; omega)) _)

set_option maxRecDepth 100000 in
set_option maxHeartbeats 4000000 in
theorem front_said (s : St) (b k : Nat) (hk : k < 18) (t : ByteArray) (w : World) (ht : t.size ≤ 1048576) (ab : Addr) (hE : BeyE ab w) (hT : ErrT w) (l0 : w.heap[b]? = some (.cells (#[.int .i64 s.sh, .int .i64 s.fl, .int .i64 s.cl, .bool s.w.a, .bool s.w.p, .int .i64 s.w.n, .bool s.h.a, .bool s.h.p, .int .i64 s.h.n, .int .i64 s.mn, .int .i64 s.mx, .int .i64 s.mt, .bool s.mr.a, .bool s.mr.p, .int .i64 s.mr.n, .int .i64 s.mb, .bool s.ml.a, .bool s.ml.p, .int .i64 s.ml.n, .int .i64 s.bo, .int .i64 s.pa, .int .i64 s.wh, .int .i64 s.al, .int .i64 s.lh, .int .i64 s.ri, .int .i64 s.dn]) 25 (0, 0))) (h : frB k t = true) :
    Calls Tryz.prog 24 #[.agg (#[.string (nmT k), .pointer (p1T b k), .pointer (p2T b k), .int .i64 (loT k), .int .i64 (hiT k), .bool (npT k)]), .string t] w fun e w' =>
      ((rdOk k (frV k t) = true ∧ e = .returned (.tuple #[.string (frR k t), .nilIface])) ∨ (rdOk k (frV k t) = false ∧ ∃ (q : Nat) (x : Value), e = .returned (.tuple #[.string ⟨#[]⟩, .iface 73 (.pointer (some ⟨q, 0, none⟩))]) ∧ w'.cell? ⟨q, 1, none⟩ = some x ∧ FaultE ab x)) ∧
        w'.heap[b]? = some (.cells (let s := rdSt s k (frV k t); #[.int .i64 s.sh, .int .i64 s.fl, .int .i64 s.cl, .bool s.w.a, .bool s.w.p, .int .i64 s.w.n, .bool s.h.a, .bool s.h.p, .int .i64 s.h.n, .int .i64 s.mn, .int .i64 s.mx, .int .i64 s.mt, .bool s.mr.a, .bool s.mr.p, .int .i64 s.mr.n, .int .i64 s.mb, .bool s.ml.a, .bool s.ml.p, .int .i64 s.ml.n, .int .i64 s.bo, .int .i64 s.pa, .int .i64 s.wh, .int .i64 s.al, .int .i64 s.lh, .int .i64 s.ri, .int .i64 s.dn]) 25 (0, 0)) ∧ w.grownBy w' (some b) := by
  have hn := nm_size k
  have CP := fun W => cutPre_any t (nmC k) W ht (by unfold nmC; rw [ByteArray.size_append]; show _ + 1 ≤ _; omega)
  have CT := fun W => s_cut_any (preR t (nmC k)) W (Nat.le_trans (preR_size _ _) ht)
  have hv : (frV k t).size ≤ 1048576 := Nat.le_trans (s_whole_size _) (Nat.le_trans (preR_size _ _) ht)
  have RK := fun (W : World) (hb : Below w.heap.size w W) => read_k s b k hk (frV k t) W hv ab (hE.below hb) (hT.below hb) (below_lies hb l0 (lies_lt l0))
  have ltb := lies_lt l0
  unfold frB at h
  rw [Bool.and_eq_true] at h
  rw [h.1] at CP
  rw [h.2] at CT
  have e1 : s_wholeOf (preR t (nmC k)) = frV k t := rfl
  have e2 : s_partOf (preR t (nmC k)) = frR k t := rfl
  rw [e1, e2] at CT
  unfold nmC at CP CT
  generalize preR t (nmT k ++ ⟨#[58]⟩) = sd at CP CT
  generalize frR k t = rr at CT ⊢
  generalize frV k t = vv at CT RK ⊢
  generalize rdSt s k vv = s2 at RK ⊢
  clear h hE hT l0 e1 e2 hv
  cases hok : rdOk k vv
  · rw [hok] at RK
    go_enter Tryz.func24, Tryz.ntmps24
    go_wp2_with (first | (go_at_call 34; refine (CP _).mono ?_; rintro e w1 ⟨rfl, hw⟩; have hw := hw.symm; subst hw) | (go_at_call 35; refine (CT _).mono ?_; rintro e w1 ⟨rfl, nn, rfl⟩))
    refine (RK _ (rd_drew ((Below.refl _ _).alloc (Nat.le_refl _) _) _)).mono ?_
    rintro e w1 ⟨⟨x, rfl, hx⟩, l1, g1⟩
    have hx : FaultE ab x := by rcases hx with h | h; cases h.1; exact h.2
    have cN : w1.cell? ⟨w.heap.size, 0, none⟩ = some (.string (nmT k)) := g1.cell (a := ⟨w.heap.size, 0, none⟩) (by simp) (by simp; omega)
    have zz : w.heap.size < w1.heap.size := by have := g1.size; simp at this; omega
    have gw : w.grownBy w1 (some b) := ⟨g1.os, g1.tape, g1.output, by omega, fun j hj hne => (g1.block j (by simp; omega) hne).trans (_root_.Go.heap_alloc_old w _ hj)⟩
    have hxi : ∃ et ev, x = .iface et ev := by rcases hx with ⟨p, rfl⟩ | rfl; exact ⟨_, _, rfl⟩; exact ⟨_, _, rfl⟩
    obtain ⟨et, ev, rfl⟩ := hxi
    clear g1 RK CP CT
    go_wp2
    go_region
    all_goals
      go_wp2
      go_ret2
      refine ⟨.inr ⟨by trivial, _, _, rfl, (lies_cell (heap_at _ _ w1.heap.size (by rfl)) 1).trans rfl, hx⟩, ?_, ?_⟩
      · exact heap_in l1
      · exact ⟨gw.os, gw.tape, gw.output, Nat.le_trans gw.size (by simp), fun j hj hne => (_root_.Go.heap_alloc_old _ _ (Nat.lt_of_lt_of_le hj gw.size)).trans (gw.block j hj hne)⟩
  · rw [hok] at RK
    go_enter Tryz.func24, Tryz.ntmps24
    go_wp2_with (first | (go_at_call 34; refine (CP _).mono ?_; rintro e w1 ⟨rfl, hw⟩; have hw := hw.symm; subst hw) | (go_at_call 35; refine (CT _).mono ?_; rintro e w1 ⟨rfl, nn, rfl⟩))
    refine (RK _ (rd_drew ((Below.refl _ _).alloc (Nat.le_refl _) _) _)).mono ?_
    rintro e w1 ⟨⟨x, rfl, hx⟩, l1, g1⟩
    obtain rfl : x = .nilIface := by rcases hx with h | h; exact h.2; cases h.1
    have zz : w.heap.size < w1.heap.size := by have := g1.size; simp at this; omega
    have gw : w.grownBy w1 (some b) := ⟨g1.os, g1.tape, g1.output, by omega, fun j hj hne => (g1.block j (by simp; omega) hne).trans (_root_.Go.heap_alloc_old w _ hj)⟩
    clear g1 RK CP CT
    go_wp2
    go_ret2
    exact ⟨.inl ⟨by trivial, rfl⟩, l1, gw⟩
end Go.Proofs.YtdgagjnkbmckoaaGreatDoor
