/-
  The floats at a stretch, those on the left and those on the right, as two pieces of one row.
-/
import Derived.Test.YtngbkcihdbnlgaaAfA
import Derived.Test.YtngbkcihdbnlgaaAfW
import Derived.Laws.AppendOwnNone
namespace Go.Proofs.Ytngbkcihdbnlgaa
open Go.ChangeShapes Go.WideShapes Go.ChangeAt Go.RowKit
set_option linter.unusedVariables false

section
variable (w : World)
/-- A row put behind a row that the call owns. -/
theorem wpList_append_y {ops : Array Oper} {rest : List Oper} {o : Oper} {a : Act} {Q : Exit → Act → World → Prop}
    (hg : o.guard = none) (s x : Operand) (hop : o.op = Op.call { callee := Callee.builtin Builtin.append, args := #[s, x], argTypes := #[23, 23] })
    (B : Nat) (v : Value) (ls : List Asd) (hs : a.eval s = v) (hown : OwnA w B v ls) (hl : ls.length ≤ 1048576)
    (ao : Option Addr) (m c : Nat) (rs : List Asd) (hx : a.eval x = .slice ao m c) (hm : m = rs.length) (hl' : m ≤ 1048576) (hrow : AsRow w ao rs) (hnone : ao = none → m = 0 ∧ c = 0) (hbase : B ≤ w.heap.size)
    (h : ∀ v' w', OwnA w' B v' (ls ++ rs) → w.grownBy w' v.ownBlock → wpList Try.prog ops Q rest (a.put o.dst v') w') :
    wpList Try.prog ops Q (o :: rest) a w := by
  obtain ⟨i0, hi, hz0, hz1, hz2⟩ := info_parts infoAside
  cases ao with
  | none =>
    obtain ⟨rfl, rfl⟩ := hnone rfl
    obtain rfl : rs = [] := List.eq_nil_of_length_eq_zero hm.symm
    refine wpList_append_own_none hg s x 23 hop B 27 i0 5 Try.underlying23 hi v _ _ hs hown hx ?_
    exact h v w (by rw [List.append_nil]; exact hown) (grown_refl _ _)
  | some ad =>
    refine wpList_append_own w hg s x 23 hop B 27 i0 _ 5 40 Try.underlying23 hi hz0 hz1 hz2 rfl (by decide) v _ _ hs hown ad m c (flatA rs) hx (by rw [flatA_len, hm]) (fun j u hj => ?_) (flatA_one_cell rs) (by unfold maxLen; omega) (by omega) hbase (fun v' w' h1 h2 _ => ?_)
    · obtain ⟨i, y, k, hy, hk, rfl⟩ := flatA_in hj
      obtain ⟨b', off', e, hh⟩ := as_some hrow hy
      simp only [Option.some.injEq] at e
      subst e
      rw [Addr.add_lit]
      exact row_cells hh _ u hj
    · refine h v' w' ?_ h2
      unfold OwnA
      rw [List.length_append, flatA_app, ← hm]
      exact h1
end

/-- A slice that reads as ns, and whose spare cells the call may write. -/
def Sl (w : World) (B : Nat) (v : Value) (ns : List Asd) : Prop := ∃ a cap, v = .slice a ns.length cap ∧ ns.length ≤ cap ∧ AsRow w a ns ∧ (a = none → ns.length = 0 ∧ cap = 0) ∧ (∀ b, a = some b → ∃ g off, b = ⟨g, off, none⟩ ∧ B ≤ g ∧ g < w.heap.size ∧ w.there g off (cap * 5))
theorem Sl.below {w w' : World} {B : Nat} {v : Value} {ns : List Asd} (h : Sl w B v ns) (hb : Below w.heap.size w w') : Sl w' B v ns := by
  obtain ⟨a, cap, rfl, h1, h2, h3, h4⟩ := h
  refine ⟨a, cap, rfl, h1, h2.below hb, h3, fun b hb' => ?_⟩
  obtain ⟨g, off, rfl, k1, k2, k3⟩ := h4 b hb'
  exact ⟨g, off, rfl, k1, Nat.lt_of_lt_of_le k2 hb.size, as_there_below k3 hb k2⟩
def leftL (t e : Int) (l : List Asd) : List Asd := (l.filter (atB t e)).filter fun x => decide (x.sd = 1)
def rightL (t e : Int) (l : List Asd) : List Asd := (l.filter (atB t e)).filter fun x => decide (x.sd = 2)
theorem there_piece {w : World} {g cap k : Nat} (h : w.there g 0 (cap * 5)) (hk : k ≤ cap) : w.there g (k * 5) ((cap - k) * 5) := fun j hj => by
  have := h (k * 5 + j) (by omega)
  rwa [Nat.zero_add] at this
theorem row_head {w : World} {g : Nat} {ls rs : List Asd} (h : AsRow w (some ⟨g, 0, none⟩) (ls ++ rs)) : AsRow w (some ⟨g, 0, none⟩) ls := by
  rcases h with h | ⟨b, off, e, hc⟩
  · exact .inl (List.append_eq_nil_iff.1 h).1
  · exact .inr ⟨b, off, e, fun i x hx => hc i x (by rw [List.getElem?_append_left (List.getElem?_eq_some_iff.1 hx).1]; exact hx)⟩
theorem row_tail {w : World} {g : Nat} {ls rs : List Asd} (h : AsRow w (some ⟨g, 0, none⟩) (ls ++ rs)) : AsRow w (some ⟨g, ls.length * 5, none⟩) rs := by
  rcases h with h | ⟨b, off, e, hc⟩
  · exact .inl (List.append_eq_nil_iff.1 h).2
  · simp only [Option.some.injEq, Addr.mk.injEq, and_true] at e
    obtain ⟨rfl, rfl⟩ := e
    refine .inr ⟨g, ls.length * 5, rfl, fun i x hx => ?_⟩
    have := hc (ls.length + i) x (by rw [List.getElem?_append_right (by omega), Nat.add_sub_cancel_left]; exact hx)
    rwa [show 0 + (ls.length + i) * 5 = ls.length * 5 + i * 5 by omega] at this
set_option maxHeartbeats 4000000 in
theorem sides_any (t e : Int) (a : Option Addr) (n cap : Nat) (l : List Asd) (w : World) (hn : n = l.length) (hr : AsRow w a l) (hl : n ≤ 1048576) (hx : ∀ x ∈ l, Fine x) :
    Calls Try.prog 58 #[.agg #[.int .i64 t, .int .i64 e], .slice a n cap] w fun r w' => ∃ a1 v2, r = .returned (.tuple #[.slice a1 (leftL t e l).length (leftL t e l).length, v2]) ∧ AsRow w' a1 (leftL t e l) ∧ (a1 = none → (leftL t e l).length = 0) ∧ Sl w' w.heap.size v2 (rightL t e l) ∧ Below w.heap.size w w' := by
  have hmf : ∀ (fn : Fn) (first cap : Array Value) (w : World), (Instr.makeFunc fn first cap).run Try.prog w = .ok (.func fn first cap) w := fun _ _ _ _ => rfl
  have hb1 : Below w.heap.size w (w.alloc (.cells #[.int .i64 t, .int .i64 e] 70)) := below_one rfl
  have TH := those1_any 62 (.agg #[.int .i64 t, .int .i64 e]) (enters_of Try.func62 (by kernel_rfl) rfl) (atB t e) a n cap l (w.alloc (.cells #[.int .i64 t, .int .i64 e] 70)) hn (hr.below hb1) hl
    (fun x W hm _ => holds_any t e x W (hx x hm))
  have HB : Hid (Below w.heap.size w (w.alloc (.cells #[.int .i64 t, .int .i64 e] 70))) := hb1
  have HL : Hid (leftL t e l = (l.filter (atB t e)).filter fun x => decide (x.sd = 1)) := rfl
  have HRR : Hid (rightL t e l = (l.filter (atB t e)).filter fun x => decide (x.sd = 2)) := rfl
  have hz : (l.filter (atB t e)).length ≤ 1048576 := Nat.le_trans (List.length_filter_le _ _) (by rw [← hn]; exact hl)
  generalize leftL t e l = ls at HL
  generalize rightL t e l = rs at HRR
  generalize l.filter (atB t e) = zs at TH HL HRR hz
  clear hn hr hx hb1 hl
  go_enter Try.func58, Try.ntmps58
  go_wp2_with fail
  refine TH.mono ?_
  rintro e' w2 ⟨v, rfl, ho, hb⟩
  have b2 : Below w.heap.size w w2 := HB.out.trans (hb.mono (by simp))
  obtain ⟨a2, cap2, rfl, hcap, hrow, _, _⟩ := ho.form
  clear hb ho TH HB
  have TL := fun (W : World) (h : Below w2.heap.size w2 W) => those0_any 48 (enters_of Try.func48 (by kernel_rfl) rfl) (fun x => decide (x.sd = 1)) a2 zs.length cap2 zs W rfl (hrow.below h) hz (fun x W' _ _ => (isLeft_any x W').mono fun e w' h => ⟨h.1, below_one h.2⟩)
  have TR := fun (W : World) (h : Below w2.heap.size w2 W) => those0_any 49 (enters_of Try.func49 (by kernel_rfl) rfl) (fun x => decide (x.sd = 2)) a2 zs.length cap2 zs W rfl (hrow.below h) hz (fun x W' _ _ => (isRight_any x W').mono fun e w' h => ⟨h.1, below_one h.2⟩)
  rw [← HL.out] at TL
  rw [← HRR.out] at TR
  have hls : ls.length ≤ 1048576 := by rw [HL.out]; exact Nat.le_trans (List.length_filter_le _ _) hz
  have hrs : rs.length ≤ 1048576 := by rw [HRR.out]; exact Nat.le_trans (List.length_filter_le _ _) hz
  generalize zs.length = nz at TL TR
  clear hrow hcap HL HRR hz
  go_wp2_with fail
  refine (TL _ (Below.refl _ _)).mono ?_
  rintro e' w3 ⟨v3, rfl, o3, c3⟩
  have b3 := b2.trans (c3.mono b2.size)
  obtain ⟨a3, cap3, hv3, hcap3, _, _, _⟩ := o3.form
  subst hv3
  clear TL
  go_wp2_with fail
  refine (TR _ c3).mono ?_
  rintro e' w4 ⟨v4, rfl, o4, c4⟩
  have b4 := b3.trans (c4.mono b3.size)
  have o34 := o3.keep c4
  obtain ⟨a4, cap4, hv4, hcap4, r4, n4, _⟩ := o4.form
  subst hv4
  have n4' : a4 = none → rs.length = 0 ∧ cap4 = 0 := fun h => ⟨by rw [(n4 h).1]; rfl, (n4 h).2⟩
  have hB4 : w2.heap.size ≤ w4.heap.size := Nat.le_trans c3.size c4.size
  clear TR o3 o4 c4 n4 hcap4
  obtain ⟨k, hk⟩ : ∃ k, k = ls.length := ⟨_, rfl⟩
  obtain ⟨m, hm⟩ : ∃ m, m = rs.length := ⟨_, rfl⟩
  rw [← hk] at hls o34 hcap3
  rw [← hk, ← hm]
  rw [← hm] at hrs n4'
  have HK : Hid (k = ls.length) := hk
  have HM : Hid (m = rs.length) := hm
  clear hk hm c3
  have hb3 := o34.base
  go_wp2_with (at_builtin; refine wpList_append_y _ rfl (.tmp 17) (.tmp 19) rfl w2.heap.size _ ls rfl o34 (by rw [← HK.out]; exact hls) a4 m cap4 rs rfl HM.out hrs r4 n4' hB4 ?_)
  intro v5 w5 o5 g5
  have b5 : Below w.heap.size w w5 := b4.grown g5 b4.size (fun j hj => by have := hb3 j hj; have := b2.size; omega)
  obtain ⟨a5, cap5, hv5, hcap5, r5, n5, s5⟩ := o5.form
  subst hv5
  have hB : w.heap.size ≤ w2.heap.size := b2.size
  rw [List.length_append, ← HK.out, ← HM.out] at hcap5
  rw [List.length_append, ← HK.out, ← HM.out]
  clear o34 r4 n4' g5 o5 b4 hb3
  cases a5 with
  | none =>
    obtain ⟨n50, rfl⟩ := n5 rfl
    obtain ⟨hl0, hr0⟩ := List.append_eq_nil_iff.1 n50
    obtain rfl : k = 0 := by rw [HK.out, hl0]; rfl
    obtain rfl : m = 0 := by rw [HM.out, hr0]; rfl
    have SR : Sl w5 w.heap.size (.slice none 0 0) rs := ⟨none, 0, by rw [← HM.out], by rw [← HM.out]; exact Nat.le_refl _, .inl hr0, fun _ => ⟨HM.out.symm, rfl⟩, fun b hb => by cases hb⟩
    have RL : AsRow w5 none ls := .inl hl0
    clear n5 s5 r5 hcap5
    go_wp2_with fail
    go_quiet (fail)
    go_wp2
    go_ret2
    exact ⟨_, _, ret_tup2 (by rw [← HK.out]; rfl) rfl, RL.below (below_drewN (Below.refl _ _) _), fun _ => HK.out.symm, SR.below (below_drewN (Below.refl _ _) _), below_drewN b5 _⟩
  | some b5' =>
    obtain ⟨g, rfl, hg0, hg1, ht⟩ := s5 b5' rfl
    have hk5 : k ≤ cap5 := by omega
    have hkm : k ≤ k + m := by omega
    have RL : AsRow w5 (some ⟨g, 0, none⟩) ls := row_head r5
    have RR : AsRow w5 (some ⟨g, ls.length * 5, none⟩) rs := row_tail r5
    by_cases hfull : cap5 - k = 0
    · obtain rfl : m = 0 := by omega
      have SR : Sl w5 w.heap.size (.slice (some ⟨g, 0, none⟩) 0 0) rs := ⟨some ⟨g, 0, none⟩, 0, by rw [← HM.out], by rw [← HM.out]; exact Nat.le_refl _, .inl (List.eq_nil_of_length_eq_zero HM.out.symm), (fun h => by cases h), (fun b hb => ⟨g, 0, by simpa using hb.symm, by omega, hg1, fun j hj => absurd hj (by omega)⟩)⟩
      clear n5 s5 r5 RR
      go_wp2_with fail
      go_quiet (fail)
      go_wp2
      go_ret2
      exact ⟨_, _, ret_tup2 (by rw [← HK.out]; rfl) rfl, RL.below (below_drewN (Below.refl _ _) _), (fun h => by cases h), SR.below (below_drewN (Below.refl _ _) _), below_drewN b5 _⟩
    · have SR : Sl w5 w.heap.size (.slice (some ⟨g, k * 5, none⟩) m (cap5 - k)) rs := ⟨some ⟨g, k * 5, none⟩, cap5 - k, by rw [← HM.out], by rw [← HM.out]; omega, by rw [HK.out]; exact RR, (fun h => by cases h), (fun b hb => ⟨g, k * 5, by simpa using hb.symm, by omega, hg1, there_piece ht hk5⟩)⟩
      clear n5 s5 r5 RR
      go_wp2_with fail
      go_quiet (fail)
      go_wp2
      go_ret2
      exact ⟨_, _, ret_tup2 (by rw [← HK.out]; rfl) rfl, RL.below (below_drewN (Below.refl _ _) _), (fun h => by cases h), SR.below (below_drewN (Below.refl _ _) _), below_drewN b5 _⟩
end Go.Proofs.Ytngbkcihdbnlgaa
