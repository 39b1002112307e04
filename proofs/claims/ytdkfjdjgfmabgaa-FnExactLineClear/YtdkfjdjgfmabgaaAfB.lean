/-
  The floats at a stretch, those on the left and those on the right, as two pieces of one row.
-/
import Derived.Test.YtdkfjdjgfmabgaaAfA
import Derived.Test.YtdkfjdjgfmabgaaAfW
import Derived.Laws.AppendOwnNone
namespace Go.Proofs.Ytdkfjdjgfmabgaa
open Go.ChangeShapes Go.WideShapes Go.ChangeAt Go.RowKit
set_option linter.unusedVariables false

section
variable (w : World)
/-- A row put behind a row that the call owns. -/
theorem wpList_append_y {ops : Array Oper} {rest : List Oper} {o : Oper} {a : Act} {Q : Exit → Act → World → Prop}
    (hg : o.guard = none) (s x : Operand) (hop : o.op = Op.call { callee := Callee.builtin Builtin.append, args := #[s, x], argTypes := #[29, 29] })
    (B : Nat) (v : Value) (ls : List Asd) (hs : a.eval s = v) (hown : OwnA w B v ls) (hl : ls.length ≤ 1048576)
    (ao : Option Addr) (m c : Nat) (rs : List Asd) (hx : a.eval x = .slice ao m c) (hm : m = rs.length) (hl' : m ≤ 1048576) (hrow : AsRow w ao rs) (hnone : ao = none → m = 0 ∧ c = 0) (hbase : B ≤ w.heap.size)
    (h : ∀ v' w', OwnA w' B v' (ls ++ rs) → w.grownBy w' v.ownBlock → wpList Try.prog ops Q rest (a.put o.dst v') w') :
    wpList Try.prog ops Q (o :: rest) a w := by
  obtain ⟨i0, hi, hz0, hz1, hz2⟩ := info_parts infoAside
  cases ao with
  | none =>
    obtain ⟨rfl, rfl⟩ := hnone rfl
    obtain rfl : rs = [] := List.eq_nil_of_length_eq_zero hm.symm
    refine wpList_append_own_none hg s x 29 hop B 47 i0 5 Try.underlying29 hi v _ _ hs hown hx ?_
    exact h v w (by rw [List.append_nil]; exact hown) (grown_refl _ _)
  | some ad =>
    refine wpList_append_own w hg s x 29 hop B 47 i0 _ 5 40 Try.underlying29 hi hz0 hz1 hz2 rfl (by decide) v _ _ hs hown ad m c (flatA rs) hx (by rw [flatA_len, hm]) (fun j u hj => ?_) (flatA_one_cell rs) (by unfold maxLen; omega) (by omega) hbase (fun v' w' h1 h2 _ => ?_)
    · obtain ⟨i, y, k, hy, hk, rfl⟩ := flatA_in hj
      obtain ⟨b', off', e, hh⟩ := as_some hrow hy
      simp only [Option.some.injEq] at e
      subst e
      rw [Addr.add_lit]
      exact row_cells hh _ u hj
    · refine h v' w' ?_ h2
      unfold OwnA
      rw [List.length_append, flatA_app, ← hm]
      exact h1
end

/-- A slice that reads as ns, and whose spare cells the call may write. -/
def Sl (w : World) (B : Nat) (v : Value) (ns : List Asd) : Prop := ∃ a cap, v = .slice a ns.length cap ∧ ns.length ≤ cap ∧ AsRow w a ns ∧ (a = none → ns.length = 0 ∧ cap = 0) ∧ (∀ b, a = some b → ∃ g off, b = ⟨g, off, none⟩ ∧ B ≤ g ∧ g < w.heap.size ∧ w.there g off (cap * 5))
theorem Sl.below {w w' : World} {B : Nat} {v : Value} {ns : List Asd} (h : Sl w B v ns) (hb : Below w.heap.size w w') : Sl w' B v ns := by
  obtain ⟨a, cap, rfl, h1, h2, h3, h4⟩ := h
  refine ⟨a, cap, rfl, h1, h2.below hb, h3, fun b hb' => ?_⟩
  obtain ⟨g, off, rfl, k1, k2, k3⟩ := h4 b hb'
  exact ⟨g, off, rfl, k1, Nat.lt_of_lt_of_le k2 hb.size, as_there_below k3 hb k2⟩
def leftL (t e : Int) (l : List Asd) : List Asd := (l.filter (atB t e)).filter fun x => decide (x.sd = 1)
def rightL (t e : Int) (l : List Asd) : List Asd := (l.filter (atB t e)).filter fun x => decide (x.sd = 2)
theorem there_piece {w : World} {g cap k : Nat} (h : w.there g 0 (cap * 5)) (hk : k ≤ cap) : w.there g (k * 5) ((cap - k) * 5) := fun j hj => by
  have := h (k * 5 + j) (by omega)
  rwa [Nat.zero_add] at this
theorem row_head {w : World} {g : Nat} {ls rs : List Asd} (h : AsRow w (some ⟨g, 0, none⟩) (ls ++ rs)) : AsRow w (some ⟨g, 0, none⟩) ls := by
  rcases h with h | ⟨b, off, e, hc⟩
  · exact .inl (List.append_eq_nil_iff.1 h).1
  · exact .inr ⟨b, off, e, fun i x hx => hc i x (by rw [List.getElem?_append_left (List.getElem?_eq_some_iff.1 hx).1]; exact hx)⟩
theorem row_tail {w : World} {g : Nat} {ls rs : List Asd} (h : AsRow w (some ⟨g, 0, none⟩) (ls ++ rs)) : AsRow w (some ⟨g, ls.length * 5, none⟩) rs := by
  rcases h with h | ⟨b, off, e, hc⟩
  · exact .inl (List.append_eq_nil_iff.1 h).2
  · simp only [Option.some.injEq, Addr.mk.injEq, and_true] at e
    obtain ⟨rfl, rfl⟩ := e
    refine .inr ⟨g, ls.length * 5, rfl, fun i x hx => ?_⟩
    have := hc (ls.length + i) x (by rw [List.getElem?_append_right (by omega), Nat.add_sub_cancel_left]; exact hx)
    rwa [show 0 + (ls.length + i) * 5 = ls.length * 5 + i * 5 by omega] at this
end Go.Proofs.Ytdkfjdjgfmabgaa
