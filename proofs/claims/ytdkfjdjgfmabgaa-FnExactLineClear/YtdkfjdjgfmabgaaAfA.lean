/-
  One float put behind a row: in its own spare cells, or in a new row.
-/
import Derived.Test.YtdkfjdjgfmabgaaAfT
namespace Go.Proofs.Ytdkfjdjgfmabgaa
open Go.ChangeShapes Go.WideShapes Go.ChangeAt Go.RowKit
set_option linter.unusedVariables false

theorem grown_refl (w : World) (row : Option Nat) : w.grownBy w row := ⟨rfl, rfl, rfl, Nat.le_refl _, fun _ _ _ => rfl⟩
theorem grown_weak {w w' : World} {row : Option Nat} (h : w.grownBy w' none) : w.grownBy w' row := ⟨h.os, h.tape, h.output, h.size, fun k hk _ => h.block k hk (by simp)⟩
theorem grown_setCells : ∀ (vs : List Value) (b o : Nat) (w w' : World), w.grownBy w' (some b) → w.grownBy (w'.setCells b o vs) (some b)
  | [], _, _, _, _, h => h
  | v :: vs, b, o, w, w', h => by
    rw [World.setCells]
    refine grown_setCells vs b (o + 1) w _ ⟨h.os, h.tape, h.output, Nat.le_trans h.size ((Below.refl 0 w').setCell (p := ⟨b, o, none⟩) (Nat.zero_le _) v).size, fun k hk hne => ?_⟩
    rw [Below.heap_setCell _ _ _ _ (fun e => hne (by rw [e]))]
    exact h.block k hk hne
theorem flatA_in {bs : List Asd} {j : Nat} {u : Value} (h : (flatA bs)[j]? = some u) : ∃ i x c, bs[i]? = some x ∧ (asL x)[c]? = some u ∧ j = i * 5 + c := by
  have hlt := (List.getElem?_eq_some_iff.1 h).1
  rw [flatA_len] at hlt
  have hi : j / 5 < bs.length := by omega
  obtain ⟨x, hx⟩ : ∃ x, bs[j / 5]? = some x := ⟨_, List.getElem?_eq_getElem hi⟩
  have hc : j % 5 < (asL x).length := by rw [asL_len]; omega
  obtain ⟨v, hv⟩ : ∃ v, (asL x)[j % 5]? = some v := ⟨_, List.getElem?_eq_getElem hc⟩
  have := flatA_at bs (j / 5) x (j % 5) v hx hv
  rw [show j / 5 * 5 + j % 5 = j by omega, h] at this
  exact ⟨j / 5, x, j % 5, hx, by rw [hv]; exact this.symm, by omega⟩
/-- What a row's cells tell. -/
theorem row_cells {w : World} {b off : Nat} {ns : List Asd} (h : ∀ i x, ns[i]? = some x → w.rangeAt b (off + i * 5) (asL x)) (j : Nat) (u : Value) (hj : (flatA ns)[j]? = some u) : w.cell? ⟨b, off + j, none⟩ = some u := by
  obtain ⟨i, x, c, hx, hc, rfl⟩ := flatA_in hj
  have := h i x hx c u hc
  rwa [Nat.add_assoc] at this
theorem own_row {w : World} {B n : Nat} {v : Value} {ns : List Asd} (h : w.ownsRow B 47 5 v n (flatA ns)) (hn : n = ns.length) (hp : 0 < n) : ∃ g cap, v = .slice (some ⟨g, 0, none⟩) n cap ∧ n ≤ cap ∧ AsRow w (some ⟨g, 0, none⟩) ns ∧ B ≤ g ∧ g < w.heap.size := by
  subst hn
  have h' : OwnA w B v ns := h
  obtain ⟨a, cap, rfl, hc, hr, h0, hs⟩ := h'.form
  cases a with
  | none => rw [(h0 rfl).1] at hp; simp at hp
  | some b =>
    obtain ⟨g, rfl, hb, hlt, _⟩ := hs b rfl
    exact ⟨g, cap, rfl, hc, hr, hb, hlt⟩

/-- The row that is written into, if there is room in it. -/
def rowIf (n cap : Nat) (ao : Option Addr) : Option Nat := if n < cap then ao.map (·.block) else none
theorem rowIf_full (n : Nat) (ao : Option Addr) : rowIf n n ao = none := if_neg (Nat.lt_irrefl _)
theorem rowIf_some {n cap : Nat} {ao : Option Addr} {k : Nat} (h : rowIf n cap ao = some k) : ∃ b, ao = some b ∧ b.block = k := by
  unfold rowIf at h
  split at h
  · cases ao with
    | none => simp at h
    | some b => exact ⟨b, rfl, by simpa using h⟩
  · simp at h
section
variable (w : World)
/-- The law. -/
theorem wpList_append_x {ops : Array Oper} {rest : List Oper} {o : Oper} {a : Act} {Q : Exit → Act → World → Prop}
    (hg : o.guard = none) (s x : Operand) (hop : o.op = Op.call { callee := Callee.builtin Builtin.append, args := #[s, x], argTypes := #[29, 29] })
    (ao : Option Addr) (n cap : Nat) (ns : List Asd) (hs : a.eval s = .slice ao n cap) (hn : n = ns.length) (hl : n ≤ 1048576) (hrow : AsRow w ao ns) (hnone : ao = none → n = 0 ∧ cap = 0)
    (hsp : n < cap → ∀ b, ao = some b → ∃ g off, b = ⟨g, off, none⟩ ∧ w.there g off (cap * 5))
    (ad : Addr) (y : Asd) (hx : a.eval x = .slice (some ad) 1 1) (hc : ∀ j u, (asL y)[j]? = some u → w.cell? (ad.add j) = some u)
    (h : ∀ g' off' c' w', n + 1 ≤ c' → AsRow w' (some ⟨g', off', none⟩) (ns ++ [y]) → w.grownBy w' (rowIf n cap ao) → (cap ≤ n → w.heap.size ≤ g') → g' < w'.heap.size → wpList Try.prog ops Q rest (a.put o.dst (.slice (some ⟨g', off', none⟩) (n + 1) c')) w') :
    wpList Try.prog ops Q (o :: rest) a w := by
  obtain ⟨i0, hi, hz0, hz1, hz2⟩ := info_parts infoAside
  have hfl : (flatA ns).length = n * 5 := by rw [flatA_len, hn]
  by_cases hroom : n < cap
  · cases ao with
    | none => have := hnone rfl; omega
    | some b =>
      obtain ⟨g, off, rfl, ht⟩ := hsp hroom b rfl
      have hcs : ∀ i x, ns[i]? = some x → w.rangeAt g (off + i * 5) (asL x) := by
        intro i x hx
        obtain ⟨b', off', e, hh⟩ := as_some hrow hx
        simp only [Option.some.injEq, Addr.mk.injEq, and_true] at e
        obtain ⟨rfl, rfl⟩ := e
        exact hh i x hx
      have ht5 : w.there g (off + n * 5) 5 := fun j hj => by
        have := ht (n * 5 + j) (by omega)
        rwa [← Nat.add_assoc] at this
      refine wpList_append_arg w hg s x 29 hop 47 i0 _ 5 40 Try.underlying29 hi hz0 hz1 hz2 rfl (by decide) g off n cap (flatA ns) hs hfl (row_cells hcs) ad 1 1 (asL y) hx rfl hc (asL_one y) (fun _ j hj => ht5 j hj) (by unfold maxLen; omega) (by omega) (fun _ => ?_) (fun hlt => by omega)
      have hlt : g < w.heap.size := by
        obtain ⟨v, hv⟩ := Option.isSome_iff_exists.1 (ht5 0 (by omega)).1
        exact World.block_lt_of_cell? _ _ hv
      have hgr := grown_setCells (asL y) g (off + n * 5) w w (grown_refl w _)
      refine h g off cap _ (by omega) (.inr ⟨g, off, rfl, fun i x hx => ?_⟩) (by unfold rowIf; rw [if_pos hroom]; exact hgr) (fun hf => by omega) (Nat.lt_of_lt_of_le hlt hgr.size)
      by_cases e : i < ns.length
      · rw [List.getElem?_append_left e] at hx
        exact World.rangeAt_setCells_apart (hcs i x hx) _ _ _ (by right; left; rw [asL_len]; omega)
      · rw [List.getElem?_append_right (by omega)] at hx
        have e2 : i = ns.length := by
          have := (List.getElem?_eq_some_iff.1 hx).1
          simp at this
          omega
        subst e2
        simp at hx
        subst hx
        rw [← hn]
        exact World.rangeAt_setCells_same _ _ _ _ ht5
  · refine wpList_append_grows w hg s x 29 hop 47 i0 _ 5 40 Try.underlying29 hi hz0 hz1 hz2 rfl (by decide) ao n cap (flatA ns) hs hnone hfl (fun b hb j u hj => ?_) ad 1 1 (asL y) hx rfl hc (asL_one y) (by omega) (by unfold maxLen; omega) (by omega) (fun v' w' hown hgrow => ?_)
    · obtain ⟨i, x, c, hx', hc', rfl⟩ := flatA_in hj
      obtain ⟨b', off', e, hh⟩ := as_some hrow hx'
      rw [hb] at e
      simp only [Option.some.injEq] at e
      subst e
      rw [Addr.add_lit]
      exact row_cells hh _ u hj
    · rw [← flatA_snoc] at hown
      obtain ⟨g', c', rfl, hc', hr', hB, hlt⟩ := own_row hown (by simp [hn]) (by omega)
      exact h g' 0 c' w' hc' hr' (by unfold rowIf; rw [if_neg hroom]; exact hgrow) (fun _ => hB) hlt
end
end Go.Proofs.Ytdkfjdjgfmabgaa
