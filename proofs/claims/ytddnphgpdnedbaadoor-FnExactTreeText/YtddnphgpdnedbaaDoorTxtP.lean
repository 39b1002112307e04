/-
  The text of a style, thing by thing, and how long it may be.
-/
import Derived.Test.YtddnphgpdnedbaaDoorMTl
namespace Go.Proofs.YtddnphgpdnedbaaDoor
open Go.ChangeShapes Go.WideShapes Go.ChangeAt Go.RowKit
set_option linter.unusedVariables false

def pieceT (s : St) (k : Nat) : ByteArray := nmT k ++ ⟨#[58]⟩ ++ tokT s k ++ ⟨#[59]⟩
def textTo (s : St) : Nat → ByteArray
  | 0 => ⟨#[]⟩
  | k + 1 => if sameB s k then textTo s k else textTo s k ++ pieceT s k
def okTo (s : St) (k : Nat) : Bool := (List.range k).all fun j => sameB s j || tokB s j
theorem okTo_succ (s : St) (k : Nat) : okTo s (k + 1) = (okTo s k && (sameB s k || tokB s k)) := by
  unfold okTo
  rw [List.range_succ, List.all_append]
  simp
theorem okTo_le {s : St} {k m : Nat} (h : okTo s k = false) (hm : k ≤ m) : okTo s m = false := by
  induction m with
  | zero => obtain rfl : k = 0 := by omega
            exact h
  | succ m ih =>
    by_cases e : k = m + 1
    · subst e; exact h
    · rw [okTo_succ, ih (by omega)]; rfl
theorem textTo_same {s : St} {k : Nat} (h : sameB s k = true) : textTo s (k + 1) = textTo s k := by rw [textTo, if_pos h]
theorem textTo_next {s : St} {k : Nat} (h : sameB s k = false) : textTo s (k + 1) = textTo s k ++ pieceT s k := by rw [textTo, if_neg (by simp [h])]
theorem pixText_size (n : Int) : (pixText n).size ≤ 30 := by
  unfold pixText
  split
  · rename_i h
    have hb := of_decide_eq_true h
    have h1 := num_size (n.natAbs / 64) (by omega)
    have h2 : (signText n).size ≤ 1 := by unfold signText; split <;> decide
    have h3 : (quarter (n.natAbs % 64 / 16)).size ≤ 3 := by unfold quarter; split <;> decide
    simp only [ByteArray.size_append]
    have h4 : (⟨#[112, 120]⟩ : ByteArray).size = 2 := rfl
    omega
  · decide
theorem toldT_size (a p : Bool) (n : Int) (g0 : -1000000 ≤ n) (g1 : n ≤ 1000000) : (toldT a p n).size ≤ 30 := by
  cases a <;> cases p
  · exact pixText_size n
  · obtain ⟨q0, q1⟩ := tdiv_bd n g0 g1
    have := numI_size (n.tdiv 100) q0 q1
    show (numI (n.tdiv 100) ++ ⟨#[37]⟩).size ≤ 30
    rw [ByteArray.size_append]
    have h4 : (⟨#[37]⟩ : ByteArray).size = 1 := rfl
    omega
  · show (⟨#[97, 117, 116, 111]⟩ : ByteArray).size ≤ 30
    decide
  · show (⟨#[97, 117, 116, 111]⟩ : ByteArray).size ≤ 30
    decide
theorem getD_size : ∀ (l : List ByteArray), (l.all fun x => decide (x.size ≤ 30)) = true → ∀ i, (l.getD i ByteArray.empty).size ≤ 30
  | [], _, i => by show (ByteArray.empty).size ≤ 30; decide
  | x :: l, h, 0 => by simp at h; exact h.1
  | x :: l, h, i + 1 => by simp only [List.all_cons, Bool.and_eq_true] at h; exact getD_size l h.2 i
theorem tokT_size (s : St) (k : Nat) (hk : k < 18) (hs : styleB s = true) : (tokT s k).size ≤ 30 := by
  have h := hs
  unfold styleB gA gB gC gD gE at h
  simp only [Bool.and_eq_true] at h
  have z1 := size_bd h.1.1.1.2.1.1.1
  have z2 := size_bd h.1.1.1.2.1.1.2
  have z3 := size_bd h.1.1.1.2.1.2
  have z4 := size_bd h.1.1.1.2.2
  clear h hs
  rcases lt18 hk with rfl | rfl | rfl | rfl | rfl | rfl | rfl | rfl | rfl | rfl | rfl | rfl | rfl | rfl | rfl | rfl | rfl | rfl
  · exact getD_size ([ByteArray.empty, ⟨#[98, 108, 111, 99, 107]⟩, ⟨#[105, 110, 108, 105, 110, 101]⟩, ⟨#[110, 111, 110, 101]⟩]) (by decide) _
  · exact getD_size ([⟨#[110, 111, 110, 101]⟩, ⟨#[108, 101, 102, 116]⟩, ⟨#[114, 105, 103, 104, 116]⟩]) (by decide) _
  · exact getD_size ([⟨#[110, 111, 110, 101]⟩, ⟨#[108, 101, 102, 116]⟩, ⟨#[114, 105, 103, 104, 116]⟩, ⟨#[98, 111, 116, 104]⟩]) (by decide) _
  · exact toldT_size _ _ _ z1.1 z1.2
  · exact toldT_size _ _ _ z2.1 z2.2
  · exact pixText_size _
  · exact pixText_size _
  · exact pixText_size _
  · exact toldT_size _ _ _ z4.1 z4.2
  · exact pixText_size _
  · exact toldT_size _ _ _ z3.1 z3.2
  · exact pixText_size _
  · exact pixText_size _
  · exact getD_size ([ByteArray.empty, ⟨#[110, 111, 114, 109, 97, 108]⟩, ⟨#[110, 111, 119, 114, 97, 112]⟩, ⟨#[112, 114, 101]⟩, ⟨#[112, 114, 101, 45, 119, 114, 97, 112]⟩, ⟨#[112, 114, 101, 45, 108, 105, 110, 101]⟩]) (by decide) _
  · exact getD_size ([ByteArray.empty, ⟨#[108, 101, 102, 116]⟩, ⟨#[114, 105, 103, 104, 116]⟩, ⟨#[99, 101, 110, 116, 101, 114]⟩]) (by decide) _
  · exact pixText_size _
  · exact pixText_size _
  · exact pixText_size _
theorem nmT_size (k : Nat) : (nmT k).size ≤ 30 := getD_size _ (by decide) k
theorem textTo_size (s : St) (hs : styleB s = true) : ∀ k, k ≤ 18 → (textTo s k).size ≤ 62 * k
  | 0, _ => by show (0 : Nat) ≤ _; omega
  | k + 1, hk => by
    have ih := textTo_size s hs k (by omega)
    cases h : sameB s k
    · rw [textTo_next h]
      unfold pieceT
      have h1 := nmT_size k
      have h2 := tokT_size s k (by omega) hs
      simp only [ByteArray.size_append]
      have h3 : (⟨#[58]⟩ : ByteArray).size = 1 := rfl
      have h4 : (⟨#[59]⟩ : ByteArray).size = 1 := rfl
      omega
    · rw [textTo_same h]; omega
end Go.Proofs.YtddnphgpdnedbaaDoor
