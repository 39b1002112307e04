/-
  Reading a tree's text: plain mathematics. A tree that has this text, and how much of it is read after so many lines.
  Reading a tree's text: what is read after so many lines, for every tree that has the text.
  Rows of nodes that a call has made.
-/
import Derived.Test.YtddnphgpdnedbaaGreatDoorMTt
import Derived.Test.YtddnphgpdnedbaaGreatDoorMMd
import Derived.Test.YtddnphgpdnedbaaGreatDoorMRe
namespace Go.Proofs.YtddnphgpdnedbaaGreatDoor
open Go.ChangeShapes Go.WideShapes Go.ChangeAt Go.RowKit
set_option linter.unusedVariables false

def headT (x : Nd) : ByteArray := if zeroS x.st then ⟨#[124]⟩ ++ x.tx else ⟨#[60]⟩ ++ txtT x.st
theorem head_yes {x : Nd} (h : zeroS x.st = true) : headT x = ⟨#[124]⟩ ++ x.tx := by rw [headT, if_pos h]
theorem head_no {x : Nd} (h : zeroS x.st = false) : headT x = ⟨#[60]⟩ ++ txtT x.st := by rw [headT, if_neg (by rw [h]; decide)]
theorem node_head (x : Nd) : nodeT x = headT x ++ ⟨#[10]⟩ := by
  cases hz : zeroS x.st
  · rw [nodeT_no hz, head_no hz]
  · rw [nodeT_yes hz, head_yes hz]
def lineT (X : List Nd) (k : Nat) : ByteArray := blT (deepN X k) ++ headT (X.getD k nd0)
def sufN (X : List Nd) : Nat → Nat → ByteArray
  | 0, _ => ⟨#[]⟩
  | m + 1, k => lineT X k ++ (⟨#[10]⟩ ++ sufN X m (k + 1))
theorem app_nil (a : ByteArray) : a ++ (⟨#[]⟩ : ByteArray) = a := by
  apply ByteArray.ext
  simp
theorem nil_app (a : ByteArray) : (⟨#[]⟩ : ByteArray) ++ a = a := by
  apply ByteArray.ext
  simp
theorem suf_all (X : List Nd) : ∀ m k, treT X k ++ sufN X m k = treT X (k + m)
  | 0, k => by rw [sufN, app_nil]; rfl
  | m + 1, k => by
    rw [sufN, show k + (m + 1) = (k + 1) + m by omega, ← suf_all X m (k + 1), treT, node_head, lineT]
    simp only [ByteArray.append_assoc]
/-- The tree has this text. -/
def RelT (s : ByteArray) (X : List Nd) : Prop := ttB X = true ∧ treT X X.length = s
theorem ttB_parts {X : List Nd} (h : ttB X = true) : treeB (okB true) styleB X = true ∧ (∀ (i : Nat) (x : Nd), X[i]? = some x → nodeB x = true) ∧ (treT X X.length).size ≤ 3000 := by
  rw [ttB, Bool.and_eq_true, Bool.and_eq_true] at h
  exact ⟨h.1.1, fun i x hx => List.all_eq_true.1 h.1.2 x (List.mem_of_getElem? hx), of_decide_eq_true h.2⟩
theorem placesL_none {p : Nat → Bool} : ∀ {k : Nat}, (placesL p k).length = 0 → ∀ j, j < k → p (j + 1) = false
  | 0, _, j, hj => absurd hj (by omega)
  | k + 1, h, j, hj => by
    cases hp : p (k + 1)
    · by_cases e : j = k
      · subst e; exact hp
      · rw [placesL_no hp] at h
        exact placesL_none h j (by omega)
    · rw [placesL_yes hp, List.length_append] at h
      simp at h
theorem ten_none {s : ByteArray} (h : tenN s = 0) (x : UInt8) (hx : x ∈ s.data.toList) : x ≠ 10 := by
  obtain ⟨i, hi, rfl⟩ := List.getElem_of_mem hx
  have hi' : i < s.size := by simpa using hi
  have h1 := placesL_none h i hi'
  intro e
  have h2 := tenB_yes hi' (by
    have : s[i] = 10 := by simpa [ByteArray.getElem_eq_getElem_data] using e
    rw [this]; rfl)
  rw [h1] at h2
  cases h2
theorem textTo_ten {X : St} (hX : txtB X = true) : ∀ k, k ≤ 18 → ∀ x ∈ (textTo X k).data.toList, x ≠ 10
  | 0, _, x, hx => by simp [textTo] at hx
  | k + 1, hk, x, hx => by
    have ih := textTo_ten hX k (by omega)
    rw [textTo] at hx
    cases hs : sameB X k
    · rw [hs, if_neg (by decide), pieceT] at hx
      simp only [ByteArray.data_append, Array.toList_append, List.mem_append] at hx
      rcases hx with hx | ((hx | hx) | hx) | hx
      · exact ih x hx
      · exact plainT_ten (names_plain k (by omega)) x hx
      · have : x = 58 := by simpa using hx
        rw [this]; decide
      · exact plainT_ten (tok_reads hX (by omega) hs).2.2.2 x hx
      · have : x = 59 := by simpa using hx
        rw [this]; decide
    · rw [hs, if_pos rfl] at hx
      exact ih x hx
theorem blT_mem : ∀ n, ∀ x ∈ (blT n).data.toList, x = 32
  | 0, x, hx => by simp [blT] at hx
  | n + 1, x, hx => by
    rw [blT] at hx
    simp only [ByteArray.data_append, Array.toList_append, List.mem_append] at hx
    rcases hx with hx | hx
    · exact blT_mem n x hx
    · simpa using hx
theorem txtT_yes {s : St} (h : txtB s = true) : txtT s = textTo s 18 := by rw [txtT, if_pos h]
theorem head_ten {x : Nd} (h : nodeB x = true) (c : UInt8) (hc : c ∈ (headT x).data.toList) : c ≠ 10 := by
  cases hz : zeroS x.st
  · rw [nodeB_no hz] at h
    rw [head_no hz, txtT_yes h] at hc
    simp only [ByteArray.data_append, Array.toList_append, List.mem_append] at hc
    rcases hc with hc | hc
    · have : c = 60 := by simpa using hc
      rw [this]; decide
    · exact textTo_ten h 18 (Nat.le_refl _) c hc
  · rw [nodeB_yes hz] at h
    rw [head_yes hz] at hc
    simp only [ByteArray.data_append, Array.toList_append, List.mem_append] at hc
    rcases hc with hc | hc
    · have : c = 124 := by simpa using hc
      rw [this]; decide
    · exact ten_none (of_decide_eq_true h) c hc
theorem line_ten {X : List Nd} {k : Nat} {x : Nd} (hx : X[k]? = some x) (h : nodeB x = true) (c : UInt8) (hc : c ∈ (lineT X k).data.toList) : c ≠ 10 := by
  rw [lineT, getD_of hx] at hc
  simp only [ByteArray.data_append, Array.toList_append, List.mem_append] at hc
  rcases hc with hc | hc
  · rw [blT_mem _ c hc]; decide
  · exact head_ten h c hc
theorem n_cut_at (u v : ByteArray) (h : ∀ x ∈ u.data.toList, x ≠ 10) : n_dotB (u ++ (⟨#[10]⟩ ++ v)) = true ∧ n_wholeOf (u ++ (⟨#[10]⟩ ++ v)) = u ∧ n_partOf (u ++ (⟨#[10]⟩ ++ v)) = v := by
  have hx : Lib.indexByte (u ++ (⟨#[10]⟩ ++ v)).data.toList 10 = (u.size : Nat) := by
    have e : (u ++ (⟨#[10]⟩ ++ v)).data.toList = u.data.toList ++ 10 :: v.data.toList := by simp
    rw [e, idx_sign 10 _ _ h]
    simp
  obtain ⟨h1, h2, h3⟩ := n_cutOf_hit hx
  refine ⟨h1, h2.trans (front _ _), h3.trans ?_⟩
  have e : u ++ (⟨#[10]⟩ ++ v) = (u ++ ⟨#[10]⟩) ++ v := by rw [ByteArray.append_assoc]
  have es : u.size + 1 = (u ++ ⟨#[10]⟩).size := by rw [ByteArray.size_append]; rfl
  rw [e, es]
  exact rear _ _
/-- How many blanks a line begins with. -/
structure Lead (t : ByteArray) (d : Nat) : Prop where
  le : d ≤ t.size
  bl : ∀ j (h : j < t.size), j < d → (t[j].toNat : Int) = 32
  no : ∀ (h : d < t.size), (t[d].toNat : Int) ≠ 32
theorem at_app {n : Nat} {c : UInt8} {r : ByteArray} (h : n < (blT n ++ (⟨#[c]⟩ ++ r)).size) : (blT n ++ (⟨#[c]⟩ ++ r))[n] = c := by
  have hb := blT_size n
  have e : (blT n ++ (⟨#[c]⟩ ++ r)).data.toList = (blT n).data.toList ++ c :: r.data.toList := by simp
  have hl : (blT n).data.toList.length = n := by simpa using hb
  have : (blT n ++ (⟨#[c]⟩ ++ r)).data.toList[n]? = some c := by rw [e, List.getElem?_append_right (by omega), hl]; simp
  have h' : n < (blT n ++ (⟨#[c]⟩ ++ r)).data.size := h
  rw [Array.getElem?_toList, Array.getElem?_eq_getElem (h := h')] at this
  exact Option.some.inj this
theorem at_blank {n j : Nat} {u : ByteArray} (hj : j < n) (h : j < (blT n ++ u).size) : (blT n ++ u)[j] = 32 := by
  have hb := blT_size n
  have e : (blT n ++ u).data.toList = (blT n).data.toList ++ u.data.toList := by simp
  have hl : (blT n).data.toList.length = n := by simpa using hb
  have h' : j < (blT n ++ u).data.size := h
  have hm : (blT n ++ u).data.toList[j]? = some ((blT n).data.toList[j]'(by omega)) := by rw [e, List.getElem?_append_left (by omega), List.getElem?_eq_getElem]
  rw [Array.getElem?_toList, Array.getElem?_eq_getElem (h := h')] at hm
  have := Option.some.inj hm
  have h2 := blT_mem n _ (List.getElem_mem (l := (blT n).data.toList) (n := j) (by omega))
  exact this.trans h2
theorem lead_at {n : Nat} {c : UInt8} {r : ByteArray} (hc : c ≠ 32) {d : Nat} (h : Lead (blT n ++ (⟨#[c]⟩ ++ r)) d) : d = n ∧ d < (blT n ++ (⟨#[c]⟩ ++ r)).size := by
  have hb := blT_size n
  have hz : (blT n ++ (⟨#[c]⟩ ++ r)).size = n + (1 + r.size) := by rw [ByteArray.size_append, ByteArray.size_append, hb]; rfl
  have hd : d = n := by
    rcases Nat.lt_trichotomy d n with h1 | h1 | h1
    · have := h.no (by omega)
      rw [at_blank h1 (by omega)] at this
      exact absurd rfl this
    · exact h1
    · have := h.bl n (by omega) h1
      rw [at_app (by omega)] at this
      exact absurd (UInt8.toNat_inj.1 (show c.toNat = (32 : UInt8).toNat by show c.toNat = 32; omega)) hc
  exact ⟨hd, by omega⟩
theorem rest_at {n : Nat} {c : UInt8} {r : ByteArray} : (blT n ++ (⟨#[c]⟩ ++ r)).extract (n + 1) (blT n ++ (⟨#[c]⟩ ++ r)).size = r := by
  have e : blT n ++ (⟨#[c]⟩ ++ r) = (blT n ++ ⟨#[c]⟩) ++ r := by rw [ByteArray.append_assoc]
  have es : n + 1 = (blT n ++ ⟨#[c]⟩).size := by rw [ByteArray.size_append, blT_size]; rfl
  rw [e, es]
  exact rear _ _
end Go.Proofs.YtddnphgpdnedbaaGreatDoor

namespace Go.Proofs.YtddnphgpdnedbaaGreatDoor
open Go.ChangeShapes Go.WideShapes Go.ChangeAt Go.RowKit
set_option linter.unusedVariables false

theorem okUp_of {X : List Nd} (h : treeB (okB true) styleB X = true) (j : Nat) (hj : j < X.length) : okUp X j = true := by
  rw [treeB, Bool.and_eq_true, Bool.and_eq_true] at h
  have := List.all_eq_true.1 h.2 j (List.mem_range.2 hj)
  rw [okAt, Bool.and_eq_true] at this
  exact this.1
theorem upL_of {X : List Nd} {k : Nat} {x : Nd} (hx : X[k]? = some x) : upL X k = x.up := by rw [upL, getD_of hx]
theorem isT_of {X : List Nd} {k : Nat} {x : Nd} (hx : X[k]? = some x) : isT X k = zeroS x.st := by rw [isT, getD_of hx]
/-- Where node k stands, by the list of what is around. -/
theorem around_deep {X : List Nd} (h : treeB (okB true) styleB X = true) {k : Nat} {x : Nd} (hx : X[k]? = some x) :
    deepN X k ≤ (aroundL X k).length ∧ x.up = (if deepN X k = 0 then -1 else (aroundL X k).getD (deepN X k - 1) 0) ∧
    aroundL X (k + 1) = (if zeroS x.st = true then (aroundL X k).take (deepN X k) else (aroundL X k).take (deepN X k) ++ [(k : Int)]) := by
  have hk : k < X.length := (List.getElem?_eq_some_iff.1 hx).1
  obtain ⟨_, _, hst, _⟩ := tree_of h
  have hS := hst k hk
  have hu := okUp_of h k hk
  have e1 := upL_of hx
  have e2 := isT_of hx
  rcases Nat.eq_zero_or_pos k with h0 | h0
  · subst h0
    have ht := hS.top rfl
    rw [okUp, if_pos rfl, Bool.and_eq_true] at hu
    have hT : isT X 0 = false := by simpa using hu.2
    have hc : chainL X 0 = [(0 : Int)] := chain_top (by omega)
    have hd : deepN X 0 = 0 := by unfold deepN; rw [hc]; rfl
    rw [hd]
    refine ⟨Nat.zero_le _, by rw [if_pos rfl, ← e1, ht], ?_⟩
    rw [← e2, hT, if_neg (by decide)]
    show (if isT X 0 = true then (if 0 = 0 then [] else chainL X (upL X 0).toNat) else chainL X 0) = List.take 0 [] ++ [((0 : Nat) : Int)]
    rw [if_neg (by rw [hT]; decide), hc]
    rfl
  · obtain ⟨u, hul, he, _, _⟩ := hS.ups h0
    rw [okUp, if_neg (by omega), Bool.and_eq_true] at hu
    have hin : (u : Int) ∈ aroundL X k := by rw [← he]; exact of_decide_eq_true hu.1
    have ht := around_take u hin
    have hlt := idx_lt hin
    have hat := idx_at hin
    have hlen : (chainL X u).length = idxL u (aroundL X k) + 1 := by
      rw [← ht, List.length_take]
      omega
    have hck := chain_in he hul
    have hd : deepN X k = idxL u (aroundL X k) + 1 := by unfold deepN; rw [hck, List.length_append, hlen]; simp
    rw [hd]
    refine ⟨by omega, ?_, ?_⟩
    · rw [if_neg (by omega), Nat.add_sub_cancel, hat, ← e1, he]
    · rw [ht, aroundL, e2, he]
      cases hz : zeroS x.st
      · simp [hck]
      · have : k ≠ 0 := by omega
        simp [this]
def z0 : St := nd0.st
theorem szZ_eq {s : Sz} (h : szZ s.a s.p s.n = true) : s = ⟨false, false, 0⟩ := by
  obtain ⟨a, p, n⟩ := s
  simp [szZ] at h
  obtain ⟨⟨rfl, rfl⟩, rfl⟩ := h
  rfl
theorem zeroS_eq {s : St} (h : zeroS s = true) : s = z0 := by
  obtain ⟨sh, fl, cl, w, hh, mn, mx, mt, mr, mb, ml, bo, pa, wh, al, lh, ri, dn⟩ := s
  simp only [zeroS, Bool.and_eq_true, decide_eq_true_eq] at h
  obtain ⟨⟨⟨⟨⟨⟨⟨⟨⟨⟨⟨⟨⟨⟨⟨⟨⟨h1, h2⟩, h3⟩, h4⟩, h5⟩, h6⟩, h7⟩, h8⟩, h9⟩, h10⟩, h11⟩, h12⟩, h13⟩, h14⟩, h15⟩, h16⟩, h17⟩, h18⟩ := h
  subst h1 h2 h3 h6 h7 h8 h10 h12 h13 h14 h15 h16 h17 h18
  rw [szZ_eq h4, szZ_eq h5, szZ_eq h9, szZ_eq h11]
  rfl
theorem size_nil {t : ByteArray} (h : t.size = 0) : t = ⟨#[]⟩ := by
  apply ByteArray.ext
  exact Array.eq_empty_of_size_eq_zero h
/-- What is read after k lines: of every tree that has the text its first k nodes, what is around, and the rest. -/
structure GhT (s : ByteArray) (k : Nat) (l : List Nd) (au : List Int) (rest : ByteArray) : Prop where
  g : ∀ X, RelT s X → k ≤ X.length ∧ l = X.take k ∧ au = aroundL X k ∧ rest = sufN X (X.length - k) k
theorem ghT_start (s : ByteArray) : GhT s 0 [] [] s := ⟨fun X hX => by
  refine ⟨Nat.zero_le _, rfl, rfl, ?_⟩
  have := suf_all X X.length 0
  rw [Nat.zero_add, hX.2] at this
  rw [← this, treT, nil_app]
  rfl⟩
theorem suf_nil {X : List Nd} {m k : Nat} (h : (sufN X m k).size = 0) : m = 0 := by
  cases m with
  | zero => rfl
  | succ m =>
    rw [sufN, ByteArray.size_append, ByteArray.size_append, tsize1] at h
    omega
theorem ghT_end {s : ByteArray} {k : Nat} {l : List Nd} {au : List Int} {rest : ByteArray} (h : GhT s k l au rest) (h0 : rest.size = 0) (X : List Nd) (hX : RelT s X) : X = l := by
  obtain ⟨h1, h2, _, h4⟩ := h.g X hX
  rw [h4] at h0
  have := suf_nil h0
  rw [h2, List.take_of_length_le (by omega)]
/-- One line. -/
structure StepG (s : ByteArray) (k : Nat) (l : List Nd) (au : List Int) (rest : ByteArray) (d : Nat) (X : List Nd) (x : Nd) : Prop where
  dot : n_dotB rest = true
  dle : d ≤ au.length
  dlt : d < (n_wholeOf rest).size
  k40 : k < 40
  at_ : X[k]? = some x
  up : x.up = (if d = 0 then -1 else au.getD (d - 1) 0)
  part : n_partOf rest = sufN X (X.length - (k + 1)) (k + 1)
  take : X.take (k + 1) = l ++ [x]
  kind : (zeroS x.st = true ∧ (∀ (h : d < (n_wholeOf rest).size), ((n_wholeOf rest)[d].toNat : Int) = 124) ∧ x.tx = (n_wholeOf rest).extract (d + 1) (n_wholeOf rest).size ∧ x.st = z0 ∧ aroundL X (k + 1) = au.take d) ∨
    (zeroS x.st = false ∧ (∀ (h : d < (n_wholeOf rest).size), ((n_wholeOf rest)[d].toNat : Int) = 60) ∧ Rel ((n_wholeOf rest).extract (d + 1) (n_wholeOf rest).size) x.st ∧ x.tx = ⟨#[]⟩ ∧ aroundL X (k + 1) = au.take d ++ [(k : Int)])
theorem ghT_step {s : ByteArray} {k : Nat} {l : List Nd} {au : List Int} {rest : ByteArray} (h : GhT s k l au rest) (hne : rest.size ≠ 0) {d : Nat} (hd : Lead (n_wholeOf rest) d) (X : List Nd) (hX : RelT s X) :
    ∃ x, StepG s k l au rest d X x := by
  obtain ⟨h1, h2, h3, h4⟩ := h.g X hX
  obtain ⟨t1, t2, t3⟩ := ttB_parts hX.1
  obtain ⟨_, g2, _, g4⟩ := tree_of t1
  have hk : k < X.length := by
    rcases Nat.lt_or_ge k X.length with hh | hh
    · exact hh
    · rw [show X.length - k = 0 by omega, sufN] at h4
      rw [h4] at hne
      exact absurd rfl hne
  obtain ⟨x, hx⟩ : ∃ x, X[k]? = some x := ⟨_, List.getElem?_eq_getElem hk⟩
  have hnb := t2 k x hx
  have hrest : rest = lineT X k ++ (⟨#[10]⟩ ++ sufN X (X.length - (k + 1)) (k + 1)) := by
    rw [h4, show X.length - k = (X.length - (k + 1)) + 1 by omega, sufN]
  obtain ⟨c1, c2, c3⟩ := n_cut_at (lineT X k) (sufN X (X.length - (k + 1)) (k + 1)) (line_ten hx hnb)
  rw [← hrest] at c1 c2 c3
  obtain ⟨a1, a2, a3⟩ := around_deep t1 hx
  have htk : X.take (k + 1) = l ++ [x] := by rw [h2, List.take_add_one, hx]; rfl
  have hok : okN (okB true) styleB x = true := by
    rw [treeB, Bool.and_eq_true, Bool.and_eq_true] at t1
    have := List.all_eq_true.1 t1.2 k (List.mem_range.2 hk)
    rw [okAt, Bool.and_eq_true, getD_of hx] at this
    exact this.2
  have hl : lineT X k = blT (deepN X k) ++ headT x := by rw [lineT, getD_of hx]
  cases hz : zeroS x.st
  · rw [head_no hz] at hl
    rw [c2, hl] at hd
    obtain ⟨rfl, hlt⟩ := lead_at (by decide) hd
    rw [nodeB_no hz] at hnb
    rw [okN, if_neg (by rw [hz]; decide), Bool.and_eq_true] at hok
    refine ⟨x, c1, by rw [h3]; exact a1, by rw [c2, hl]; exact hlt, by omega, hx, by rw [h3]; exact a2, c3, htk, .inr ⟨hz, ?_, ?_, size_nil (of_decide_eq_true hok.1), ?_⟩⟩
    · simp only [c2, hl]
      intro hh
      rw [at_app hh]
      rfl
    · rw [c2, hl, rest_at]
      exact ⟨hnb, (txtT_yes hnb).symm⟩
    · rw [a3, hz, if_neg (by decide), h3]
  · rw [head_yes hz] at hl
    rw [c2, hl] at hd
    obtain ⟨rfl, hlt⟩ := lead_at (by decide) hd
    refine ⟨x, c1, by rw [h3]; exact a1, by rw [c2, hl]; exact hlt, by omega, hx, by rw [h3]; exact a2, c3, htk, .inl ⟨hz, ?_, ?_, zeroS_eq hz, ?_⟩⟩
    · simp only [c2, hl]
      intro hh
      rw [at_app hh]
      rfl
    · rw [c2, hl, rest_at]
    · rw [a3, hz, if_pos rfl, h3]
theorem ghT_next {s : ByteArray} {k : Nat} {l : List Nd} {au : List Int} {rest : ByteArray} {d : Nat} {X : List Nd} {x : Nd} (hX : RelT s X) (h : StepG s k l au rest d X x) {y : Nd} {au' : List Int} (hy : x = y) (ha : aroundL X (k + 1) = au') :
    k + 1 ≤ X.length ∧ l ++ [y] = X.take (k + 1) ∧ au' = aroundL X (k + 1) ∧ n_partOf rest = sufN X (X.length - (k + 1)) (k + 1) := by
  have hk : k < X.length := (List.getElem?_eq_some_iff.1 h.at_).1
  subst hy
  exact ⟨by omega, h.take.symm, ha.symm, h.part⟩
def upD (au : List Int) (d : Nat) : Int := if d = 0 then -1 else au.getD (d - 1) 0
def tailD (rest : ByteArray) (d : Nat) : ByteArray := (n_wholeOf rest).extract (d + 1) (n_wholeOf rest).size
/-- A line that is a text. -/
theorem ghT_text {s : ByteArray} {k : Nat} {l : List Nd} {au : List Int} {rest : ByteArray} (h : GhT s k l au rest) (hne : rest.size ≠ 0) {d : Nat} (hd : Lead (n_wholeOf rest) d) (hlt : d < (n_wholeOf rest).size) (hb : ((n_wholeOf rest)[d].toNat : Int) = 124) :
    GhT s (k + 1) (l ++ [⟨upD au d, tailD rest d, z0⟩]) (au.take d) (n_partOf rest) := ⟨fun X hX => by
  obtain ⟨x, hs⟩ := ghT_step h hne hd X hX
  rcases hs.kind with ⟨_, _, e1, e2, e3⟩ | ⟨_, e1, _⟩
  · exact ghT_next hX hs (by obtain ⟨a, b, c⟩ := x; have e0 := hs.up; simp only at e0 e1 e2; rw [e0, e1, e2]; rfl) e3
  · have := e1 hlt
    omega⟩
/-- A line that is an element. -/
theorem ghT_elem {s : ByteArray} {k : Nat} {l : List Nd} {au : List Int} {rest : ByteArray} (h : GhT s k l au rest) (hne : rest.size ≠ 0) {d : Nat} (hd : Lead (n_wholeOf rest) d) (hlt : d < (n_wholeOf rest).size) (hb : ((n_wholeOf rest)[d].toNat : Int) = 60) {Y : St} (hY : ∀ Z, Rel (tailD rest d) Z → Z = Y) :
    GhT s (k + 1) (l ++ [⟨upD au d, ⟨#[]⟩, Y⟩]) (au.take d ++ [(k : Int)]) (n_partOf rest) := ⟨fun X hX => by
  obtain ⟨x, hs⟩ := ghT_step h hne hd X hX
  rcases hs.kind with ⟨_, e1, _⟩ | ⟨_, _, e1, e2, e3⟩
  · have := e1 hlt
    omega
  · exact ghT_next hX hs (by obtain ⟨a, b, c⟩ := x; have e0 := hs.up; simp only at e0 e1 e2; rw [e0, e2, hY _ e1]; rfl) e3⟩
/-- No tree has the text: what no line of one could be. -/
theorem ghT_none {s : ByteArray} {k : Nat} {l : List Nd} {au : List Int} {rest : ByteArray} (h : GhT s k l au rest) (hne : rest.size ≠ 0) {d : Nat} (hd : Lead (n_wholeOf rest) d)
    (hno : n_dotB rest = false ∨ au.length < d ∨ d = (n_wholeOf rest).size ∨ 40 < k ∨ (∀ (h : d < (n_wholeOf rest).size), ((n_wholeOf rest)[d].toNat : Int) ≠ 60 ∧ ((n_wholeOf rest)[d].toNat : Int) ≠ 124) ∨
      ((∀ (h : d < (n_wholeOf rest).size), ((n_wholeOf rest)[d].toNat : Int) = 60) ∧ ¬ ∃ Y, Rel (tailD rest d) Y)) : ¬ ∃ X, RelT s X := by
  rintro ⟨X, hX⟩
  obtain ⟨x, hs⟩ := ghT_step h hne hd X hX
  have h1 := hs.dot
  have h2 := hs.dle
  have h3 := hs.dlt
  have h4 := hs.k40
  rcases hno with e | e | e | e | e | ⟨e, e'⟩
  · rw [e] at h1; cases h1
  · omega
  · omega
  · omega
  · have := e h3
    rcases hs.kind with ⟨_, e1, _⟩ | ⟨_, e1, _⟩
    · exact this.2 (e1 h3)
    · exact this.1 (e1 h3)
  · rcases hs.kind with ⟨_, e1, _⟩ | ⟨_, _, e1, _⟩
    · have := e h3
      have := e1 h3
      omega
    · exact e' ⟨x.st, e1⟩
end Go.Proofs.YtddnphgpdnedbaaGreatDoor

namespace Go.Proofs.YtddnphgpdnedbaaGreatDoor
open Go.ChangeShapes Go.WideShapes Go.ChangeAt Go.RowKit
set_option linter.unusedVariables false

def flatN : List Nd → List Value
  | [] => []
  | x :: xs => ndL x ++ flatN xs
theorem flatN_len : ∀ bs : List Nd, (flatN bs).length = bs.length * 28
  | [] => rfl
  | x :: xs => by rw [flatN, List.length_append, flatN_len xs, ndL_len, List.length_cons, Nat.succ_mul, Nat.add_comm]
theorem flatN_snoc : ∀ (bs : List Nd) (x : Nd), flatN (bs ++ [x]) = flatN bs ++ ndL x
  | [], x => by simp [flatN]
  | y :: ys, x => by rw [List.cons_append, flatN, flatN, flatN_snoc ys x, List.append_assoc]
theorem flatN_at : ∀ (bs : List Nd) (i : Nat) (x : Nd) (c : Nat) (v : Value), bs[i]? = some x → (ndL x)[c]? = some v → (flatN bs)[i * 28 + c]? = some v
  | [], i, x, c, v, h, _ => by simp at h
  | y :: ys, 0, x, c, v, h, hv => by
    simp at h
    subst h
    rw [flatN, List.getElem?_append_left (by have := (List.getElem?_eq_some_iff.1 hv).1; rw [ndL_len] at this ⊢; omega)]
    simpa using hv
  | y :: ys, i + 1, x, c, v, h, hv => by
    have h' : ys[i]? = some x := by simpa using h
    rw [flatN, List.getElem?_append_right (by rw [ndL_len]; omega), ndL_len, show (i + 1) * 28 + c - 28 = i * 28 + c by omega]
    exact flatN_at ys i x c v h' hv
theorem nOwn_form {w : World} {B : Nat} {e : TypeId} {size : Nat} {v : Value} {n : Nat} {xs : List Value} (h : w.ownsRow B e size v n xs) : ∃ a cap, v = .slice a n cap := by
  rcases h.2 with ⟨rfl, rfl⟩ | ⟨g, cap, cur, rfl, _⟩
  · exact ⟨_, _, rfl⟩
  · exact ⟨_, _, rfl⟩
theorem nOwn_some {w : World} {B : Nat} {e : TypeId} {size : Nat} {v : Value} {n : Nat} {xs : List Value} (h : w.ownsRow B e size v n xs) (hn : 0 < n) : ∃ g cap, v = .slice (some ⟨g, 0, none⟩) n cap := by
  rcases h.2 with ⟨rfl, rfl⟩ | ⟨g, cap, cur, rfl, _⟩
  · omega
  · exact ⟨_, _, rfl⟩
theorem nOwn_ne {w : World} {B : Nat} {e T : TypeId} {size : Nat} {v : Value} {n : Nat} {xs : List Value} {b : Nat} {cs : Array Value} {fr : Nat × Nat} (hown : w.ownsRow B e size v n xs) (hb : w.heap[b]? = some (.cells cs T fr)) (hTe : T ≠ e) : v.ownBlock ≠ some b := by
  rcases hown.2 with ⟨rfl, _⟩ | ⟨g, cap, cur, rfl, _, hg, _⟩
  · simp [Value.ownBlock]
  · intro h
    simp only [Value.ownBlock, Option.some.injEq] at h
    subst h
    rw [hg] at hb
    simp only [Option.some.injEq, Obj.cells.injEq] at hb
    exact hTe hb.2.1.symm
theorem nOwn_ne2 {w : World} {B B' : Nat} {e e' : TypeId} {size size' : Nat} {v v' : Value} {n n' : Nat} {xs xs' : List Value} (h : w.ownsRow B e size v n xs) (h' : w.ownsRow B' e' size' v' n' xs') (hTe : e' ≠ e) : v.ownBlock = none ∨ v.ownBlock ≠ v'.ownBlock := by
  cases hv : v'.ownBlock with
  | none => cases hv2 : v.ownBlock with
    | none => exact .inl rfl
    | some k => exact .inr (by simp)
  | some k =>
    refine .inr ?_
    rcases h'.2 with ⟨rfl, _⟩ | ⟨g, cap, cur, rfl, _, hg, _⟩
    · simp [Value.ownBlock] at hv
    · simp only [Value.ownBlock, Option.some.injEq] at hv
      subst hv
      exact nOwn_ne h hg hTe
theorem nOwn_keep {w w' : World} {B : Nat} {e : TypeId} {size : Nat} {v : Value} {n : Nat} {xs : List Value} (h : w.ownsRow B e size v n xs) (hb : Below w.heap.size w w') : w'.ownsRow B e size v n xs :=
  h.kept (row := none) ⟨hb.os, hb.tape, hb.output, hb.size, fun k hk _ => hb.block k hk⟩ (by cases h : v.ownBlock <;> simp)
/-- A store into a block that is younger than the row. -/
theorem nOwn_put {w w' : World} {B : Nat} {e : TypeId} {size : Nat} {v : Value} {n : Nat} {xs : List Value} {p : Nat} (h : w.ownsRow B e size v n xs) (hp : Put p w w') (hne : v.ownBlock ≠ some p) : w'.ownsRow B e size v n xs := by
  refine ⟨h.1, ?_⟩
  rcases h.2 with h' | ⟨g, cap, cur, rfl, hB, hg, hr⟩
  · exact .inl h'
  · refine .inr ⟨g, cap, cur, rfl, hB, (hp.other g (fun e => hne (by rw [e]; rfl))).trans hg, hr⟩
/-- The slice v owns the nodes ns, in a block from B on. -/
def OwnN (w : World) (B : Nat) (v : Value) (ns : List Nd) : Prop := w.ownsRow B 36 28 v ns.length (flatN ns)
theorem ownN_nil (w : World) (B : Nat) : OwnN w B (.slice none 0 0) [] := World.ownsRow_nil w B _ 28
theorem OwnN.row {w : World} {B : Nat} {v : Value} {bs : List Nd} (h : OwnN w B v bs) : ∃ (a : Option Addr) (cap : Nat), v = .slice a bs.length cap ∧ NdRow w a bs := by
  by_cases h0 : 0 < bs.length
  · obtain ⟨g, cap, rfl⟩ := nOwn_some h h0
    refine ⟨_, _, rfl, .inr ⟨g, 0, rfl, fun i n hi j v hj => ?_⟩⟩
    have hi' := (List.getElem?_eq_some_iff.1 hi).1
    have hj' := (List.getElem?_eq_some_iff.1 hj).1
    rw [ndL_len] at hj'
    have hk := World.ownsRow.cellAt h (i * 28 + j) (by omega)
    rw [Nat.zero_add]
    exact hk.trans (flatN_at bs i n j v hi hj)
  · obtain ⟨a, cap, rfl⟩ := nOwn_form h
    exact ⟨_, _, rfl, .inl (List.eq_nil_of_length_eq_zero (by omega))⟩
theorem nodeInfo : ∃ i0, Tryz.prog.info? 36 = some i0 ∧ i0.zero = some (.agg #[.int .i64 0, .string ByteArray.empty, .int .i64 0, .int .i64 0, .int .i64 0, .bool false, .bool false, .int .i64 0, .bool false, .bool false, .int .i64 0, .int .i64 0, .int .i64 0, .int .i64 0, .bool false, .bool false, .int .i64 0, .int .i64 0, .bool false, .bool false, .int .i64 0, .int .i64 0, .int .i64 0, .int .i64 0, .int .i64 0, .int .i64 0, .int .i64 0, .int .i64 0]) ∧ i0.size = 28 ∧ i0.bytes = 200 := info_parts (show (Tryz.prog.info? 36).map (fun i => (i.zero, i.size, i.bytes)) = some (some (.agg #[.int .i64 0, .string ByteArray.empty, .int .i64 0, .int .i64 0, .int .i64 0, .bool false, .bool false, .int .i64 0, .bool false, .bool false, .int .i64 0, .int .i64 0, .int .i64 0, .int .i64 0, .bool false, .bool false, .int .i64 0, .int .i64 0, .bool false, .bool false, .int .i64 0, .int .i64 0, .int .i64 0, .int .i64 0, .int .i64 0, .int .i64 0, .int .i64 0, .int .i64 0]), 28, 200) by kernel_rfl)
theorem one28 (x : Nd) : ∀ u ∈ ndL x, u.oneCell' = true := fun u hu => List.all_eq_true.1 (show (ndL x).all (·.oneCell') = true from rfl) u hu
end Go.Proofs.YtddnphgpdnedbaaGreatDoor
