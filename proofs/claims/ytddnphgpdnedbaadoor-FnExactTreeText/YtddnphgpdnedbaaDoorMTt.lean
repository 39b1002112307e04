/-
  Contracts of the places behind line breaks, of the program and of its model: both hand back a new row of the places that forcedL names.
  A tree as a text: plain mathematics.
  The model's count of the elements around a node.
  The model's text of a tree.
-/
import Derived.Test.YtddnphgpdnedbaaDoorT3b
import Derived.Test.YtddnphgpdnedbaaDoorOwnI
import Derived.Test.YtddnphgpdnedbaaDoorMNd
import Derived.Test.YtddnphgpdnedbaaDoorMTx
namespace Go.Proofs.YtddnphgpdnedbaaDoor
open Go.ChangeShapes Go.WideShapes Go.ChangeAt Go.RowKit
set_option linter.unusedVariables false

/-- The places 1 .. k at which p holds. -/
def placesL (p : Nat → Bool) : Nat → List Int
  | 0 => []
  | k + 1 => if p (k + 1) = true then placesL p k ++ [((k + 1 : Nat) : Int)] else placesL p k
theorem placesL_len (p : Nat → Bool) (k : Nat) : (placesL p k).length ≤ k := by
  induction k with
  | zero => simp [placesL]
  | succ k ih =>
    unfold placesL
    split
    · rw [List.length_append, List.length_singleton]; omega
    · omega
theorem placesL_yes {p : Nat → Bool} {k : Nat} (h : p (k + 1) = true) : placesL p (k + 1) = placesL p k ++ [((k + 1 : Nat) : Int)] := by rw [placesL, if_pos h]
theorem placesL_no {p : Nat → Bool} {k : Nat} (h : p (k + 1) = false) : placesL p (k + 1) = placesL p k := by rw [placesL, if_neg (by rw [h]; decide)]
/-- A line break stands ahead of place i. -/
def tenB (s : ByteArray) (i : Nat) : Bool := decide ((s.data.toList.getD (i - 1) 0).toNat = 10)
theorem at_listF (s : ByteArray) (k : Nat) (h : k < s.size) : s.data.toList.getD k 0 = s[k] := by
  rw [List.getD_eq_getElem?_getD, List.getElem?_eq_getElem (by simpa using h)]; rfl
theorem tenB_yes {s : ByteArray} {k : Nat} (h : k < s.size) (hz : (s[k].toNat : Int) = 10) : tenB s (k + 1) = true := by
  simp only [tenB, Nat.add_sub_cancel]; rw [at_listF s k h]; exact decide_eq_true (by omega)
theorem tenB_no {s : ByteArray} {k : Nat} (h : k < s.size) (hz : ¬ (s[k].toNat : Int) = 10) : tenB s (k + 1) = false := by
  simp only [tenB, Nat.add_sub_cancel]; rw [at_listF s k h]; exact decide_eq_false (by omega)
def forcedL (s : ByteArray) : List Int := if okB false s then placesL (tenB s) s.size else []

set_option maxRecDepth 100000 in
set_option maxHeartbeats 2000000 in
theorem specForcedL_any (s : ByteArray) (w : World) (hs : s.size ≤ 200) :
    Calls Tryd.prog 13 #[.string s] w fun e w' => ∃ v, e = .returned v ∧ OwnI w' w.heap.size v (placesL (tenB s) s.size) ∧ Below w.heap.size w w' := by
  obtain ⟨i0, hi, hz0, hz1, hz2⟩ := info_parts Tryd.infoInt
  have h00 := ownI_nil w w.heap.size
  go_enter Tryd.func13, Tryd.ntmps13
  go_wp2_with fail
  go_loopw [3, 4] (fun v i wr => ∃ k : Nat, k ≤ s.size ∧ i = .int .i64 ((k : Int) + 1) ∧ OwnI wr w.heap.size v (placesL (tenB s) k) ∧ Below w.heap.size w wr) (fun _ i _ => s.size + 1 - (intOf i).toNat)
  case atStart => exact ⟨0, Nat.zero_le _, rfl, h00, Below.refl _ _⟩
  case round =>
    obtain ⟨k, hk, rfl, hown, hbw⟩ := hrel
    clear h00
    by_cases hlt : k < s.size
    · have q1 : (k : Int) + 1 ≤ (s.size : Int) := by omega
      have hle := placesL_len (tenB s) k
      by_cases h10 : (s[k].toNat : Int) = 10
      · have HP : Hid (placesL (tenB s) (k + 1) = placesL (tenB s) k ++ [((k + 1 : Nat) : Int)]) := placesL_yes (tenB_yes hlt h10)
        generalize placesL (tenB s) k = zs at hown HP hle
        have hown' : wr.ownsRow w.heap.size 3 1 _ zs.length (zs.map (Value.int .i64)) := hown
        go_wp2_with (at_builtin; refine wpList_append_own _ rfl (.tmp 16) (.tmp 18) 45 rfl w.heap.size 3 i0 (.int .i64 0) 1 8 Tryd.underlying45 hi hz0 hz1 hz2 rfl (by decide) _ _ _ rfl (hown'.alloc _) ⟨wr.heap.size, 0, none⟩ 1 1 [.int .i64 ((k : Int) + 1)] rfl rfl (cell_one_new _ _ _) (one_i64 _) (by unfold maxLen; omega) (by omega) (by have := hbw.size; simp; omega) ?_)
        intro v' w2 hown2 hgrow2 _
        have R1 : OwnI w2 w.heap.size v' (placesL (tenB s) (k + 1)) := by rw [HP.out]; exact OwnI.snoc rfl hown2
        have R2 : Below w.heap.size w w2 := (hbw.alloc hbw.size _).grown hgrow2 (by have := hbw.size; simp; omega) (fun j hj => hown.base j hj)
        clear hown2 hgrow2 hown hbw hown'
        go_wp2
        go_roundw
        case rel => exact ⟨k + 1, by omega, by go_num, R1, R2⟩
        case measure => simp [intOf]; omega
      · have R1 := hown
        rw [← placesL_no (tenB_no hlt h10)] at R1
        have b10 : ((s[k].toNat : Int) == 10) = false := by simpa using h10
        clear hown hle
        go_wp2
        go_roundw
        case rel => exact ⟨k + 1, by omega, by go_num, R1, hbw⟩
        case measure => simp [intOf]; omega
    · have e : k = s.size := by omega
      subst e
      go_wp2
      go_ret
      exact ⟨_, rfl, hown, hbw⟩

end Go.Proofs.YtddnphgpdnedbaaDoor

namespace Go.Proofs.YtddnphgpdnedbaaDoor
open Go.ChangeShapes Go.WideShapes Go.ChangeAt Go.RowKit
set_option linter.unusedVariables false

theorem chain_one (ns : List Nd) (k : Nat) : 1 ≤ (chainL ns k).length := List.length_pos_of_mem (chain_last ns k)
/-- How many elements are around node k. -/
def deepN (ns : List Nd) (k : Nat) : Nat := (chainL ns k).length - 1
def blT : Nat → ByteArray
  | 0 => ⟨#[]⟩
  | n + 1 => blT n ++ ⟨#[32]⟩
theorem blT_size : ∀ n, (blT n).size = n
  | 0 => rfl
  | n + 1 => by rw [blT, ByteArray.size_append, blT_size n]; rfl
theorem blT_nil (t : ByteArray) : t ++ blT 0 = t := by
  rw [blT]
  apply ByteArray.ext
  simp
def nodeT (x : Nd) : ByteArray := if zeroS x.st then ⟨#[124]⟩ ++ x.tx ++ ⟨#[10]⟩ else ⟨#[60]⟩ ++ txtT x.st ++ ⟨#[10]⟩
theorem nodeT_yes {x : Nd} (h : zeroS x.st = true) : nodeT x = ⟨#[124]⟩ ++ x.tx ++ ⟨#[10]⟩ := by rw [nodeT, if_pos h]
theorem nodeT_no {x : Nd} (h : zeroS x.st = false) : nodeT x = ⟨#[60]⟩ ++ txtT x.st ++ ⟨#[10]⟩ := by rw [nodeT, if_neg (by rw [h]; decide)]
def treT (ns : List Nd) : Nat → ByteArray
  | 0 => ⟨#[]⟩
  | k + 1 => treT ns k ++ blT (deepN ns k) ++ nodeT (ns.getD k nd0)
theorem treT_step {ns : List Nd} {k : Nat} {x : Nd} (h : ns[k]? = some x) : treT ns (k + 1) = treT ns k ++ blT (deepN ns k) ++ nodeT x := by rw [treT, getD_of h]
/-- How many tens a text has. -/
def tenN (s : ByteArray) : Nat := (placesL (tenB s) s.size).length
def nodeB (x : Nd) : Bool := if zeroS x.st then decide (tenN x.tx = 0) else txtB x.st
theorem nodeB_yes {x : Nd} (h : zeroS x.st = true) : nodeB x = decide (tenN x.tx = 0) := by rw [nodeB, if_pos h]
theorem nodeB_no {x : Nd} (h : zeroS x.st = false) : nodeB x = txtB x.st := by rw [nodeB, if_neg (by rw [h]; decide)]
def ttB (ns : List Nd) : Bool := treeB (okB true) styleB ns && ns.all nodeB && decide ((treT ns ns.length).size ≤ 3000)
def ttT (ns : List Nd) : ByteArray := if ttB ns then treT ns ns.length else ⟨#[]⟩
theorem tt_no {ns : List Nd} (h : ttB ns = false) : ttT ns = ⟨#[]⟩ := by rw [ttT, if_neg (by rw [h]; decide)]
theorem tt_bad {ns : List Nd} (h : treeB (okB true) styleB ns = false) : ttB ns = false := by rw [ttB, h]; rfl
theorem tt_node {ns : List Nd} {k : Nat} {x : Nd} (hx : ns[k]? = some x) (h : nodeB x = false) : ttB ns = false := by
  have : ns.all nodeB = false := by
    rw [List.all_eq_false]
    exact ⟨x, List.mem_of_getElem? hx, by simp [h]⟩
  rw [ttB, this]
  simp
theorem tt_all {ns : List Nd} (h : ∀ (i : Nat) (x : Nd), i < ns.length → ns[i]? = some x → nodeB x = true) : ns.all nodeB = true := by
  rw [List.all_eq_true]
  intro x hm
  obtain ⟨i, hi, rfl⟩ := List.getElem_of_mem hm
  exact h i _ hi (List.getElem?_eq_getElem hi)
theorem tt_long {ns : List Nd} (h : ¬ (treT ns ns.length).size ≤ 3000) : ttB ns = false := by rw [ttB, decide_eq_false h]; simp
theorem tt_yes {ns : List Nd} (h1 : treeB (okB true) styleB ns = true) (h2 : ns.all nodeB = true) (h3 : (treT ns ns.length).size ≤ 3000) : ttB ns = true ∧ ttT ns = treT ns ns.length := by
  have e : ttB ns = true := by rw [ttB, h1, h2, decide_eq_true h3]; rfl
  exact ⟨e, by rw [ttT, if_pos e]⟩
theorem stepN {ns : List Nd} {k : Nat} {x : Nd} (hx : ns[k]? = some x) (h : nodeB x = true) (hp : ∀ (i : Nat) (y : Nd), i < k → ns[i]? = some y → nodeB y = true) (i : Nat) (y : Nd) (hi : i < k + 1) (hy : ns[i]? = some y) : nodeB y = true := by
  by_cases e : i = k
  · subst e
    obtain rfl := Option.some.inj (hx.symm.trans hy)
    exact h
  · exact hp i y (by omega) hy
/-- What a good tree gives. -/
theorem tree_of {ns : List Nd} (h : treeB (okB true) styleB ns = true) : 1 ≤ ns.length ∧ ns.length ≤ 40 ∧ (∀ j, j < ns.length → Stands ns j) ∧ ∀ (i : Nat) (x : Nd), ns[i]? = some x → (zeroS x.st = true → x.tx.size ≤ 200) ∧ (zeroS x.st = false → styleB x.st = true) := by
  rw [treeB, Bool.and_eq_true, Bool.and_eq_true] at h
  obtain ⟨⟨h1, h2⟩, h3⟩ := h
  have h3 := List.all_eq_true.1 h3
  have hu : ∀ j, j < ns.length → okUp ns j = true := fun j hj => by
    have := h3 j (List.mem_range.2 hj)
    rw [okAt, Bool.and_eq_true] at this
    exact this.1
  refine ⟨of_decide_eq_true h1, of_decide_eq_true h2, stands_of _ hu, fun i x hx => ?_⟩
  have := h3 i (List.mem_range.2 (List.getElem?_eq_some_iff.1 hx).1)
  rw [okAt, Bool.and_eq_true, getD_of hx, okN] at this
  refine ⟨fun hz => ?_, fun hz => ?_⟩
  · rw [if_pos hz, Bool.and_eq_true] at this
    exact (okB_yes this.2.2).1
  · rw [if_neg (by rw [hz]; decide), Bool.and_eq_true] at this
    exact this.2.2
theorem deep_le {ns : List Nd} {k : Nat} (h : Stands ns k) : deepN ns k ≤ 8 := by
  unfold deepN
  by_cases h0 : 0 < k
  · obtain ⟨u, hu, he, _, _⟩ := h.ups h0
    have hd := h.deep h0
    rw [he] at hd
    rw [chain_in he hu, List.length_append]
    simp at hd ⊢
    omega
  · rw [chain_top (by have := h.top (by omega); omega)]
    simp
theorem txtT_size (s : St) : (txtT s).size ≤ 1116 := by
  unfold txtT
  split
  · rename_i h
    rw [txtB, Bool.and_eq_true] at h
    exact textTo_size s h.1 18 (Nat.le_refl _)
  · exact Nat.zero_le _
theorem tsize1 (a : UInt8) : (⟨#[a]⟩ : ByteArray).size = 1 := rfl
theorem nodeT_size {x : Nd} (h : zeroS x.st = true → x.tx.size ≤ 200) : (nodeT x).size ≤ 1118 := by
  cases hz : zeroS x.st
  · rw [nodeT_no hz, ByteArray.size_append, ByteArray.size_append, tsize1, tsize1]
    have := txtT_size x.st
    omega
  · rw [nodeT_yes hz, ByteArray.size_append, ByteArray.size_append, tsize1, tsize1]
    have := h hz
    omega
theorem treT_size {ns : List Nd} (h : treeB (okB true) styleB ns = true) : ∀ k, k ≤ ns.length → (treT ns k).size ≤ 1126 * k
  | 0, _ => Nat.zero_le _
  | k + 1, hk => by
    obtain ⟨_, _, hst, hn⟩ := tree_of h
    have h1 := treT_size h k (by omega)
    obtain ⟨x, hx⟩ : ∃ x, ns[k]? = some x := ⟨_, List.getElem?_eq_getElem (by omega)⟩
    have h2 := nodeT_size (hn k x hx).1
    have h3 := deep_le (hst k (by omega))
    rw [treT_step hx, ByteArray.size_append, ByteArray.size_append, blT_size]
    omega
end Go.Proofs.YtddnphgpdnedbaaDoor

namespace Go.Proofs.YtddnphgpdnedbaaDoor
open Go.ChangeShapes Go.WideShapes Go.ChangeAt Go.RowKit
set_option linter.unusedVariables false

set_option maxHeartbeats 4000000 in
theorem l10Deep_any (b off n cap k : Nat) (ns : List Nd) (w : World) (hn : n = ns.length) (hn40 : n ≤ 40) (hk : k < n) (hst : ∀ j, j < ns.length → Stands ns j) (hc : ∀ i x, ns[i]? = some x → w.rangeAt b (off + i * 28) (ndL x)) :
    Calls Tryd.prog 11 #[.slice (some ⟨b, off, none⟩) n cap, .int .i64 k] w fun e w' => e = .returned (.int .i64 (deepN ns k)) ∧ w' = w := by
  have CU : Hid (∀ v : Nat, v < n → w.cell? ⟨b, off + v * 28, none⟩ = some (.int .i64 (upL ns v))) := fun v hv => by
    obtain ⟨y, hy⟩ : ∃ y, ns[v]? = some y := ⟨_, List.getElem?_eq_getElem (by omega)⟩
    have h := (hc v y hy) 0 _ rfl
    rw [Nat.add_zero] at h
    rw [h, upL, getD_of hy]
  have HST : Hid (∀ j, j < n → Stands ns j) := by show ∀ j, j < n → Stands ns j; rw [hn]; exact hst
  have HD : Hid (deepN ns k = (chainL ns k).length - 1) := rfl
  have HC1 : Hid (∀ j, 1 ≤ (chainL ns j).length) := chain_one ns
  generalize deepN ns k = dn at HD ⊢
  clear hn hst hc
  have q0 := CU.out k hk
  go_enter Tryd.func11, Tryd.ntmps11
  go_wp2_with fail
  go_loop [5, 6] (fun c v => ∃ (j m : Nat), j ≤ k ∧ m ≤ k ∧ c = .int .i64 m ∧ v = .int .i64 (upL ns j) ∧ j + m ≤ k ∧ (chainL ns k).length = (chainL ns j).length + m) (fun _ v => (intOf v + 1).toNat)
  case atStart => exact ⟨k, 0, Nat.le_refl _, Nat.zero_le _, rfl, rfl, by omega, by omega⟩
  case round =>
    clear q0
    obtain ⟨j, m, hj, hm, rfl, rfl, hjm, hlen⟩ := hrel
    have HL : Hid ((chainL ns k).length = (chainL ns j).length + m) := hlen
    clear hlen
    by_cases hu : upL ns j < 0
    · have hu' : ¬ (0 ≤ upL ns j) := by omega
      have HR : Hid ((m : Int) = (dn : Int)) := by
        show (m : Int) = (dn : Int)
        rw [HD.out, HL.out, chain_top hu]
        simp
      go_wp2
      go_ret
      exact ⟨congrArg (fun z => Ending.returned (.int .i64 z)) HR.out, rfl⟩
    have hj0 : 0 < j := by
      rcases Nat.eq_zero_or_pos j with h | h
      · exact absurd ((HST.out j (by omega)).top h) (by omega)
      · exact h
    obtain ⟨u, hul, he, _, _⟩ := (HST.out j (by omega)).ups hj0
    have q1 := CU.out u (by omega)
    have HL2 : Hid ((chainL ns k).length = (chainL ns u).length + (m + 1)) := by
      show (chainL ns k).length = _
      rw [HL.out, chain_in he hul, List.length_append]
      simp
      omega
    have HE : Hid (upL ns j = (u : Int)) := he
    rw [he]
    have HUP : Hid (upL ns u < (u : Int)) := by
      show upL ns u < (u : Int)
      rcases Nat.eq_zero_or_pos u with h | h
      · rw [(HST.out u (by omega)).top h]; omega
      · obtain ⟨u', h1, h2, _, _⟩ := (HST.out u (by omega)).ups h
        omega
    obtain ⟨z, hz⟩ : ∃ z, z = upL ns u := ⟨_, rfl⟩
    have HZ : Hid (z = upL ns u) := hz
    have HUZ : Hid (z < (u : Int) ∧ -1 ≤ z) := by
      show z < (u : Int) ∧ -1 ≤ z
      refine ⟨by rw [hz]; exact HUP.out, ?_⟩
      rw [hz]
      rcases Nat.eq_zero_or_pos u with h | h
      · rw [(HST.out u (by omega)).top h]; omega
      · obtain ⟨u', h1, h2, _, _⟩ := (HST.out u (by omega)).ups h
        omega
    rw [← hz] at q1
    clear hu he hz
    go_wp2
    go_round
    case rel => exact ⟨u, m + 1, by omega, by omega, by go_num, by rw [HZ.out], by omega, HL2.out⟩
    case measure =>
      have := HUZ.out
      simp [intOf]
      omega
end Go.Proofs.YtddnphgpdnedbaaDoor

namespace Go.Proofs.YtddnphgpdnedbaaDoor
open Go.ChangeShapes Go.WideShapes Go.ChangeAt Go.RowKit
set_option linter.unusedVariables false

set_option maxRecDepth 100000 in
set_option maxHeartbeats 8000000 in
theorem specTT_good (b off n cap : Nat) (ns : List Nd) (w : World) (hn : n = ns.length) (hg : treeB (okB true) styleB ns = true)
    (hc : ∀ i x, ns[i]? = some x → w.rangeAt b (off + i * 28) (ndL x)) (GT : Calls Tryd.prog 10 #[.slice (some ⟨b, off, none⟩) n cap] w fun e w' => e = .returned (.bool true) ∧ Below w.heap.size w w') :
    Calls Tryd.prog 5 #[.slice (some ⟨b, off, none⟩) n cap] w fun e w' => e = .returned (.tuple #[.string (ttT ns), .bool (ttB ns)]) ∧ Below w.heap.size w w' := by
  obtain ⟨g1, g2, g3, g4⟩ := tree_of hg
  have HC : Hid (∀ i x, ns[i]? = some x → w.rangeAt b (off + i * 28) (ndL x)) := hc
  have HN : Hid (n = ns.length) := hn
  have HG : Hid (treeB (okB true) styleB ns = true) := hg
  have HST : Hid (∀ j, j < ns.length → Stands ns j) := g3
  have HOK : Hid (∀ (i : Nat) (x : Nd), ns[i]? = some x → (zeroS x.st = true → x.tx.size ≤ 200) ∧ (zeroS x.st = false → styleB x.st = true)) := g4
  have HZ : Hid (∀ k, k ≤ ns.length → (treT ns k).size ≤ 1126 * k) := treT_size hg
  have h40 : n ≤ 40 := by omega
  clear hc hn hg g1 g2 g3 g4
  obtain ⟨rb, hrb⟩ : ∃ r, r = ttB ns := ⟨_, rfl⟩
  obtain ⟨rt, hrt⟩ : ∃ r, r = ttT ns := ⟨_, rfl⟩
  have HRB : Hid (rb = ttB ns) := hrb
  have HRT : Hid (rt = ttT ns) := hrt
  rw [← hrb, ← hrt]
  clear hrb hrt
  go_enter Tryd.func5, Tryd.ntmps5
  go_wp2_with fail
  refine GT.mono ?_
  rintro e w0 ⟨rfl, hb0⟩
  clear GT
  go_wp2_with fail
  go_loopw [4, 15] (fun v i wr => ∃ k : Nat, k ≤ n ∧ i = .int .i64 k ∧ v = .string (treT ns k) ∧ (∀ (i : Nat) (y : Nd), i < k → ns[i]? = some y → nodeB y = true) ∧ Below w.heap.size w wr) (fun _ i _ => n - (intOf i).toNat)
  case atStart => exact ⟨0, Nat.zero_le _, rfl, rfl, fun i y hi => absurd hi (by omega), hb0⟩
  case round =>
    clear hb0
    obtain ⟨k, hk, rfl, rfl, hp, hbw⟩ := hrel
    have HP : Hid (∀ (i : Nat) (y : Nd), i < k → ns[i]? = some y → nodeB y = true) := hp
    clear hp
    have z1 := HZ.out k (by have := HN.out; omega)
    by_cases hlt : k < n
    rotate_left
    · have e : k = ns.length := by have := HN.out; omega
      have HA := tt_all (ns := ns) (fun i x hi hx => HP.out i x (by omega) hx)
      by_cases h3 : (treT ns ns.length).size ≤ 3000
      · obtain ⟨e1, e2⟩ := tt_yes HG.out HA h3
        rw [← e] at e2 h3
        have HE1 : Hid (rb = true) := HRB.out.trans e1
        have HE2 : Hid (rt = treT ns k) := HRT.out.trans e2
        clear e1 e2 HA e
        generalize treT ns k = t at z1 h3 HE2
        have h3' : ¬ ((3000 : Int) < (t.size : Int)) := by omega
        obtain rfl := HE1.out
        obtain rfl := HE2.out
        go_wp2
        go_ret2
        exact ⟨rfl, hbw⟩
      · have e1 := tt_long h3
        have e2 := tt_no e1
        rw [← e] at h3
        have HE1 : Hid (rb = false) := HRB.out.trans e1
        have HE2 : Hid (rt = ⟨#[]⟩) := HRT.out.trans e2
        clear e1 e2 HA e
        generalize treT ns k = t at z1 h3
        have h3' : (3000 : Int) < (t.size : Int) := by omega
        obtain rfl := HE1.out
        obtain rfl := HE2.out
        go_wp2
        go_ret2
        exact ⟨rfl, hbw⟩
    obtain ⟨x, hx⟩ : ∃ x, ns[k]? = some x := ⟨_, List.getElem?_eq_getElem (by have := HN.out; omega)⟩
    have hr : wr.rangeAt b (off + k * 28) (ndL x) := range_below (HC.out k x hx) hbw (range_lt (HC.out k x hx))
    have HX : Hid (ns[k]? = some x) := hx
    obtain ⟨o1, o2⟩ := HOK.out k x hx
    have HO1 : Hid (zeroS x.st = true → x.tx.size ≤ 200) := o1
    have HO2 : Hid (zeroS x.st = false → styleB x.st = true) := o2
    have hd8 := deep_le (HST.out k (by have := HN.out; omega))
    have DP := fun (W : World) (hb : Below w.heap.size w W) => l10Deep_any b off n cap k ns W HN.out h40 hlt HST.out (fun i y hy => range_below (HC.out i y hy) hb (range_lt (HC.out i y hy)))
    have IT := fun W => specIsText_any x W
    have HS1 : Hid (treT ns (k + 1) = treT ns k ++ blT (deepN ns k) ++ nodeT x) := treT_step hx
    clear hx o1 o2
    generalize deepN ns k = dn at hd8 DP HS1
    generalize treT ns k = t at z1 HS1
    go_wp2_with (first
        | (with_reducible show wpList _ _ _ (⟨some 19, Op.load 42 _, _, _, _, _⟩ :: _) _ _; refine wpList_load_mid rfl 42 _ rfl b (off + k * 28) rfl (ndL x) _ hr Tryd.underlying42 rfl (by kernel_rfl) ?_)
        | (with_reducible show wpList _ _ _ (⟨none, Op.store 42 _ _, _, _, _, _⟩ :: _) _ _; refine wpList_store_box rfl 42 _ _ rfl rfl (#[.int .i64 x.up, .string x.tx, .int .i64 x.st.sh, .int .i64 x.st.fl, .int .i64 x.st.cl, .bool x.st.w.a, .bool x.st.w.p, .int .i64 x.st.w.n, .bool x.st.h.a, .bool x.st.h.p, .int .i64 x.st.h.n, .int .i64 x.st.mn, .int .i64 x.st.mx, .int .i64 x.st.mt, .bool x.st.mr.a, .bool x.st.mr.p, .int .i64 x.st.mr.n, .int .i64 x.st.mb, .bool x.st.ml.a, .bool x.st.ml.p, .int .i64 x.st.ml.n, .int .i64 x.st.bo, .int .i64 x.st.pa, .int .i64 x.st.wh, .int .i64 x.st.al, .int .i64 x.st.lh, .int .i64 x.st.ri, .int .i64 x.st.dn]) rfl rfl (by kernel_rfl) rfl (by kernel_rfl) ?_; intro W bel l0 hsz; refine stay ?_))
    have hc1 : W.cell? ⟨wr.heap.size, 1, none⟩ = some (.string x.tx) := (lies_cell l0 1).trans rfl
    have bW := hbw.trans (bel.mono hbw.size)
    have l0' : Hid (W.heap[wr.heap.size]? = some (.cells (#[.int .i64 x.up, .string x.tx, .int .i64 x.st.sh, .int .i64 x.st.fl, .int .i64 x.st.cl, .bool x.st.w.a, .bool x.st.w.p, .int .i64 x.st.w.n, .bool x.st.h.a, .bool x.st.h.p, .int .i64 x.st.h.n, .int .i64 x.st.mn, .int .i64 x.st.mx, .int .i64 x.st.mt, .bool x.st.mr.a, .bool x.st.mr.p, .int .i64 x.st.mr.n, .int .i64 x.st.mb, .bool x.st.ml.a, .bool x.st.ml.p, .int .i64 x.st.ml.n, .int .i64 x.st.bo, .int .i64 x.st.pa, .int .i64 x.st.wh, .int .i64 x.st.al, .int .i64 x.st.lh, .int .i64 x.st.ri, .int .i64 x.st.dn]) 42 (0, 0))) := l0
    have RN : Hid (W.rangeAt wr.heap.size 0 (ndL x)) := show W.rangeAt wr.heap.size 0 (#[.int .i64 x.up, .string x.tx, .int .i64 x.st.sh, .int .i64 x.st.fl, .int .i64 x.st.cl, .bool x.st.w.a, .bool x.st.w.p, .int .i64 x.st.w.n, .bool x.st.h.a, .bool x.st.h.p, .int .i64 x.st.h.n, .int .i64 x.st.mn, .int .i64 x.st.mx, .int .i64 x.st.mt, .bool x.st.mr.a, .bool x.st.mr.p, .int .i64 x.st.mr.n, .int .i64 x.st.mb, .bool x.st.ml.a, .bool x.st.ml.p, .int .i64 x.st.ml.n, .int .i64 x.st.bo, .int .i64 x.st.pa, .int .i64 x.st.wh, .int .i64 x.st.al, .int .i64 x.st.lh, .int .i64 x.st.ri, .int .i64 x.st.dn] : Array Value).toList from fun j v hj => (lies_cell l0 (0 + j)).trans (by rw [← hj, Nat.zero_add]; simp)
    have RS : Hid (W.rangeAt wr.heap.size 2 (#[.int .i64 x.st.sh, .int .i64 x.st.fl, .int .i64 x.st.cl, .bool x.st.w.a, .bool x.st.w.p, .int .i64 x.st.w.n, .bool x.st.h.a, .bool x.st.h.p, .int .i64 x.st.h.n, .int .i64 x.st.mn, .int .i64 x.st.mx, .int .i64 x.st.mt, .bool x.st.mr.a, .bool x.st.mr.p, .int .i64 x.st.mr.n, .int .i64 x.st.mb, .bool x.st.ml.a, .bool x.st.ml.p, .int .i64 x.st.ml.n, .int .i64 x.st.bo, .int .i64 x.st.pa, .int .i64 x.st.wh, .int .i64 x.st.al, .int .i64 x.st.lh, .int .i64 x.st.ri, .int .i64 x.st.dn] : Array Value).toList) := fun j v hj => (lies_cell l0 (2 + j)).trans (by show _ = some v; rw [← hj, show (#[.int .i64 x.st.sh, .int .i64 x.st.fl, .int .i64 x.st.cl, .bool x.st.w.a, .bool x.st.w.p, .int .i64 x.st.w.n, .bool x.st.h.a, .bool x.st.h.p, .int .i64 x.st.h.n, .int .i64 x.st.mn, .int .i64 x.st.mx, .int .i64 x.st.mt, .bool x.st.mr.a, .bool x.st.mr.p, .int .i64 x.st.mr.n, .int .i64 x.st.mb, .bool x.st.ml.a, .bool x.st.ml.p, .int .i64 x.st.ml.n, .int .i64 x.st.bo, .int .i64 x.st.pa, .int .i64 x.st.wh, .int .i64 x.st.al, .int .i64 x.st.lh, .int .i64 x.st.ri, .int .i64 x.st.dn] : Array Value).toList = (#[.int .i64 x.up, .string x.tx, .int .i64 x.st.sh, .int .i64 x.st.fl, .int .i64 x.st.cl, .bool x.st.w.a, .bool x.st.w.p, .int .i64 x.st.w.n, .bool x.st.h.a, .bool x.st.h.p, .int .i64 x.st.h.n, .int .i64 x.st.mn, .int .i64 x.st.mx, .int .i64 x.st.mt, .bool x.st.mr.a, .bool x.st.mr.p, .int .i64 x.st.mr.n, .int .i64 x.st.mb, .bool x.st.ml.a, .bool x.st.ml.p, .int .i64 x.st.ml.n, .int .i64 x.st.bo, .int .i64 x.st.pa, .int .i64 x.st.wh, .int .i64 x.st.al, .int .i64 x.st.lh, .int .i64 x.st.ri, .int .i64 x.st.dn] : Array Value).toList.drop 2 from rfl, List.getElem?_drop]; simp)
    have ltW : wr.heap.size < W.heap.size := by omega
    unfold Stay
    clear hr bel hbw l0
    go_wp2_with fail
    refine (DP _ bW).mono ?_
    rintro e w' ⟨rfl, hw⟩
    have hw := hw.symm
    subst hw
    clear DP
    go_wp2_with fail
    go_loop [4, 7] (fun v i => ∃ j : Nat, j ≤ dn ∧ i = .int .i64 ((dn : Int) - (j : Int)) ∧ v = .string (t ++ blT j)) (fun _ i => (intOf i).toNat)
    case atStart => exact ⟨0, Nat.zero_le _, by go_num, by rw [blT_nil]⟩
    case round =>
      obtain ⟨j, hj, rfl, rfl⟩ := hrel
      have z4 := blT_size j
      have z5 : (t ++ blT j).size ≤ 46000 := by rw [ByteArray.size_append]; omega
      by_cases hlj : j < dn
      · have HK : Hid (t ++ blT (j + 1) = t ++ blT j ++ ⟨#[32]⟩) := by show _ = _; rw [blT, ByteArray.append_assoc]
        have hpos : (0 : Int) < (dn : Int) - (j : Int) := by omega
        generalize t ++ blT j = t2 at z5 HK
        go_wp2
        go_round
        case rel => exact ⟨j + 1, by omega, by go_num, by rw [HK.out]⟩
        case measure => simp [intOf]; omega
      obtain rfl : j = dn := by omega
      have hz0 : ((j : Int) - (j : Int)) = 0 := by omega
      rw [hz0]
      clear hlj hj
      generalize t ++ blT j = t2 at z5 HS1
      clear z1 z4 hz0
      go_wp2_with (with_reducible show wpList _ _ _ (⟨some 29, Op.load 42 _, _, _, _, _⟩ :: _) _ _; refine wpList_load_mid rfl 42 _ rfl wr.heap.size 0 rfl (ndL x) _ RN.out Tryd.underlying42 rfl (by kernel_rfl) ?_)
      refine (IT _).mono ?_
      rintro e w1 ⟨rfl, c⟩
      have hc1' : w1.cell? ⟨wr.heap.size, 1, none⟩ = some (.string x.tx) := (c.cell ltW).trans hc1
      have RS1 : Hid (w1.rangeAt wr.heap.size 2 (#[.int .i64 x.st.sh, .int .i64 x.st.fl, .int .i64 x.st.cl, .bool x.st.w.a, .bool x.st.w.p, .int .i64 x.st.w.n, .bool x.st.h.a, .bool x.st.h.p, .int .i64 x.st.h.n, .int .i64 x.st.mn, .int .i64 x.st.mx, .int .i64 x.st.mt, .bool x.st.mr.a, .bool x.st.mr.p, .int .i64 x.st.mr.n, .int .i64 x.st.mb, .bool x.st.ml.a, .bool x.st.ml.p, .int .i64 x.st.ml.n, .int .i64 x.st.bo, .int .i64 x.st.pa, .int .i64 x.st.wh, .int .i64 x.st.al, .int .i64 x.st.lh, .int .i64 x.st.ri, .int .i64 x.st.dn] : Array Value).toList) := fun j v hj => (c.cell ltW).trans (RS.out j v hj)
      have b1 := bW.trans (c.mono bW.size)
      have ltW1 : wr.heap.size < w1.heap.size := Nat.lt_of_lt_of_le ltW c.size
      clear IT c hc1 RN RS l0' bW
      cases hz : zeroS x.st
      · have hsty := HO2.out hz
        have HF0 := nodeT_no hz
        have HB0 := nodeB_no hz
        have ST := fun W => specStyleText_any x.st W
        have z6 := txtT_size x.st
        rw [HF0] at HS1
        cases htb : txtB x.st
        · have e1 := tt_node HX.out (HB0.trans htb)
          have HE1 : Hid (rb = false) := HRB.out.trans e1
          have HE2 : Hid (rt = ⟨#[]⟩) := HRT.out.trans (tt_no e1)
          rw [htb] at ST
          clear e1 HF0 HB0 htb hz hsty
          generalize txtT x.st = ts at ST z6 HS1
          obtain rfl := HE1.out
          obtain rfl := HE2.out
          go_wp2_with (with_reducible show wpList _ _ _ (⟨some 44, Op.load 40 _, _, _, _, _⟩ :: _) _ _; refine wpList_load_mid rfl 40 _ rfl wr.heap.size 2 rfl (#[.int .i64 x.st.sh, .int .i64 x.st.fl, .int .i64 x.st.cl, .bool x.st.w.a, .bool x.st.w.p, .int .i64 x.st.w.n, .bool x.st.h.a, .bool x.st.h.p, .int .i64 x.st.h.n, .int .i64 x.st.mn, .int .i64 x.st.mx, .int .i64 x.st.mt, .bool x.st.mr.a, .bool x.st.mr.p, .int .i64 x.st.mr.n, .int .i64 x.st.mb, .bool x.st.ml.a, .bool x.st.ml.p, .int .i64 x.st.ml.n, .int .i64 x.st.bo, .int .i64 x.st.pa, .int .i64 x.st.wh, .int .i64 x.st.al, .int .i64 x.st.lh, .int .i64 x.st.ri, .int .i64 x.st.dn] : Array Value).toList _ RS1.out Tryd.underlying40 rfl (by kernel_rfl) ?_)
          refine (ST _).mono ?_
          rintro e w2 ⟨rfl, c⟩
          have b2 := b1.trans (c.mono b1.size)
          clear c ST b1 RS1 hc1'
          go_wp2
          go_ret2
          exact ⟨rfl, b2⟩
        · have HNB := HB0.trans htb
          rw [htb] at ST
          clear HF0 HB0 htb hz hsty
          generalize txtT x.st = ts at ST z6 HS1
          go_wp2_with (with_reducible show wpList _ _ _ (⟨some 44, Op.load 40 _, _, _, _, _⟩ :: _) _ _; refine wpList_load_mid rfl 40 _ rfl wr.heap.size 2 rfl (#[.int .i64 x.st.sh, .int .i64 x.st.fl, .int .i64 x.st.cl, .bool x.st.w.a, .bool x.st.w.p, .int .i64 x.st.w.n, .bool x.st.h.a, .bool x.st.h.p, .int .i64 x.st.h.n, .int .i64 x.st.mn, .int .i64 x.st.mx, .int .i64 x.st.mt, .bool x.st.mr.a, .bool x.st.mr.p, .int .i64 x.st.mr.n, .int .i64 x.st.mb, .bool x.st.ml.a, .bool x.st.ml.p, .int .i64 x.st.ml.n, .int .i64 x.st.bo, .int .i64 x.st.pa, .int .i64 x.st.wh, .int .i64 x.st.al, .int .i64 x.st.lh, .int .i64 x.st.ri, .int .i64 x.st.dn] : Array Value).toList _ RS1.out Tryd.underlying40 rfl (by kernel_rfl) ?_)
          refine (ST _).mono ?_
          rintro e w2 ⟨rfl, c⟩
          have b2 := b1.trans (c.mono b1.size)
          clear c ST b1 RS1 hc1'
          have HNB' : Hid (nodeB x = true) := HNB
          clear HNB
          go_wp2
          go_roundw
          case rel => exact ⟨k + 1, by omega, by go_num, by rw [HS1.out], stepN HX.out HNB'.out HP.out, b2⟩
          case measure => simp [intOf]; omega
      · have htx := HO1.out hz
        have HF0 := nodeT_yes hz
        have HB0 := nodeB_yes hz
        have FC := fun W => specForcedL_any x.tx W htx
        rw [HF0] at HS1
        have HTN : Hid (tenN x.tx = (placesL (tenB x.tx) x.tx.size).length) := rfl
        generalize placesL (tenB x.tx) x.tx.size = zs at FC HTN
        by_cases ht0 : tenN x.tx = 0
        · have HNB' : Hid (nodeB x = true) := HB0.trans (decide_eq_true ht0)
          have hzs : zs.length = 0 := by rw [← HTN.out]; exact ht0
          clear HF0 HB0 hz ht0
          go_wp2_with fail
          refine (FC _).mono ?_
          rintro e w2 ⟨v, rfl, hown, c⟩
          obtain ⟨a', cap', rfl, _⟩ := hown.row
          rw [hzs]
          have hc2 : w2.cell? ⟨wr.heap.size, 1, none⟩ = some (.string x.tx) := (c.cell ltW1).trans hc1'
          have b2 := b1.trans (c.mono b1.size)
          clear c FC b1 RS1 hc1' hown
          go_wp2
          go_roundw
          case rel => exact ⟨k + 1, by omega, by go_num, by rw [HS1.out], stepN HX.out HNB'.out HP.out, b2⟩
          case measure => simp [intOf]; omega
        · have e1 := tt_node HX.out (HB0.trans (decide_eq_false ht0))
          have HE1 : Hid (rb = false) := HRB.out.trans e1
          have HE2 : Hid (rt = ⟨#[]⟩) := HRT.out.trans (tt_no e1)
          have hzs : 0 < zs.length := by rw [← HTN.out]; omega
          have hzs' : (0 : Int) < (zs.length : Int) := by omega
          clear HF0 HB0 hz ht0 e1
          obtain rfl := HE1.out
          obtain rfl := HE2.out
          go_wp2_with fail
          refine (FC _).mono ?_
          rintro e w2 ⟨v, rfl, hown, c⟩
          obtain ⟨a', cap', rfl, _⟩ := hown.row
          have b2 := b1.trans (c.mono b1.size)
          clear c FC b1 RS1 hc1' hown
          go_wp2
          go_ret2
          exact ⟨rfl, b2⟩
theorem specTT_any (a : Option Addr) (cap : Nat) (ns : List Nd) (w : World) (hr : NdRow w a ns) (hl : ns.length ≤ 1048576) (hs : ∀ x ∈ ns, x.tx.size ≤ 1048576) :
    Calls Tryd.prog 5 #[.slice a ns.length cap] w fun e w' => e = .returned (.tuple #[.string (ttT ns), .bool (ttB ns)]) ∧ Below w.heap.size w w' := by
  have GT := specTree_any a cap ns w hr hl hs
  cases hg : treeB (okB true) styleB ns
  · rw [hg] at GT
    rw [tt_bad hg, tt_no (tt_bad hg)]
    generalize ns.length = n at GT hl
    clear hr hs hg
    go_enter Tryd.func5, Tryd.ntmps5
    go_wp2_with fail
    refine GT.mono ?_
    rintro e w0 ⟨rfl, hb0⟩
    clear GT
    go_wp2
    go_ret2
    exact ⟨rfl, hb0⟩
  · rw [hg] at GT
    obtain ⟨g1, _⟩ := tree_of hg
    rcases hr with rfl | ⟨b, off, rfl, hc⟩
    · simp at g1
    · exact specTT_good b off ns.length cap ns w rfl hg hc GT
end Go.Proofs.YtddnphgpdnedbaaDoor
