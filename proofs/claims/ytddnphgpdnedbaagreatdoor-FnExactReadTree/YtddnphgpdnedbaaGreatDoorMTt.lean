/-
  A tree as a text: plain mathematics.
  The model's count of the elements around a node.
  The model's text of a tree.
  The program's text of a node, and of a tree.
-/
import Derived.Test.YtddnphgpdnedbaaGreatDoorNdM
import Derived.Test.YtddnphgpdnedbaaGreatDoorMTg
import Derived.Test.YtddnphgpdnedbaaGreatDoorMTb
import Derived.Test.YtddnphgpdnedbaaGreatDoorShelfC
import Derived.Lib.IndexLaws
import Derived.Deep.RegionHeld3
namespace Go.Proofs.YtddnphgpdnedbaaGreatDoor
open Go.ChangeShapes Go.WideShapes Go.ChangeAt Go.RowKit
set_option linter.unusedVariables false

theorem chain_one (ns : List Nd) (k : Nat) : 1 ≤ (chainL ns k).length := List.length_pos_of_mem (chain_last ns k)
/-- How many elements are around node k. -/
def deepN (ns : List Nd) (k : Nat) : Nat := (chainL ns k).length - 1
def blT : Nat → ByteArray
  | 0 => ⟨#[]⟩
  | n + 1 => blT n ++ ⟨#[32]⟩
theorem blT_size : ∀ n, (blT n).size = n
  | 0 => rfl
  | n + 1 => by rw [blT, ByteArray.size_append, blT_size n]; rfl
theorem blT_nil (t : ByteArray) : t ++ blT 0 = t := by
  rw [blT]
  apply ByteArray.ext
  simp
def nodeT (x : Nd) : ByteArray := if zeroS x.st then ⟨#[124]⟩ ++ x.tx ++ ⟨#[10]⟩ else ⟨#[60]⟩ ++ txtT x.st ++ ⟨#[10]⟩
theorem nodeT_yes {x : Nd} (h : zeroS x.st = true) : nodeT x = ⟨#[124]⟩ ++ x.tx ++ ⟨#[10]⟩ := by rw [nodeT, if_pos h]
theorem nodeT_no {x : Nd} (h : zeroS x.st = false) : nodeT x = ⟨#[60]⟩ ++ txtT x.st ++ ⟨#[10]⟩ := by rw [nodeT, if_neg (by rw [h]; decide)]
def treT (ns : List Nd) : Nat → ByteArray
  | 0 => ⟨#[]⟩
  | k + 1 => treT ns k ++ blT (deepN ns k) ++ nodeT (ns.getD k nd0)
theorem treT_step {ns : List Nd} {k : Nat} {x : Nd} (h : ns[k]? = some x) : treT ns (k + 1) = treT ns k ++ blT (deepN ns k) ++ nodeT x := by rw [treT, getD_of h]
/-- How many tens a text has. -/
def tenN (s : ByteArray) : Nat := (placesL (tenB s) s.size).length
def nodeB (x : Nd) : Bool := if zeroS x.st then decide (tenN x.tx = 0) else txtB x.st
theorem nodeB_yes {x : Nd} (h : zeroS x.st = true) : nodeB x = decide (tenN x.tx = 0) := by rw [nodeB, if_pos h]
theorem nodeB_no {x : Nd} (h : zeroS x.st = false) : nodeB x = txtB x.st := by rw [nodeB, if_neg (by rw [h]; decide)]
def ttB (ns : List Nd) : Bool := treeB (okB true) styleB ns && ns.all nodeB && decide ((treT ns ns.length).size ≤ 3000)
def ttT (ns : List Nd) : ByteArray := if ttB ns then treT ns ns.length else ⟨#[]⟩
theorem tt_no {ns : List Nd} (h : ttB ns = false) : ttT ns = ⟨#[]⟩ := by rw [ttT, if_neg (by rw [h]; decide)]
theorem tt_bad {ns : List Nd} (h : treeB (okB true) styleB ns = false) : ttB ns = false := by rw [ttB, h]; rfl
theorem tt_node {ns : List Nd} {k : Nat} {x : Nd} (hx : ns[k]? = some x) (h : nodeB x = false) : ttB ns = false := by
  have : ns.all nodeB = false := by
    rw [List.all_eq_false]
    exact ⟨x, List.mem_of_getElem? hx, by simp [h]⟩
  rw [ttB, this]
  simp
theorem tt_all {ns : List Nd} (h : ∀ (i : Nat) (x : Nd), i < ns.length → ns[i]? = some x → nodeB x = true) : ns.all nodeB = true := by
  rw [List.all_eq_true]
  intro x hm
  obtain ⟨i, hi, rfl⟩ := List.getElem_of_mem hm
  exact h i _ hi (List.getElem?_eq_getElem hi)
theorem tt_long {ns : List Nd} (h : ¬ (treT ns ns.length).size ≤ 3000) : ttB ns = false := by rw [ttB, decide_eq_false h]; simp
theorem tt_yes {ns : List Nd} (h1 : treeB (okB true) styleB ns = true) (h2 : ns.all nodeB = true) (h3 : (treT ns ns.length).size ≤ 3000) : ttB ns = true ∧ ttT ns = treT ns ns.length := by
  have e : ttB ns = true := by rw [ttB, h1, h2, decide_eq_true h3]; rfl
  exact ⟨e, by rw [ttT, if_pos e]⟩
theorem stepN {ns : List Nd} {k : Nat} {x : Nd} (hx : ns[k]? = some x) (h : nodeB x = true) (hp : ∀ (i : Nat) (y : Nd), i < k → ns[i]? = some y → nodeB y = true) (i : Nat) (y : Nd) (hi : i < k + 1) (hy : ns[i]? = some y) : nodeB y = true := by
  by_cases e : i = k
  · subst e
    obtain rfl := Option.some.inj (hx.symm.trans hy)
    exact h
  · exact hp i y (by omega) hy
/-- What a good tree gives. -/
theorem tree_of {ns : List Nd} (h : treeB (okB true) styleB ns = true) : 1 ≤ ns.length ∧ ns.length ≤ 40 ∧ (∀ j, j < ns.length → Stands ns j) ∧ ∀ (i : Nat) (x : Nd), ns[i]? = some x → (zeroS x.st = true → x.tx.size ≤ 200) ∧ (zeroS x.st = false → styleB x.st = true) := by
  rw [treeB, Bool.and_eq_true, Bool.and_eq_true] at h
  obtain ⟨⟨h1, h2⟩, h3⟩ := h
  have h3 := List.all_eq_true.1 h3
  have hu : ∀ j, j < ns.length → okUp ns j = true := fun j hj => by
    have := h3 j (List.mem_range.2 hj)
    rw [okAt, Bool.and_eq_true] at this
    exact this.1
  refine ⟨of_decide_eq_true h1, of_decide_eq_true h2, stands_of _ hu, fun i x hx => ?_⟩
  have := h3 i (List.mem_range.2 (List.getElem?_eq_some_iff.1 hx).1)
  rw [okAt, Bool.and_eq_true, getD_of hx, okN] at this
  refine ⟨fun hz => ?_, fun hz => ?_⟩
  · rw [if_pos hz, Bool.and_eq_true] at this
    exact (okB_yes this.2.2).1
  · rw [if_neg (by rw [hz]; decide), Bool.and_eq_true] at this
    exact this.2.2
theorem deep_le {ns : List Nd} {k : Nat} (h : Stands ns k) : deepN ns k ≤ 8 := by
  unfold deepN
  by_cases h0 : 0 < k
  · obtain ⟨u, hu, he, _, _⟩ := h.ups h0
    have hd := h.deep h0
    rw [he] at hd
    rw [chain_in he hu, List.length_append]
    simp at hd ⊢
    omega
  · rw [chain_top (by have := h.top (by omega); omega)]
    simp
theorem txtT_size (s : St) : (txtT s).size ≤ 1116 := by
  unfold txtT
  split
  · rename_i h
    rw [txtB, Bool.and_eq_true] at h
    exact textTo_size s h.1 18 (Nat.le_refl _)
  · exact Nat.zero_le _
theorem tsize1 (a : UInt8) : (⟨#[a]⟩ : ByteArray).size = 1 := rfl
theorem nodeT_size {x : Nd} (h : zeroS x.st = true → x.tx.size ≤ 200) : (nodeT x).size ≤ 1118 := by
  cases hz : zeroS x.st
  · rw [nodeT_no hz, ByteArray.size_append, ByteArray.size_append, tsize1, tsize1]
    have := txtT_size x.st
    omega
  · rw [nodeT_yes hz, ByteArray.size_append, ByteArray.size_append, tsize1, tsize1]
    have := h hz
    omega
theorem treT_size {ns : List Nd} (h : treeB (okB true) styleB ns = true) : ∀ k, k ≤ ns.length → (treT ns k).size ≤ 1126 * k
  | 0, _ => Nat.zero_le _
  | k + 1, hk => by
    obtain ⟨_, _, hst, hn⟩ := tree_of h
    have h1 := treT_size h k (by omega)
    obtain ⟨x, hx⟩ : ∃ x, ns[k]? = some x := ⟨_, List.getElem?_eq_getElem (by omega)⟩
    have h2 := nodeT_size (hn k x hx).1
    have h3 := deep_le (hst k (by omega))
    rw [treT_step hx, ByteArray.size_append, ByteArray.size_append, blT_size]
    omega
end Go.Proofs.YtddnphgpdnedbaaGreatDoor

namespace Go.Proofs.YtddnphgpdnedbaaGreatDoor
open Go.ChangeShapes Go.WideShapes Go.ChangeAt Go.RowKit
set_option linter.unusedVariables false

set_option maxHeartbeats 4000000 in
theorem l10Deep_any (b off n cap k : Nat) (ns : List Nd) (w : World) (hn : n = ns.length) (hn40 : n ≤ 40) (hk : k < n) (hst : ∀ j, j < ns.length → Stands ns j) (hc : ∀ i x, ns[i]? = some x → w.rangeAt b (off + i * 28) (ndL x)) :
    Calls Tryz.prog 21 #[.slice (some ⟨b, off, none⟩) n cap, .int .i64 k] w fun e w' => e = .returned (.int .i64 (deepN ns k)) ∧ w' = w := by
  have CU : Hid (∀ v : Nat, v < n → w.cell? ⟨b, off + v * 28, none⟩ = some (.int .i64 (upL ns v))) := fun v hv => by
    obtain ⟨y, hy⟩ : ∃ y, ns[v]? = some y := ⟨_, List.getElem?_eq_getElem (by omega)⟩
    have h := (hc v y hy) 0 _ rfl
    rw [Nat.add_zero] at h
    rw [h, upL, getD_of hy]
  have HST : Hid (∀ j, j < n → Stands ns j) := by show ∀ j, j < n → Stands ns j; rw [hn]; exact hst
  have HD : Hid (deepN ns k = (chainL ns k).length - 1) := rfl
  have HC1 : Hid (∀ j, 1 ≤ (chainL ns j).length) := chain_one ns
  generalize deepN ns k = dn at HD ⊢
  clear hn hst hc
  have q0 := CU.out k hk
  go_enter Tryz.func21, Tryz.ntmps21
  go_wp2_with fail
  go_loop [5, 6] (fun c v => ∃ (j m : Nat), j ≤ k ∧ m ≤ k ∧ c = .int .i64 m ∧ v = .int .i64 (upL ns j) ∧ j + m ≤ k ∧ (chainL ns k).length = (chainL ns j).length + m) (fun _ v => (intOf v + 1).toNat)
  case atStart => exact ⟨k, 0, Nat.le_refl _, Nat.zero_le _, rfl, rfl, by omega, by omega⟩
  case round =>
    clear q0
    obtain ⟨j, m, hj, hm, rfl, rfl, hjm, hlen⟩ := hrel
    have HL : Hid ((chainL ns k).length = (chainL ns j).length + m) := hlen
    clear hlen
    by_cases hu : upL ns j < 0
    · have hu' : ¬ (0 ≤ upL ns j) := by omega
      have HR : Hid ((m : Int) = (dn : Int)) := by
        show (m : Int) = (dn : Int)
        rw [HD.out, HL.out, chain_top hu]
        simp
      go_wp2
      go_ret
      exact ⟨congrArg (fun z => Ending.returned (.int .i64 z)) HR.out, rfl⟩
    have hj0 : 0 < j := by
      rcases Nat.eq_zero_or_pos j with h | h
      · exact absurd ((HST.out j (by omega)).top h) (by omega)
      · exact h
    obtain ⟨u, hul, he, _, _⟩ := (HST.out j (by omega)).ups hj0
    have q1 := CU.out u (by omega)
    have HL2 : Hid ((chainL ns k).length = (chainL ns u).length + (m + 1)) := by
      show (chainL ns k).length = _
      rw [HL.out, chain_in he hul, List.length_append]
      simp
      omega
    have HE : Hid (upL ns j = (u : Int)) := he
    rw [he]
    have HUP : Hid (upL ns u < (u : Int)) := by
      show upL ns u < (u : Int)
      rcases Nat.eq_zero_or_pos u with h | h
      · rw [(HST.out u (by omega)).top h]; omega
      · obtain ⟨u', h1, h2, _, _⟩ := (HST.out u (by omega)).ups h
        omega
    obtain ⟨z, hz⟩ : ∃ z, z = upL ns u := ⟨_, rfl⟩
    have HZ : Hid (z = upL ns u) := hz
    have HUZ : Hid (z < (u : Int) ∧ -1 ≤ z) := by
      show z < (u : Int) ∧ -1 ≤ z
      refine ⟨by rw [hz]; exact HUP.out, ?_⟩
      rw [hz]
      rcases Nat.eq_zero_or_pos u with h | h
      · rw [(HST.out u (by omega)).top h]; omega
      · obtain ⟨u', h1, h2, _, _⟩ := (HST.out u (by omega)).ups h
        omega
    rw [← hz] at q1
    clear hu he hz
    go_wp2
    go_round
    case rel => exact ⟨u, m + 1, by omega, by omega, by go_num, by rw [HZ.out], by omega, HL2.out⟩
    case measure =>
      have := HUZ.out
      simp [intOf]
      omega
end Go.Proofs.YtddnphgpdnedbaaGreatDoor

namespace Go.Proofs.YtddnphgpdnedbaaGreatDoor
open Go.ChangeShapes Go.WideShapes Go.ChangeAt Go.RowKit
set_option linter.unusedVariables false

set_option maxRecDepth 100000 in
set_option maxHeartbeats 8000000 in
theorem specTT_good (b off n cap : Nat) (ns : List Nd) (w : World) (hn : n = ns.length) (hg : treeB (okB true) styleB ns = true)
    (hc : ∀ i x, ns[i]? = some x → w.rangeAt b (off + i * 28) (ndL x)) (GT : Calls Tryz.prog 20 #[.slice (some ⟨b, off, none⟩) n cap] w fun e w' => e = .returned (.bool true) ∧ Below w.heap.size w w') :
    Calls Tryz.prog 11 #[.slice (some ⟨b, off, none⟩) n cap] w fun e w' => e = .returned (.tuple #[.string (ttT ns), .bool (ttB ns)]) ∧ Below w.heap.size w w' := by
  obtain ⟨g1, g2, g3, g4⟩ := tree_of hg
  have HC : Hid (∀ i x, ns[i]? = some x → w.rangeAt b (off + i * 28) (ndL x)) := hc
  have HN : Hid (n = ns.length) := hn
  have HG : Hid (treeB (okB true) styleB ns = true) := hg
  have HST : Hid (∀ j, j < ns.length → Stands ns j) := g3
  have HOK : Hid (∀ (i : Nat) (x : Nd), ns[i]? = some x → (zeroS x.st = true → x.tx.size ≤ 200) ∧ (zeroS x.st = false → styleB x.st = true)) := g4
  have HZ : Hid (∀ k, k ≤ ns.length → (treT ns k).size ≤ 1126 * k) := treT_size hg
  have h40 : n ≤ 40 := by omega
  clear hc hn hg g1 g2 g3 g4
  obtain ⟨rb, hrb⟩ : ∃ r, r = ttB ns := ⟨_, rfl⟩
  obtain ⟨rt, hrt⟩ : ∃ r, r = ttT ns := ⟨_, rfl⟩
  have HRB : Hid (rb = ttB ns) := hrb
  have HRT : Hid (rt = ttT ns) := hrt
  rw [← hrb, ← hrt]
  clear hrb hrt
  go_enter Tryz.func11, Tryz.ntmps11
  go_wp2_with fail
  refine GT.mono ?_
  rintro e w0 ⟨rfl, hb0⟩
  clear GT
  go_wp2_with fail
  go_loopw [4, 15] (fun v i wr => ∃ k : Nat, k ≤ n ∧ i = .int .i64 k ∧ v = .string (treT ns k) ∧ (∀ (i : Nat) (y : Nd), i < k → ns[i]? = some y → nodeB y = true) ∧ Below w.heap.size w wr) (fun _ i _ => n - (intOf i).toNat)
  case atStart => exact ⟨0, Nat.zero_le _, rfl, rfl, fun i y hi => absurd hi (by omega), hb0⟩
  case round =>
    clear hb0
    obtain ⟨k, hk, rfl, rfl, hp, hbw⟩ := hrel
    have HP : Hid (∀ (i : Nat) (y : Nd), i < k → ns[i]? = some y → nodeB y = true) := hp
    clear hp
    have z1 := HZ.out k (by have := HN.out; omega)
    by_cases hlt : k < n
    rotate_left
    · have e : k = ns.length := by have := HN.out; omega
      have HA := tt_all (ns := ns) (fun i x hi hx => HP.out i x (by omega) hx)
      by_cases h3 : (treT ns ns.length).size ≤ 3000
      · obtain ⟨e1, e2⟩ := tt_yes HG.out HA h3
        rw [← e] at e2 h3
        have HE1 : Hid (rb = true) := HRB.out.trans e1
        have HE2 : Hid (rt = treT ns k) := HRT.out.trans e2
        clear e1 e2 HA e
        generalize treT ns k = t at z1 h3 HE2
        have h3' : ¬ ((3000 : Int) < (t.size : Int)) := by omega
        obtain rfl := HE1.out
        obtain rfl := HE2.out
        go_wp2
        go_ret2
        exact ⟨rfl, hbw⟩
      · have e1 := tt_long h3
        have e2 := tt_no e1
        rw [← e] at h3
        have HE1 : Hid (rb = false) := HRB.out.trans e1
        have HE2 : Hid (rt = ⟨#[]⟩) := HRT.out.trans e2
        clear e1 e2 HA e
        generalize treT ns k = t at z1 h3
        have h3' : (3000 : Int) < (t.size : Int) := by omega
        obtain rfl := HE1.out
        obtain rfl := HE2.out
        go_wp2
        go_ret2
        exact ⟨rfl, hbw⟩
    obtain ⟨x, hx⟩ : ∃ x, ns[k]? = some x := ⟨_, List.getElem?_eq_getElem (by have := HN.out; omega)⟩
    have hr : wr.rangeAt b (off + k * 28) (ndL x) := range_below (HC.out k x hx) hbw (range_lt (HC.out k x hx))
    have HX : Hid (ns[k]? = some x) := hx
    obtain ⟨o1, o2⟩ := HOK.out k x hx
    have HO1 : Hid (zeroS x.st = true → x.tx.size ≤ 200) := o1
    have HO2 : Hid (zeroS x.st = false → styleB x.st = true) := o2
    have hd8 := deep_le (HST.out k (by have := HN.out; omega))
    have DP := fun (W : World) (hb : Below w.heap.size w W) => l10Deep_any b off n cap k ns W HN.out h40 hlt HST.out (fun i y hy => range_below (HC.out i y hy) hb (range_lt (HC.out i y hy)))
    have IT := fun W => specIsText_any x W
    have HS1 : Hid (treT ns (k + 1) = treT ns k ++ blT (deepN ns k) ++ nodeT x) := treT_step hx
    clear hx o1 o2
    generalize deepN ns k = dn at hd8 DP HS1
    generalize treT ns k = t at z1 HS1
    go_wp2_with (first
        | (with_reducible show wpList _ _ _ (⟨some 19, Op.load 36 _, _, _, _, _⟩ :: _) _ _; refine wpList_load_mid rfl 36 _ rfl b (off + k * 28) rfl (ndL x) _ hr Tryz.underlying36 rfl (by kernel_rfl) ?_)
        | (with_reducible show wpList _ _ _ (⟨none, Op.store 36 _ _, _, _, _, _⟩ :: _) _ _; refine wpList_store_box rfl 36 _ _ rfl rfl (#[.int .i64 x.up, .string x.tx, .int .i64 x.st.sh, .int .i64 x.st.fl, .int .i64 x.st.cl, .bool x.st.w.a, .bool x.st.w.p, .int .i64 x.st.w.n, .bool x.st.h.a, .bool x.st.h.p, .int .i64 x.st.h.n, .int .i64 x.st.mn, .int .i64 x.st.mx, .int .i64 x.st.mt, .bool x.st.mr.a, .bool x.st.mr.p, .int .i64 x.st.mr.n, .int .i64 x.st.mb, .bool x.st.ml.a, .bool x.st.ml.p, .int .i64 x.st.ml.n, .int .i64 x.st.bo, .int .i64 x.st.pa, .int .i64 x.st.wh, .int .i64 x.st.al, .int .i64 x.st.lh, .int .i64 x.st.ri, .int .i64 x.st.dn]) rfl rfl (by kernel_rfl) rfl (by kernel_rfl) ?_; intro W bel l0 hsz; refine stay ?_))
    have hc1 : W.cell? ⟨wr.heap.size, 1, none⟩ = some (.string x.tx) := (lies_cell l0 1).trans rfl
    have bW := hbw.trans (bel.mono hbw.size)
    have l0' : Hid (W.heap[wr.heap.size]? = some (.cells (#[.int .i64 x.up, .string x.tx, .int .i64 x.st.sh, .int .i64 x.st.fl, .int .i64 x.st.cl, .bool x.st.w.a, .bool x.st.w.p, .int .i64 x.st.w.n, .bool x.st.h.a, .bool x.st.h.p, .int .i64 x.st.h.n, .int .i64 x.st.mn, .int .i64 x.st.mx, .int .i64 x.st.mt, .bool x.st.mr.a, .bool x.st.mr.p, .int .i64 x.st.mr.n, .int .i64 x.st.mb, .bool x.st.ml.a, .bool x.st.ml.p, .int .i64 x.st.ml.n, .int .i64 x.st.bo, .int .i64 x.st.pa, .int .i64 x.st.wh, .int .i64 x.st.al, .int .i64 x.st.lh, .int .i64 x.st.ri, .int .i64 x.st.dn]) 36 (0, 0))) := l0
    have RN : Hid (W.rangeAt wr.heap.size 0 (ndL x)) := show W.rangeAt wr.heap.size 0 (#[.int .i64 x.up, .string x.tx, .int .i64 x.st.sh, .int .i64 x.st.fl, .int .i64 x.st.cl, .bool x.st.w.a, .bool x.st.w.p, .int .i64 x.st.w.n, .bool x.st.h.a, .bool x.st.h.p, .int .i64 x.st.h.n, .int .i64 x.st.mn, .int .i64 x.st.mx, .int .i64 x.st.mt, .bool x.st.mr.a, .bool x.st.mr.p, .int .i64 x.st.mr.n, .int .i64 x.st.mb, .bool x.st.ml.a, .bool x.st.ml.p, .int .i64 x.st.ml.n, .int .i64 x.st.bo, .int .i64 x.st.pa, .int .i64 x.st.wh, .int .i64 x.st.al, .int .i64 x.st.lh, .int .i64 x.st.ri, .int .i64 x.st.dn] : Array Value).toList from fun j v hj => (lies_cell l0 (0 + j)).trans (by rw [← hj, Nat.zero_add]; simp)
    have RS : Hid (W.rangeAt wr.heap.size 2 (#[.int .i64 x.st.sh, .int .i64 x.st.fl, .int .i64 x.st.cl, .bool x.st.w.a, .bool x.st.w.p, .int .i64 x.st.w.n, .bool x.st.h.a, .bool x.st.h.p, .int .i64 x.st.h.n, .int .i64 x.st.mn, .int .i64 x.st.mx, .int .i64 x.st.mt, .bool x.st.mr.a, .bool x.st.mr.p, .int .i64 x.st.mr.n, .int .i64 x.st.mb, .bool x.st.ml.a, .bool x.st.ml.p, .int .i64 x.st.ml.n, .int .i64 x.st.bo, .int .i64 x.st.pa, .int .i64 x.st.wh, .int .i64 x.st.al, .int .i64 x.st.lh, .int .i64 x.st.ri, .int .i64 x.st.dn] : Array Value).toList) := fun j v hj => (lies_cell l0 (2 + j)).trans (by show _ = some v; rw [← hj, show (#[.int .i64 x.st.sh, .int .i64 x.st.fl, .int .i64 x.st.cl, .bool x.st.w.a, .bool x.st.w.p, .int .i64 x.st.w.n, .bool x.st.h.a, .bool x.st.h.p, .int .i64 x.st.h.n, .int .i64 x.st.mn, .int .i64 x.st.mx, .int .i64 x.st.mt, .bool x.st.mr.a, .bool x.st.mr.p, .int .i64 x.st.mr.n, .int .i64 x.st.mb, .bool x.st.ml.a, .bool x.st.ml.p, .int .i64 x.st.ml.n, .int .i64 x.st.bo, .int .i64 x.st.pa, .int .i64 x.st.wh, .int .i64 x.st.al, .int .i64 x.st.lh, .int .i64 x.st.ri, .int .i64 x.st.dn] : Array Value).toList = (#[.int .i64 x.up, .string x.tx, .int .i64 x.st.sh, .int .i64 x.st.fl, .int .i64 x.st.cl, .bool x.st.w.a, .bool x.st.w.p, .int .i64 x.st.w.n, .bool x.st.h.a, .bool x.st.h.p, .int .i64 x.st.h.n, .int .i64 x.st.mn, .int .i64 x.st.mx, .int .i64 x.st.mt, .bool x.st.mr.a, .bool x.st.mr.p, .int .i64 x.st.mr.n, .int .i64 x.st.mb, .bool x.st.ml.a, .bool x.st.ml.p, .int .i64 x.st.ml.n, .int .i64 x.st.bo, .int .i64 x.st.pa, .int .i64 x.st.wh, .int .i64 x.st.al, .int .i64 x.st.lh, .int .i64 x.st.ri, .int .i64 x.st.dn] : Array Value).toList.drop 2 from rfl, List.getElem?_drop]; simp)
    have ltW : wr.heap.size < W.heap.size := by omega
    unfold Stay
    clear hr bel hbw l0
    go_wp2_with fail
    refine (DP _ bW).mono ?_
    rintro e w' ⟨rfl, hw⟩
    have hw := hw.symm
    subst hw
    clear DP
    go_wp2_with fail
    go_loop [4, 7] (fun v i => ∃ j : Nat, j ≤ dn ∧ i = .int .i64 ((dn : Int) - (j : Int)) ∧ v = .string (t ++ blT j)) (fun _ i => (intOf i).toNat)
    case atStart => exact ⟨0, Nat.zero_le _, by go_num, by rw [blT_nil]⟩
    case round =>
      obtain ⟨j, hj, rfl, rfl⟩ := hrel
      have z4 := blT_size j
      have z5 : (t ++ blT j).size ≤ 46000 := by rw [ByteArray.size_append]; omega
      by_cases hlj : j < dn
      · have HK : Hid (t ++ blT (j + 1) = t ++ blT j ++ ⟨#[32]⟩) := by show _ = _; rw [blT, ByteArray.append_assoc]
        have hpos : (0 : Int) < (dn : Int) - (j : Int) := by omega
        generalize t ++ blT j = t2 at z5 HK
        go_wp2
        go_round
        case rel => exact ⟨j + 1, by omega, by go_num, by rw [HK.out]⟩
        case measure => simp [intOf]; omega
      obtain rfl : j = dn := by omega
      have hz0 : ((j : Int) - (j : Int)) = 0 := by omega
      rw [hz0]
      clear hlj hj
      generalize t ++ blT j = t2 at z5 HS1
      clear z1 z4 hz0
      go_wp2_with (with_reducible show wpList _ _ _ (⟨some 29, Op.load 36 _, _, _, _, _⟩ :: _) _ _; refine wpList_load_mid rfl 36 _ rfl wr.heap.size 0 rfl (ndL x) _ RN.out Tryz.underlying36 rfl (by kernel_rfl) ?_)
      refine (IT _).mono ?_
      rintro e w1 ⟨rfl, c⟩
      have hc1' : w1.cell? ⟨wr.heap.size, 1, none⟩ = some (.string x.tx) := (c.cell ltW).trans hc1
      have RS1 : Hid (w1.rangeAt wr.heap.size 2 (#[.int .i64 x.st.sh, .int .i64 x.st.fl, .int .i64 x.st.cl, .bool x.st.w.a, .bool x.st.w.p, .int .i64 x.st.w.n, .bool x.st.h.a, .bool x.st.h.p, .int .i64 x.st.h.n, .int .i64 x.st.mn, .int .i64 x.st.mx, .int .i64 x.st.mt, .bool x.st.mr.a, .bool x.st.mr.p, .int .i64 x.st.mr.n, .int .i64 x.st.mb, .bool x.st.ml.a, .bool x.st.ml.p, .int .i64 x.st.ml.n, .int .i64 x.st.bo, .int .i64 x.st.pa, .int .i64 x.st.wh, .int .i64 x.st.al, .int .i64 x.st.lh, .int .i64 x.st.ri, .int .i64 x.st.dn] : Array Value).toList) := fun j v hj => (c.cell ltW).trans (RS.out j v hj)
      have b1 := bW.trans (c.mono bW.size)
      have ltW1 : wr.heap.size < w1.heap.size := Nat.lt_of_lt_of_le ltW c.size
      clear IT c hc1 RN RS l0' bW
      cases hz : zeroS x.st
      · have hsty := HO2.out hz
        have HF0 := nodeT_no hz
        have HB0 := nodeB_no hz
        have ST := fun W => specStyleText_any x.st W
        have z6 := txtT_size x.st
        rw [HF0] at HS1
        cases htb : txtB x.st
        · have e1 := tt_node HX.out (HB0.trans htb)
          have HE1 : Hid (rb = false) := HRB.out.trans e1
          have HE2 : Hid (rt = ⟨#[]⟩) := HRT.out.trans (tt_no e1)
          rw [htb] at ST
          clear e1 HF0 HB0 htb hz hsty
          generalize txtT x.st = ts at ST z6 HS1
          obtain rfl := HE1.out
          obtain rfl := HE2.out
          go_wp2_with (with_reducible show wpList _ _ _ (⟨some 44, Op.load 34 _, _, _, _, _⟩ :: _) _ _; refine wpList_load_mid rfl 34 _ rfl wr.heap.size 2 rfl (#[.int .i64 x.st.sh, .int .i64 x.st.fl, .int .i64 x.st.cl, .bool x.st.w.a, .bool x.st.w.p, .int .i64 x.st.w.n, .bool x.st.h.a, .bool x.st.h.p, .int .i64 x.st.h.n, .int .i64 x.st.mn, .int .i64 x.st.mx, .int .i64 x.st.mt, .bool x.st.mr.a, .bool x.st.mr.p, .int .i64 x.st.mr.n, .int .i64 x.st.mb, .bool x.st.ml.a, .bool x.st.ml.p, .int .i64 x.st.ml.n, .int .i64 x.st.bo, .int .i64 x.st.pa, .int .i64 x.st.wh, .int .i64 x.st.al, .int .i64 x.st.lh, .int .i64 x.st.ri, .int .i64 x.st.dn] : Array Value).toList _ RS1.out Tryz.underlying34 rfl (by kernel_rfl) ?_)
          refine (ST _).mono ?_
          rintro e w2 ⟨rfl, c⟩
          have b2 := b1.trans (c.mono b1.size)
          clear c ST b1 RS1 hc1'
          go_wp2
          go_ret2
          exact ⟨rfl, b2⟩
        · have HNB := HB0.trans htb
          rw [htb] at ST
          clear HF0 HB0 htb hz hsty
          generalize txtT x.st = ts at ST z6 HS1
          go_wp2_with (with_reducible show wpList _ _ _ (⟨some 44, Op.load 34 _, _, _, _, _⟩ :: _) _ _; refine wpList_load_mid rfl 34 _ rfl wr.heap.size 2 rfl (#[.int .i64 x.st.sh, .int .i64 x.st.fl, .int .i64 x.st.cl, .bool x.st.w.a, .bool x.st.w.p, .int .i64 x.st.w.n, .bool x.st.h.a, .bool x.st.h.p, .int .i64 x.st.h.n, .int .i64 x.st.mn, .int .i64 x.st.mx, .int .i64 x.st.mt, .bool x.st.mr.a, .bool x.st.mr.p, .int .i64 x.st.mr.n, .int .i64 x.st.mb, .bool x.st.ml.a, .bool x.st.ml.p, .int .i64 x.st.ml.n, .int .i64 x.st.bo, .int .i64 x.st.pa, .int .i64 x.st.wh, .int .i64 x.st.al, .int .i64 x.st.lh, .int .i64 x.st.ri, .int .i64 x.st.dn] : Array Value).toList _ RS1.out Tryz.underlying34 rfl (by kernel_rfl) ?_)
          refine (ST _).mono ?_
          rintro e w2 ⟨rfl, c⟩
          have b2 := b1.trans (c.mono b1.size)
          clear c ST b1 RS1 hc1'
          have HNB' : Hid (nodeB x = true) := HNB
          clear HNB
          go_wp2
          go_roundw
          case rel => exact ⟨k + 1, by omega, by go_num, by rw [HS1.out], stepN HX.out HNB'.out HP.out, b2⟩
          case measure => simp [intOf]; omega
      · have htx := HO1.out hz
        have HF0 := nodeT_yes hz
        have HB0 := nodeB_yes hz
        have FC := fun W => specForcedL_any x.tx W htx
        rw [HF0] at HS1
        have HTN : Hid (tenN x.tx = (placesL (tenB x.tx) x.tx.size).length) := rfl
        generalize placesL (tenB x.tx) x.tx.size = zs at FC HTN
        by_cases ht0 : tenN x.tx = 0
        · have HNB' : Hid (nodeB x = true) := HB0.trans (decide_eq_true ht0)
          have hzs : zs.length = 0 := by rw [← HTN.out]; exact ht0
          clear HF0 HB0 hz ht0
          go_wp2_with fail
          refine (FC _).mono ?_
          rintro e w2 ⟨v, rfl, hown, c⟩
          obtain ⟨a', cap', rfl, _⟩ := hown.row
          rw [hzs]
          have hc2 : w2.cell? ⟨wr.heap.size, 1, none⟩ = some (.string x.tx) := (c.cell ltW1).trans hc1'
          have b2 := b1.trans (c.mono b1.size)
          clear c FC b1 RS1 hc1' hown
          go_wp2
          go_roundw
          case rel => exact ⟨k + 1, by omega, by go_num, by rw [HS1.out], stepN HX.out HNB'.out HP.out, b2⟩
          case measure => simp [intOf]; omega
        · have e1 := tt_node HX.out (HB0.trans (decide_eq_false ht0))
          have HE1 : Hid (rb = false) := HRB.out.trans e1
          have HE2 : Hid (rt = ⟨#[]⟩) := HRT.out.trans (tt_no e1)
          have hzs : 0 < zs.length := by rw [← HTN.out]; omega
          have hzs' : (0 : Int) < (zs.length : Int) := by omega
          clear HF0 HB0 hz ht0 e1
          obtain rfl := HE1.out
          obtain rfl := HE2.out
          go_wp2_with fail
          refine (FC _).mono ?_
          rintro e w2 ⟨v, rfl, hown, c⟩
          obtain ⟨a', cap', rfl, _⟩ := hown.row
          have b2 := b1.trans (c.mono b1.size)
          clear c FC b1 RS1 hc1' hown
          go_wp2
          go_ret2
          exact ⟨rfl, b2⟩
theorem specTT_any (a : Option Addr) (cap : Nat) (ns : List Nd) (w : World) (hr : NdRow w a ns) (hl : ns.length ≤ 1048576) (hs : ∀ x ∈ ns, x.tx.size ≤ 1048576) :
    Calls Tryz.prog 11 #[.slice a ns.length cap] w fun e w' => e = .returned (.tuple #[.string (ttT ns), .bool (ttB ns)]) ∧ Below w.heap.size w w' := by
  have GT := specTree_any a cap ns w hr hl hs
  cases hg : treeB (okB true) styleB ns
  · rw [hg] at GT
    rw [tt_bad hg, tt_no (tt_bad hg)]
    generalize ns.length = n at GT hl
    clear hr hs hg
    go_enter Tryz.func11, Tryz.ntmps11
    go_wp2_with fail
    refine GT.mono ?_
    rintro e w0 ⟨rfl, hb0⟩
    clear GT
    go_wp2
    go_ret2
    exact ⟨rfl, hb0⟩
  · rw [hg] at GT
    obtain ⟨g1, _⟩ := tree_of hg
    rcases hr with rfl | ⟨b, off, rfl, hc⟩
    · simp at g1
    · exact specTT_good b off ns.length cap ns w rfl hg hc GT
end Go.Proofs.YtddnphgpdnedbaaGreatDoor

namespace Go.Proofs.YtddnphgpdnedbaaGreatDoor
open Go.ChangeShapes Go.WideShapes Go.ChangeAt Go.RowKit
set_option linter.unusedVariables false

theorem places_nil {p : Nat → Bool} : ∀ {n : Nat}, (placesL p n).length = 0 ↔ ∀ i, i < n → p (i + 1) = false
  | 0 => by simp [placesL]
  | n + 1 => by
    cases h : p (n + 1)
    · rw [placesL_no h, places_nil (n := n)]
      refine ⟨fun hh i hi => ?_, fun hh i hi => hh i (by omega)⟩
      by_cases e : i = n
      · rw [e]; exact h
      · exact hh i (by omega)
    · rw [placesL_yes h]
      refine ⟨fun hh => by simp at hh, fun hh => ?_⟩
      have := hh n (by omega)
      rw [h] at this
      cases this
theorem hasTen (s : ByteArray) : (!decide (0 ≤ Lib.indexByte s.data.toList 10)) = decide (tenN s = 0) := by
  have hge := Lib.indexByte_ge s.data.toList 10
  have hlen : s.data.toList.length = s.size := rfl
  by_cases h : 0 ≤ Lib.indexByte s.data.toList 10
  · obtain ⟨o, ho⟩ : ∃ o : Nat, Lib.indexByte s.data.toList 10 = o := ⟨_, (Int.toNat_of_nonneg h).symm⟩
    have h1 := (Lib.indexByte_some ho).1
    have hi : o < s.data.toList.length := (List.getElem?_eq_some_iff.1 h1).1
    have hn : ¬ tenN s = 0 := fun ht => by
      have h2 := places_nil.1 ht o (by omega)
      simp only [tenB, Nat.add_sub_cancel, List.getD_eq_getElem?_getD, h1] at h2
      revert h2
      decide
    rw [decide_eq_true h, decide_eq_false hn]
    rfl
  · have e : Lib.indexByte s.data.toList 10 = -1 := by omega
    have hy : tenN s = 0 := places_nil.2 (fun i hi => by
      have h3 := Lib.indexByte_none e i
      simp only [tenB, Nat.add_sub_cancel]
      refine decide_eq_false (fun h10 => h3 ?_)
      have hi' : i < s.data.toList.length := by omega
      rw [List.getElem?_eq_getElem hi']
      rw [List.getD_eq_getElem?_getD, List.getElem?_eq_getElem hi'] at h10
      exact congrArg some (UInt8.toNat_inj.1 h10))
    rw [decide_eq_false h, decide_eq_true hy]
    rfl
def nodeH (x : Nd) : ByteArray := if zeroS x.st then ⟨#[124]⟩ ++ x.tx else ⟨#[60]⟩ ++ txtT x.st
theorem nodeT_eq (x : Nd) : nodeT x = nodeH x ++ ⟨#[10]⟩ := by
  unfold nodeT nodeH
  split <;> rfl
theorem nodeH_size {x : Nd} (h : zeroS x.st = true → x.tx.size ≤ 200) : (nodeH x).size ≤ 1117 := by
  have := nodeT_size h
  rw [nodeT_eq, ByteArray.size_append, tsize1] at this
  omega
theorem rep_blT : ∀ n, (⟨(Lib.repeatL [32] n).toArray⟩ : ByteArray) = blT n
  | 0 => rfl
  | n + 1 => by
    have h : ∀ m, Lib.repeatL [32] m = List.replicate m (32 : UInt8) := fun m => by
      induction m with
      | zero => rfl
      | succ m ih => rw [Lib.repeatL, ih]; rfl
    have h2 : ∀ m, blT m = ⟨(List.replicate m (32 : UInt8)).toArray⟩ := fun m => by
      induction m with
      | zero => rfl
      | succ m ih =>
        rw [blT, ih]
        apply ByteArray.ext
        apply Array.toList_inj.1
        rw [List.replicate_succ', ByteArray.data_append, Array.toList_append]
    rw [h, h2]
theorem repeat_any (n : Nat) (hn : n ≤ 8) (w : World) :
    Calls Tryz.prog 32 #[.string ⟨#[32]⟩, .int .i64 n] w fun e w' => e = .returned (.string (blT n)) ∧ Below w.heap.size w w' := by
  refine (Tryz.strings_Repeat ⟨#[32]⟩ n w (by omega) (by rw [tsize1]; omega)).mono ?_
  rintro e w' ⟨rfl, hb⟩
  exact ⟨by rw [← rep_blT], hb⟩
/-- Block g is the ints zs and nothing else. -/
def IRow (w : World) (g : Nat) (zs : List Int) : Prop := w.heap[g]? = some (.cells (zs.map (Value.int .i64)).toArray 3 (0, 0))
theorem IRow.cell {w : World} {g : Nat} {zs : List Int} (h : IRow w g zs) {k : Nat} (hk : k < zs.length) : w.cell? ⟨g, k, none⟩ = some (.int .i64 (zs.getD k 0)) := by
  refine (lies_cell h k).trans ?_
  simp [List.getD_eq_getElem?_getD, hk]
theorem IRow.frozen {w : World} {g : Nat} {zs : List Int} (h : IRow w g zs) (k : Nat) : w.frozen? ⟨g, k, none⟩ = false := Lib.frozen_of_heap h k
theorem IRow.set {w : World} {g k : Nat} {zs : List Int} (h : IRow w g zs) (z : Int) : IRow (w.setCell ⟨g, k, none⟩ (.int .i64 z)) g (zs.set k z) := by
  show (w.setCell ⟨g, k, none⟩ (.int .i64 z)).heap[g]? = _
  rw [heap_setCell_same _ _ _ _ _ _ h]
  simp [List.map_set]
theorem tti_made (n : Nat) : (madeCells (Value.int .i64 0).cells (n * 1)).toList = (List.replicate n (0 : Int)).map (Value.int .i64) := by
  rw [Nat.mul_one, List.map_replicate]
  apply List.ext_getElem
  · simp [madeCells]
  · intro i h1 h2
    simp [madeCells, Value.cells, Nat.mod_one]
theorem bld_put {B b g i : Nat} {bs : List Value} {w : World} {cur : Array Value} {t : TypeId} {fr : Nat × Nat} (h : Lib.IsBuilder 60 5 B b bs w) (hg : w.heap[g]? = some (.cells cur t fr)) (ht : t ≠ 5) (hne : b ≠ g) (v : Value) : Lib.IsBuilder 60 5 B b bs (w.setCell ⟨g, i, none⟩ v) := by
  have gr : w.grownBy (w.setCell ⟨g, i, none⟩ v) (some g) := ⟨rfl, rfl, rfl, by simp [World.setCell], fun k _ hk => Below.heap_setCell _ _ _ _ (fun e => hk (by simp [e]))⟩
  have at_ : ∀ p, Lib.BuilderAt 60 5 B b p bs w → Lib.BuilderAt 60 5 B b p bs (w.setCell ⟨g, i, none⟩ v) := fun p ⟨hB, u, hk, hown, hn⟩ =>
    ⟨hB, u, (Below.heap_setCell _ _ _ _ hne).trans hk, hown.kept gr (Or.inr (fun e => Lib.ownBlock_ne hown hg ht e)), hn⟩
  rcases h with h | h
  · exact .inl (at_ _ h)
  · exact .inr (at_ _ h)
theorem deep_in {ns : List Nd} {k u : Nat} (h : upL ns k = (u : Int)) (hu : u < k) : deepN ns k = deepN ns u + 1 := by
  have := chain_one ns u
  unfold deepN
  rw [chain_in h hu, List.length_append, List.length_singleton]
  omega
theorem deep_top {ns : List Nd} {k : Nat} (h : upL ns k < 0) : deepN ns k = 0 := by
  unfold deepN
  rw [chain_top h]
  rfl
set_option maxRecDepth 100000 in
set_option maxHeartbeats 4000000 in
theorem nodeText_any (x : Nd) (w : World) (E : Env w) (htx : zeroS x.st = true → x.tx.size ≤ 200) :
    Calls Tryz.prog 30 #[.agg #[.int .i64 x.up, .string x.tx, .int .i64 x.st.sh, .int .i64 x.st.fl, .int .i64 x.st.cl, .bool x.st.w.a, .bool x.st.w.p, .int .i64 x.st.w.n, .bool x.st.h.a, .bool x.st.h.p, .int .i64 x.st.h.n, .int .i64 x.st.mn, .int .i64 x.st.mx, .int .i64 x.st.mt, .bool x.st.mr.a, .bool x.st.mr.p, .int .i64 x.st.mr.n, .int .i64 x.st.mb, .bool x.st.ml.a, .bool x.st.ml.p, .int .i64 x.st.ml.n, .int .i64 x.st.bo, .int .i64 x.st.pa, .int .i64 x.st.wh, .int .i64 x.st.al, .int .i64 x.st.lh, .int .i64 x.st.ri, .int .i64 x.st.dn]] w fun e w' => e = .returned (.tuple #[.string (nodeH x), .bool (nodeB x)]) ∧ Below w.heap.size w w' := by
  have IT := fun W => implIsText_any x W
  have ST := fun W E => implStyleText_any x.st W E
  have HE : Hid (Env w) := E
  have zt := txtT_size x.st
  clear E
  cases hz : zeroS x.st
  · have e1 : nodeH x = ⟨#[60]⟩ ++ txtT x.st := by rw [nodeH, if_neg (by rw [hz]; decide)]
    have e2 : nodeB x = txtB x.st := nodeB_no hz
    rw [hz] at IT
    rw [e1, e2]
    clear e1 e2 hz htx
    generalize txtT x.st = t at ST zt ⊢
    generalize txtB x.st = tb at ST ⊢
    go_enter Tryz.func30, Tryz.ntmps30
    iterate 15 go_step
    refine wp_gen1 ?_
    intro W bel l0 hz
    have RN : Hid (W.rangeAt w.heap.size 0 (ndL x)) := show W.rangeAt w.heap.size 0 (#[.int .i64 x.up, .string x.tx, .int .i64 x.st.sh, .int .i64 x.st.fl, .int .i64 x.st.cl, .bool x.st.w.a, .bool x.st.w.p, .int .i64 x.st.w.n, .bool x.st.h.a, .bool x.st.h.p, .int .i64 x.st.h.n, .int .i64 x.st.mn, .int .i64 x.st.mx, .int .i64 x.st.mt, .bool x.st.mr.a, .bool x.st.mr.p, .int .i64 x.st.mr.n, .int .i64 x.st.mb, .bool x.st.ml.a, .bool x.st.ml.p, .int .i64 x.st.ml.n, .int .i64 x.st.bo, .int .i64 x.st.pa, .int .i64 x.st.wh, .int .i64 x.st.al, .int .i64 x.st.lh, .int .i64 x.st.ri, .int .i64 x.st.dn] : Array Value).toList from fun j v hj => (lies_cell l0 (0 + j)).trans (by rw [← hj, Nat.zero_add]; simp)
    have RS : Hid (W.rangeAt w.heap.size 2 (#[.int .i64 x.st.sh, .int .i64 x.st.fl, .int .i64 x.st.cl, .bool x.st.w.a, .bool x.st.w.p, .int .i64 x.st.w.n, .bool x.st.h.a, .bool x.st.h.p, .int .i64 x.st.h.n, .int .i64 x.st.mn, .int .i64 x.st.mx, .int .i64 x.st.mt, .bool x.st.mr.a, .bool x.st.mr.p, .int .i64 x.st.mr.n, .int .i64 x.st.mb, .bool x.st.ml.a, .bool x.st.ml.p, .int .i64 x.st.ml.n, .int .i64 x.st.bo, .int .i64 x.st.pa, .int .i64 x.st.wh, .int .i64 x.st.al, .int .i64 x.st.lh, .int .i64 x.st.ri, .int .i64 x.st.dn] : Array Value).toList) := fun j v hj => (lies_cell l0 (2 + j)).trans (by show _ = some v; rw [← hj, show (#[.int .i64 x.st.sh, .int .i64 x.st.fl, .int .i64 x.st.cl, .bool x.st.w.a, .bool x.st.w.p, .int .i64 x.st.w.n, .bool x.st.h.a, .bool x.st.h.p, .int .i64 x.st.h.n, .int .i64 x.st.mn, .int .i64 x.st.mx, .int .i64 x.st.mt, .bool x.st.mr.a, .bool x.st.mr.p, .int .i64 x.st.mr.n, .int .i64 x.st.mb, .bool x.st.ml.a, .bool x.st.ml.p, .int .i64 x.st.ml.n, .int .i64 x.st.bo, .int .i64 x.st.pa, .int .i64 x.st.wh, .int .i64 x.st.al, .int .i64 x.st.lh, .int .i64 x.st.ri, .int .i64 x.st.dn] : Array Value).toList = (#[.int .i64 x.up, .string x.tx, .int .i64 x.st.sh, .int .i64 x.st.fl, .int .i64 x.st.cl, .bool x.st.w.a, .bool x.st.w.p, .int .i64 x.st.w.n, .bool x.st.h.a, .bool x.st.h.p, .int .i64 x.st.h.n, .int .i64 x.st.mn, .int .i64 x.st.mx, .int .i64 x.st.mt, .bool x.st.mr.a, .bool x.st.mr.p, .int .i64 x.st.mr.n, .int .i64 x.st.mb, .bool x.st.ml.a, .bool x.st.ml.p, .int .i64 x.st.ml.n, .int .i64 x.st.bo, .int .i64 x.st.pa, .int .i64 x.st.wh, .int .i64 x.st.al, .int .i64 x.st.lh, .int .i64 x.st.ri, .int .i64 x.st.dn] : Array Value).toList.drop 2 from rfl, List.getElem?_drop]; simp)
    have ltW : w.heap.size < W.heap.size := lies_lt l0
    clear l0
    go_wp2_with (with_reducible show wpList _ _ _ (⟨some 6, Op.load 36 _, _, _, _, _⟩ :: _) _ _; refine wpList_load_mid rfl 36 _ rfl w.heap.size 0 rfl (ndL x) _ RN.out Tryz.underlying36 rfl (by kernel_rfl) ?_)
    refine (IT _).mono ?_
    rintro e w1 ⟨rfl, c⟩
    have RS1 : Hid (w1.rangeAt w.heap.size 2 (#[.int .i64 x.st.sh, .int .i64 x.st.fl, .int .i64 x.st.cl, .bool x.st.w.a, .bool x.st.w.p, .int .i64 x.st.w.n, .bool x.st.h.a, .bool x.st.h.p, .int .i64 x.st.h.n, .int .i64 x.st.mn, .int .i64 x.st.mx, .int .i64 x.st.mt, .bool x.st.mr.a, .bool x.st.mr.p, .int .i64 x.st.mr.n, .int .i64 x.st.mb, .bool x.st.ml.a, .bool x.st.ml.p, .int .i64 x.st.ml.n, .int .i64 x.st.bo, .int .i64 x.st.pa, .int .i64 x.st.wh, .int .i64 x.st.al, .int .i64 x.st.lh, .int .i64 x.st.ri, .int .i64 x.st.dn] : Array Value).toList) := fun j v hj => (c.cell ltW).trans (RS.out j v hj)
    have b1 := bel.trans (c.mono bel.size)
    clear IT c RN RS bel
    go_wp2_with (with_reducible show wpList _ _ _ (⟨some 17, Op.load 34 _, _, _, _, _⟩ :: _) _ _; refine wpList_load_mid rfl 34 _ rfl w.heap.size 2 rfl (#[.int .i64 x.st.sh, .int .i64 x.st.fl, .int .i64 x.st.cl, .bool x.st.w.a, .bool x.st.w.p, .int .i64 x.st.w.n, .bool x.st.h.a, .bool x.st.h.p, .int .i64 x.st.h.n, .int .i64 x.st.mn, .int .i64 x.st.mx, .int .i64 x.st.mt, .bool x.st.mr.a, .bool x.st.mr.p, .int .i64 x.st.mr.n, .int .i64 x.st.mb, .bool x.st.ml.a, .bool x.st.ml.p, .int .i64 x.st.ml.n, .int .i64 x.st.bo, .int .i64 x.st.pa, .int .i64 x.st.wh, .int .i64 x.st.al, .int .i64 x.st.lh, .int .i64 x.st.ri, .int .i64 x.st.dn] : Array Value).toList _ RS1.out Tryz.underlying34 rfl (by kernel_rfl) ?_)
    refine (ST _ (HE.out.below b1 (Nat.le_refl _))).mono ?_
    rintro e w2 ⟨rfl, c⟩
    have b2 := b1.trans (c.mono b1.size)
    clear ST c RS1 b1
    go_wp2
    go_ret2
    exact ⟨rfl, b2⟩
  · have e1 : nodeH x = ⟨#[124]⟩ ++ x.tx := by rw [nodeH, if_pos hz]
    have e2 : nodeB x = !decide (0 ≤ Lib.indexByte x.tx.data.toList 10) := by rw [nodeB_yes hz, hasTen]
    have zx := htx hz
    have CT : ∀ W : World, Calls Tryz.prog 58 #[.string x.tx, .string ⟨#[10]⟩] W fun e w' => e = .returned (.bool (decide (0 ≤ Lib.indexByte x.tx.data.toList 10))) ∧ Below W.heap.size W w' := fun W => (Tryz.strings_Contains_one x.tx 10 W).mono fun e w' ⟨h1, h2⟩ => ⟨h1, h2 ▸ Below.refl _ _⟩
    rw [hz] at IT
    rw [e1, e2]
    clear e1 e2 hz htx ST zt
    generalize decide (0 ≤ Lib.indexByte x.tx.data.toList 10) = db at CT ⊢
    have x1 : ¬ (9223372036854775807 < 1 + x.tx.size) := by omega
    go_enter Tryz.func30, Tryz.ntmps30
    iterate 15 go_step
    refine wp_gen1 ?_
    intro W bel l0 hz
    have RN : Hid (W.rangeAt w.heap.size 0 (ndL x)) := show W.rangeAt w.heap.size 0 (#[.int .i64 x.up, .string x.tx, .int .i64 x.st.sh, .int .i64 x.st.fl, .int .i64 x.st.cl, .bool x.st.w.a, .bool x.st.w.p, .int .i64 x.st.w.n, .bool x.st.h.a, .bool x.st.h.p, .int .i64 x.st.h.n, .int .i64 x.st.mn, .int .i64 x.st.mx, .int .i64 x.st.mt, .bool x.st.mr.a, .bool x.st.mr.p, .int .i64 x.st.mr.n, .int .i64 x.st.mb, .bool x.st.ml.a, .bool x.st.ml.p, .int .i64 x.st.ml.n, .int .i64 x.st.bo, .int .i64 x.st.pa, .int .i64 x.st.wh, .int .i64 x.st.al, .int .i64 x.st.lh, .int .i64 x.st.ri, .int .i64 x.st.dn] : Array Value).toList from fun j v hj => (lies_cell l0 (0 + j)).trans (by rw [← hj, Nat.zero_add]; simp)
    have hc1 : W.cell? ⟨w.heap.size, 1, none⟩ = some (.string x.tx) := (lies_cell l0 1).trans rfl
    have ltW : w.heap.size < W.heap.size := lies_lt l0
    clear l0
    go_wp2_with (with_reducible show wpList _ _ _ (⟨some 6, Op.load 36 _, _, _, _, _⟩ :: _) _ _; refine wpList_load_mid rfl 36 _ rfl w.heap.size 0 rfl (ndL x) _ RN.out Tryz.underlying36 rfl (by kernel_rfl) ?_)
    refine (IT _).mono ?_
    rintro e w1 ⟨rfl, c⟩
    have hc2 : w1.cell? ⟨w.heap.size, 1, none⟩ = some (.string x.tx) := (c.cell ltW).trans hc1
    have ltW1 : w.heap.size < w1.heap.size := Nat.lt_of_lt_of_le ltW c.size
    have b1 := bel.trans (c.mono bel.size)
    clear IT c RN bel hc1 ltW
    go_wp2_with fail
    go_region_held3 (fun w' => w'.cell? ⟨w.heap.size, 1, none⟩ = some (.string x.tx))
      (first | go_keep | exact hc3)
      ((first
        | (go_at_call 58; refine (CT _).mono ?_; rintro e w2 ⟨rfl, c⟩; have c' : Below w1.heap.size w1 w2 := ⟨c.os, c.tape, c.output, c.size, c.block⟩; have hc3 : w2.cell? ⟨w.heap.size, 1, none⟩ = some (.string x.tx) := (c'.cell ltW1).trans hc2)
        | fail))
    all_goals
      have b2 := b1.trans (c'.mono b1.size)
      clear CT c c' hc3 hc2 b1
      go_wp2
      go_ret2
      exact ⟨rfl, b2⟩
set_option maxRecDepth 100000 in
set_option maxHeartbeats 8000000 in
theorem implTT_good (b off n cap : Nat) (ns : List Nd) (w : World) (hn : n = ns.length) (hg : treeB (okB true) styleB ns = true)
    (hc : ∀ i x, ns[i]? = some x → w.rangeAt b (off + i * 28) (ndL x)) (GT : Calls Tryz.prog 29 #[.slice (some ⟨b, off, none⟩) n cap] w fun e w' => e = .returned (.bool true) ∧ Below w.heap.size w w') (E : Env w) :
    Calls Tryz.prog 13 #[.slice (some ⟨b, off, none⟩) n cap] w fun e w' => e = .returned (.tuple #[.string (ttT ns), .bool (ttB ns)]) ∧ Below w.heap.size w w' := by
  obtain ⟨g1, g2, g3, g4⟩ := tree_of hg
  have HE : Hid (Env w) := E
  have HC : Hid (∀ i x, ns[i]? = some x → w.rangeAt b (off + i * 28) (ndL x)) := hc
  have HN : Hid (n = ns.length) := hn
  have HG : Hid (treeB (okB true) styleB ns = true) := hg
  have HST : Hid (∀ j, j < ns.length → Stands ns j) := g3
  have HOK : Hid (∀ (i : Nat) (x : Nd), ns[i]? = some x → (zeroS x.st = true → x.tx.size ≤ 200) ∧ (zeroS x.st = false → styleB x.st = true)) := g4
  have HZ : Hid (∀ k, k ≤ ns.length → (treT ns k).size ≤ 1126 * k) := treT_size hg
  have h40 : n ≤ 40 := by omega
  obtain ⟨i0, hi, hz0, hz1, hz2⟩ := info_parts Tryz.infoInt
  clear hc hn hg g1 g2 g3 g4 E
  obtain ⟨rb, hrb⟩ : ∃ r, r = ttB ns := ⟨_, rfl⟩
  obtain ⟨rt, hrt⟩ : ∃ r, r = ttT ns := ⟨_, rfl⟩
  have HRB : Hid (rb = ttB ns) := hrb
  have HRT : Hid (rt = ttT ns) := hrt
  rw [← hrb, ← hrt]
  clear hrb hrt
  go_enter Tryz.func13, Tryz.ntmps13
  go_wp2_with fail
  refine GT.mono ?_
  rintro e w0 ⟨rfl, hb0⟩
  clear GT
  go_wp2_with (at_make; refine wpList_make_full _ rfl (.tmp 14) (.tmp 14) 28 rfl (w0.heap.size + 1) 3 i0 (.int .i64 0) 1 Tryz.underlying28 hi hz0 hz1 .i64 .i64 n n n rfl rfl rfl rfl (by rw [hz2]; omega) (by unfold maxLen; omega) (by simp) ?_; intro w1 hown hgrow)
  have hq0 : w.heap.size ≤ w0.heap.size := hb0.size
  have c1 := (Below.refl _ _).grown hgrow (Nat.le_refl _) (by intro j hj; cases hj)
  have bd1 := bld_below (Lib.fresh_isBuilder 60 5 w0) c1
  have b1 : Below w.heap.size w w1 := (hb0.alloc hb0.size _).trans (c1.mono (by simp; omega))
  have r1 : IRow w1 (w0.heap.size + 1) (List.replicate n 0) := by
    rcases hown.2 with ⟨h, _⟩ | ⟨g, cap', cur, h, _, hg, _, _, h2, h3⟩
    · cases h
    · injection h with h4 h5 h6
      injection h4 with h4
      injection h4 with h4
      subst h6
      have h4' : w0.heap.size + 1 = g := by simpa using h4
      subst h4'
      show w1.heap[w0.heap.size + 1]? = _
      rw [hg, ← tti_made, ← h3, Nat.mul_one, List.take_of_length_le (by simpa using Nat.le_of_eq h2)]
  clear hown hgrow c1 hb0
  go_wp2_with fail
  go_loopw [18] (fun i wr => ∃ k : Nat, k ≤ n ∧ i = .int .i64 k ∧ Lib.IsBuilder 60 5 w0.heap.size w0.heap.size (Lib.strCells (treT ns k)) wr ∧ (∃ zs : List Int, zs.length = n ∧ (∀ i, i < k → zs.getD i 0 = (deepN ns i : Int)) ∧ (∀ i, k ≤ i → zs.getD i 0 = 0) ∧ IRow wr (w0.heap.size + 1) zs) ∧ (∀ (i : Nat) (y : Nd), i < k → ns[i]? = some y → nodeB y = true) ∧ Below w.heap.size w wr) (fun i _ => n - (intOf i).toNat)
  case atStart => exact ⟨0, Nat.zero_le _, rfl, bd1, ⟨_, by simp, fun i hi => absurd hi (by omega), fun i _ => by simp [List.getD_eq_getElem?_getD, List.getElem?_replicate]; split <;> rfl, r1⟩, fun i y hi => absurd hi (by omega), b1⟩
  case round =>
    clear bd1 b1 r1
    obtain ⟨k, hk, rfl, hbd, ⟨zs, y1, y2, y3, y4⟩, hp, hbw⟩ := hrel
    have HP : Hid (∀ (i : Nat) (y : Nd), i < k → ns[i]? = some y → nodeB y = true) := hp
    have HBD : Hid (Lib.IsBuilder 60 5 w0.heap.size w0.heap.size (Lib.strCells (treT ns k)) wr) := hbd
    have HZS : Hid (zs.length = n ∧ (∀ i, i < k → zs.getD i 0 = (deepN ns i : Int)) ∧ (∀ i, k ≤ i → zs.getD i 0 = 0) ∧ IRow wr (w0.heap.size + 1) zs) := ⟨y1, y2, y3, y4⟩
    have hq1 : w0.heap.size + 1 < wr.heap.size := lies_lt y4
    clear hp hbd y1 y2 y3 y4
    have z1 := HZ.out k (by have := HN.out; omega)
    by_cases hlt : k < n
    rotate_left
    · have e : k = ns.length := by have := HN.out; omega
      have HA := tt_all (ns := ns) (fun i x hi hx => HP.out i x (by omega) hx)
      have BL := Tryz.Builder_Len w0.heap.size w0.heap.size (Lib.strCells (treT ns k)) wr HBD.out
      rw [Lib.strCells_length] at BL
      by_cases h3 : (treT ns ns.length).size ≤ 3000
      · obtain ⟨e1, e2⟩ := tt_yes HG.out HA h3
        rw [← e] at e2 h3
        have HE1 : Hid (rb = true) := HRB.out.trans e1
        have HE2 : Hid (rt = treT ns k) := HRT.out.trans e2
        clear e1 e2 HA e
        generalize treT ns k = t at z1 h3 HE2 BL HBD
        have h3' : ¬ ((3000 : Int) < (t.size : Int)) := by omega
        obtain rfl := HE1.out
        obtain rfl := HE2.out
        have ST := Tryz.Builder_String_any w0.heap.size w0.heap.size rt.data.toList wr (by rw [← Lib.strCells_eq]; exact HBD.out) (by omega)
        have e3 : (⟨rt.data.toList.toArray⟩ : ByteArray) = rt := rfl
        rw [e3] at ST
        clear e3
        go_wp2_with fail
        refine BL.mono ?_
        rintro e w' ⟨rfl, hw⟩
        have hw := hw.symm
        subst hw
        clear BL
        go_wp2_with fail
        refine ST.mono ?_
        rintro e w2 ⟨rfl, hb2⟩
        have b2 := hbw.trans (hb2.mono hq0)
        clear ST hb2 hbw
        go_wp2
        go_ret2
        exact ⟨rfl, b2⟩
      · have e1 := tt_long h3
        have e2 := tt_no e1
        rw [← e] at h3
        have HE1 : Hid (rb = false) := HRB.out.trans e1
        have HE2 : Hid (rt = ⟨#[]⟩) := HRT.out.trans e2
        clear e1 e2 HA e
        generalize treT ns k = t at z1 h3 BL HBD
        have h3' : (3000 : Int) < (t.size : Int) := by omega
        obtain rfl := HE1.out
        obtain rfl := HE2.out
        go_wp2_with fail
        refine BL.mono ?_
        rintro e w' ⟨rfl, hw⟩
        have hw := hw.symm
        subst hw
        clear BL
        go_wp2
        go_ret2
        exact ⟨rfl, hbw⟩
    obtain ⟨x, hx⟩ : ∃ x, ns[k]? = some x := ⟨_, List.getElem?_eq_getElem (by have := HN.out; omega)⟩
    have hr : wr.rangeAt b (off + k * 28) (ndL x) := range_below (HC.out k x hx) hbw (range_lt (HC.out k x hx))
    have HX : Hid (ns[k]? = some x) := hx
    obtain ⟨o1, o2⟩ := HOK.out k x hx
    have hst := HST.out k (by have := HN.out; omega)
    have hd8 := deep_le hst
    have hup : upL ns k = x.up := by rw [upL, getD_of hx]
    have NT := fun W E => nodeText_any x W E o1
    have zh := nodeH_size o1
    have RP := fun W => repeat_any (deepN ns k) hd8 W
    have HS1 : Hid (treT ns (k + 1) = treT ns k ++ blT (deepN ns k) ++ (nodeH x ++ ⟨#[10]⟩)) := by show _ = _; rw [treT_step hx, nodeT_eq]
    have HDN0 : Hid (deepN ns k = deepN ns k) := rfl
    clear hx o1 o2
    generalize treT ns k = t at z1 HS1 HBD
    generalize nodeH x = nh at zh NT HS1
    go_wp2_with (first
        | (with_reducible show wpList _ _ _ (⟨some 22, Op.load 36 _, _, _, _, _⟩ :: _) _ _; refine wpList_load_mid rfl 36 _ rfl b (off + k * 28) rfl (ndL x) _ hr Tryz.underlying36 rfl (by kernel_rfl) ?_)
        | (with_reducible show wpList _ _ _ (⟨none, Op.store 36 _ _, _, _, _, _⟩ :: _) _ _; refine wpList_store_box rfl 36 _ _ rfl rfl (#[.int .i64 x.up, .string x.tx, .int .i64 x.st.sh, .int .i64 x.st.fl, .int .i64 x.st.cl, .bool x.st.w.a, .bool x.st.w.p, .int .i64 x.st.w.n, .bool x.st.h.a, .bool x.st.h.p, .int .i64 x.st.h.n, .int .i64 x.st.mn, .int .i64 x.st.mx, .int .i64 x.st.mt, .bool x.st.mr.a, .bool x.st.mr.p, .int .i64 x.st.mr.n, .int .i64 x.st.mb, .bool x.st.ml.a, .bool x.st.ml.p, .int .i64 x.st.ml.n, .int .i64 x.st.bo, .int .i64 x.st.pa, .int .i64 x.st.wh, .int .i64 x.st.al, .int .i64 x.st.lh, .int .i64 x.st.ri, .int .i64 x.st.dn]) rfl rfl (by kernel_rfl) rfl (by kernel_rfl) ?_; intro W bel l0 hsz; refine stay ?_))
    have bW := hbw.trans (bel.mono hbw.size)
    have hc0 : W.cell? ⟨wr.heap.size, 0, none⟩ = some (.int .i64 x.up) := (lies_cell l0 0).trans rfl
    have RN : Hid (W.rangeAt wr.heap.size 0 (ndL x)) := show W.rangeAt wr.heap.size 0 (#[.int .i64 x.up, .string x.tx, .int .i64 x.st.sh, .int .i64 x.st.fl, .int .i64 x.st.cl, .bool x.st.w.a, .bool x.st.w.p, .int .i64 x.st.w.n, .bool x.st.h.a, .bool x.st.h.p, .int .i64 x.st.h.n, .int .i64 x.st.mn, .int .i64 x.st.mx, .int .i64 x.st.mt, .bool x.st.mr.a, .bool x.st.mr.p, .int .i64 x.st.mr.n, .int .i64 x.st.mb, .bool x.st.ml.a, .bool x.st.ml.p, .int .i64 x.st.ml.n, .int .i64 x.st.bo, .int .i64 x.st.pa, .int .i64 x.st.wh, .int .i64 x.st.al, .int .i64 x.st.lh, .int .i64 x.st.ri, .int .i64 x.st.dn] : Array Value).toList from fun j v hj => (lies_cell l0 (0 + j)).trans (by rw [← hj, Nat.zero_add]; simp)
    have BDW : Hid (Lib.IsBuilder 60 5 w0.heap.size w0.heap.size (Lib.strCells t) W) := bld_below HBD.out bel
    have IRW : Hid (IRow W (w0.heap.size + 1) zs) := below_lies bel HZS.out.2.2.2 hq1
    have ltW : wr.heap.size < W.heap.size := lies_lt l0
    unfold Stay
    clear hr bel hbw l0 HBD
    by_cases hk0 : k = 0
    · have hu1 : x.up = -1 := by rw [← hup]; exact hst.top hk0
      have hdz : deepN ns k = 0 := deep_top (by rw [hup, hu1]; decide)
      have IR : Hid (∃ zs2 : List Int, zs2.length = n ∧ (∀ i, i < k + 1 → zs2.getD i 0 = (deepN ns i : Int)) ∧ (∀ i, k + 1 ≤ i → zs2.getD i 0 = 0) ∧ IRow W (w0.heap.size + 1) zs2) :=
        ⟨zs, HZS.out.1, fun i hi => by obtain rfl : i = k := by omega
                                       rw [HZS.out.2.2.1 i (Nat.le_refl _), hdz]; rfl, fun i hi => HZS.out.2.2.1 i (by omega), IRW.out⟩
      rw [hu1] at hc0
      obtain ⟨dn, hdn⟩ : ∃ d, d = deepN ns k := ⟨_, rfl⟩
      have HDN : Hid ((deepN ns k : Int) = (dn : Int)) := by show _ = _; rw [hdn]
      rw [← hdn] at RP hd8 HS1
      clear hup hu1 hdz hst hdn HDN0 IRW HZS hk0
      go_wp2_with (with_reducible show wpList _ _ _ (⟨some 36, Op.load 36 _, _, _, _, _⟩ :: _) _ _; refine wpList_load_mid rfl 36 _ rfl wr.heap.size 0 rfl (ndL x) _ RN.out Tryz.underlying36 rfl (by kernel_rfl) ?_)
      refine (NT _ (HE.out.below bW (Nat.le_refl _))).mono ?_
      rintro e w2 ⟨rfl, c⟩
      have b2 := bW.trans (c.mono bW.size)
      have BD2 : Hid (Lib.IsBuilder 60 5 w0.heap.size w0.heap.size (Lib.strCells t) w2) := bld_below BDW.out c
      obtain ⟨zs2, y1, y2, y3, y4⟩ := IR.out
      have y4' : IRow w2 (w0.heap.size + 1) zs2 := below_lies c y4 (lies_lt y4)
      have y5 : w2.cell? ⟨w0.heap.size + 1, k, none⟩ = some (.int .i64 dn) := by rw [y4'.cell (by rw [y1]; exact hlt), y2 k (Nat.lt_succ_self k), HDN.out]
      have HY : Hid (_ ∧ _ ∧ _ ∧ _) := And.intro y1 (And.intro y2 (And.intro y3 y4'))
      have hq2 : w0.heap.size < w2.heap.size := bld_lt BD2.out
      clear c NT RN BDW IR bW y1 y2 y3 y4 y4'
      cases hnb : nodeB x
      · have e1 := tt_node HX.out hnb
        have HE1 : Hid (rb = false) := HRB.out.trans e1
        have HE2 : Hid (rt = ⟨#[]⟩) := HRT.out.trans (tt_no e1)
        clear hnb e1
        obtain rfl := HE1.out
        obtain rfl := HE2.out
        go_wp2
        go_ret2
        exact ⟨rfl, b2⟩
      have HNB : Hid (nodeB x = true) := hnb
      clear hnb
      go_wp2_with fail
      have zb : (blT dn).size ≤ 8 := by rw [blT_size]; exact hd8
      refine (RP _).mono ?_
      rintro e w3 ⟨rfl, c⟩
      have b3 := b2.trans (c.mono b2.size)
      have BD3 := bld_below BD2.out c
      have HY3 : Hid (IRow w3 (w0.heap.size + 1) zs2) := below_lies c HY.out.2.2.2 (lies_lt HY.out.2.2.2)
      have WR := write_any w0.heap.size w0.heap.size (Lib.strCells t) (blT dn ++ nh ++ ⟨#[10]⟩) w3 BD3 (by rw [Lib.strCells_length, ByteArray.size_append, ByteArray.size_append, tsize1]; omega) (Nat.le_of_lt (bld_lt BD3))
      generalize blT dn = bl at WR zb HS1 ⊢
      clear c RP BD2 BD3 b2 y5
      go_wp2_with fail
      refine WR.mono ?_
      rintro e w4 ⟨rfl, hB4, hb4, ho4⟩
      have b4 := b3.trans (hb4.mono hq0)
      have r4 : IRow w4 (w0.heap.size + 1) zs2 := ho4 _ _ _ _ (by omega) (by decide) HY3.out
      have e9 : t ++ (bl ++ nh ++ ⟨#[10]⟩) = treT ns (k + 1) := by rw [HS1.out]; simp only [ByteArray.append_assoc]
      rw [strCells_app, e9] at hB4
      have HY4 : Hid (_ ∧ _ ∧ _) := And.intro hB4 (And.intro r4 b4)
      clear hb4 ho4 WR b3 e9 hB4 r4 b4
      go_wp2
      go_roundw
      case rel => exact ⟨k + 1, by omega, by go_num, .inr HY4.out.1, ⟨zs2, HY.out.1, HY.out.2.1, HY.out.2.2.1, HY4.out.2.1⟩, stepN HX.out HNB.out HP.out, HY4.out.2.2⟩
      case measure => simp [intOf]; omega
    · obtain ⟨u, hu, he, _, _⟩ := hst.ups (by omega)
      have hxu : x.up = (u : Int) := by rw [← hup]; exact he
      have hdu : deepN ns k = deepN ns u + 1 := deep_in he hu
      obtain ⟨du, hdu0⟩ : ∃ d, d = deepN ns u := ⟨_, rfl⟩
      have hcu : W.cell? ⟨w0.heap.size + 1, u, none⟩ = some (.int .i64 du) := by rw [IRW.out.cell (by rw [HZS.out.1]; omega), HZS.out.2.1 u hu, hdu0]
      have hck : W.cell? ⟨w0.heap.size + 1, k, none⟩ = some (.int .i64 0) := by rw [IRW.out.cell (by rw [HZS.out.1]; exact hlt), HZS.out.2.2.1 k (Nat.le_refl _)]
      have hfk := IRW.out.frozen k
      have IR : Hid (∃ zs2 : List Int, zs2.length = n ∧ (∀ i, i < k + 1 → zs2.getD i 0 = (deepN ns i : Int)) ∧ (∀ i, k + 1 ≤ i → zs2.getD i 0 = 0) ∧ IRow (W.setCell ⟨w0.heap.size + 1, k, none⟩ (.int .i64 ((du : Int) + 1))) (w0.heap.size + 1) zs2) := by
        refine ⟨zs.set k ((du : Int) + 1), by simpa using HZS.out.1, fun i hi => ?_, fun i hi => ?_, IRW.out.set _⟩
        · by_cases e : i = k
          · subst e
            rw [hdu, ← hdu0]
            simp [List.getD_eq_getElem?_getD, HZS.out.1, hlt]
          · refine Eq.trans ?_ (HZS.out.2.1 i (by omega))
            simp [List.getD_eq_getElem?_getD, Ne.symm e]
        · refine Eq.trans ?_ (HZS.out.2.2.1 i (by omega))
          simp [List.getD_eq_getElem?_getD, (show ¬ k = i by omega)]
      have RNS : Hid ((W.setCell ⟨w0.heap.size + 1, k, none⟩ (.int .i64 ((du : Int) + 1))).rangeAt wr.heap.size 0 (ndL x)) := fun j v hj => (World.cell?_setCell_other _ _ _ _ (fun e => by injection e; omega)).trans (RN.out j v hj)
      have BDS : Hid (Lib.IsBuilder 60 5 w0.heap.size w0.heap.size (Lib.strCells t) (W.setCell ⟨w0.heap.size + 1, k, none⟩ (.int .i64 ((du : Int) + 1)))) := bld_put BDW.out IRW.out (by decide) (by omega) _
      have bS : Below w.heap.size w (W.setCell ⟨w0.heap.size + 1, k, none⟩ (.int .i64 ((du : Int) + 1))) := bW.setCell (p := ⟨w0.heap.size + 1, k, none⟩) (by show w.heap.size ≤ w0.heap.size + 1; omega) _
      rw [hxu] at hc0
      have hdu8 : du ≤ 8 := by omega
      obtain ⟨dn, hdn⟩ : ∃ d, d = deepN ns k := ⟨_, rfl⟩
      have HDN : Hid ((deepN ns k : Int) = (dn : Int)) := by show _ = _; rw [hdn]
      rw [← hdn] at RP hd8 HS1
      have hun : u < n := by omega
      clear hup hxu hst hdn HDN0 IRW HZS hk0 hdu hdu0 he RN BDW bW
      go_wp2_with (with_reducible show wpList _ _ _ (⟨some 36, Op.load 36 _, _, _, _, _⟩ :: _) _ _; refine wpList_load_mid rfl 36 _ rfl wr.heap.size 0 rfl (ndL x) _ RNS.out Tryz.underlying36 rfl (by kernel_rfl) ?_)
      refine (NT _ (HE.out.below bS (Nat.le_refl _))).mono ?_
      rintro e w2 ⟨rfl, c⟩
      have b2 := bS.trans (c.mono bS.size)
      have BD2 : Hid (Lib.IsBuilder 60 5 w0.heap.size w0.heap.size (Lib.strCells t) w2) := bld_below BDS.out c
      obtain ⟨zs2, y1, y2, y3, y4⟩ := IR.out
      have y4' : IRow w2 (w0.heap.size + 1) zs2 := below_lies c y4 (lies_lt y4)
      have y5 : w2.cell? ⟨w0.heap.size + 1, k, none⟩ = some (.int .i64 dn) := by rw [y4'.cell (by rw [y1]; exact hlt), y2 k (Nat.lt_succ_self k), HDN.out]
      have HY : Hid (_ ∧ _ ∧ _ ∧ _) := And.intro y1 (And.intro y2 (And.intro y3 y4'))
      have hq2 : w0.heap.size < w2.heap.size := bld_lt BD2.out
      clear c NT RNS BDS IR bS y1 y2 y3 y4 y4'
      cases hnb : nodeB x
      · have e1 := tt_node HX.out hnb
        have HE1 : Hid (rb = false) := HRB.out.trans e1
        have HE2 : Hid (rt = ⟨#[]⟩) := HRT.out.trans (tt_no e1)
        clear hnb e1
        obtain rfl := HE1.out
        obtain rfl := HE2.out
        go_wp2
        go_ret2
        exact ⟨rfl, b2⟩
      have HNB : Hid (nodeB x = true) := hnb
      clear hnb
      go_wp2_with fail
      have zb : (blT dn).size ≤ 8 := by rw [blT_size]; exact hd8
      refine (RP _).mono ?_
      rintro e w3 ⟨rfl, c⟩
      have b3 := b2.trans (c.mono b2.size)
      have BD3 := bld_below BD2.out c
      have HY3 : Hid (IRow w3 (w0.heap.size + 1) zs2) := below_lies c HY.out.2.2.2 (lies_lt HY.out.2.2.2)
      have WR := write_any w0.heap.size w0.heap.size (Lib.strCells t) (blT dn ++ nh ++ ⟨#[10]⟩) w3 BD3 (by rw [Lib.strCells_length, ByteArray.size_append, ByteArray.size_append, tsize1]; omega) (Nat.le_of_lt (bld_lt BD3))
      generalize blT dn = bl at WR zb HS1 ⊢
      clear c RP BD2 BD3 b2 y5
      go_wp2_with fail
      refine WR.mono ?_
      rintro e w4 ⟨rfl, hB4, hb4, ho4⟩
      have b4 := b3.trans (hb4.mono hq0)
      have r4 : IRow w4 (w0.heap.size + 1) zs2 := ho4 _ _ _ _ (by omega) (by decide) HY3.out
      have e9 : t ++ (bl ++ nh ++ ⟨#[10]⟩) = treT ns (k + 1) := by rw [HS1.out]; simp only [ByteArray.append_assoc]
      rw [strCells_app, e9] at hB4
      have HY4 : Hid (_ ∧ _ ∧ _) := And.intro hB4 (And.intro r4 b4)
      clear hb4 ho4 WR b3 e9 hB4 r4 b4
      go_wp2
      go_roundw
      case rel => exact ⟨k + 1, by omega, by go_num, .inr HY4.out.1, ⟨zs2, HY.out.1, HY.out.2.1, HY.out.2.2.1, HY4.out.2.1⟩, stepN HX.out HNB.out HP.out, HY4.out.2.2⟩
      case measure => simp [intOf]; omega
theorem implTT_any (a : Option Addr) (cap : Nat) (ns : List Nd) (w : World) (hr : NdRow w a ns) (hl : ns.length ≤ 1048576) (hs : ∀ x ∈ ns, x.tx.size ≤ 1048576) (E : Env w) :
    Calls Tryz.prog 13 #[.slice a ns.length cap] w fun e w' => e = .returned (.tuple #[.string (ttT ns), .bool (ttB ns)]) ∧ Below w.heap.size w w' := by
  obtain ⟨bt, bv, hbe⟩ := E.b
  have GT := implTree_any a cap ns w hr hl hs bt bv hbe
  cases hg : treeB (okB true) styleB ns
  · rw [hg] at GT
    rw [tt_bad hg, tt_no (tt_bad hg)]
    generalize ns.length = n at GT hl
    clear hr hs hg E hbe
    go_enter Tryz.func13, Tryz.ntmps13
    go_wp2_with fail
    refine GT.mono ?_
    rintro e w0 ⟨rfl, hb0⟩
    clear GT
    go_wp2
    go_ret2
    exact ⟨rfl, hb0⟩
  · rw [hg] at GT
    obtain ⟨g1, _⟩ := tree_of hg
    rcases hr with rfl | ⟨b, off, rfl, hc⟩
    · simp at g1
    · exact implTT_good b off ns.length cap ns w rfl hg hc GT E
end Go.Proofs.YtddnphgpdnedbaaGreatDoor
