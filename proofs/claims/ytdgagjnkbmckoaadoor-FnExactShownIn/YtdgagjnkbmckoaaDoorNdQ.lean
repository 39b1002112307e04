/-
  Which nodes of a tree are shown, as plain data; the model's look up the chain, and slices.Contains.
-/
import Derived.Test.YtdgagjnkbmckoaaDoorNdM
namespace Go.Proofs.YtdgagjnkbmckoaaDoor
open Go.ChangeShapes Go.WideShapes Go.ChangeAt Go.RowKit
set_option linter.unusedVariables false

def shL (ns : List Nd) (k : Nat) : Int := (ns.getD k nd0).st.sh
/-- Node k, or one around it, is not shown. -/
def hidC (ns : List Nd) (k : Nat) : Bool := (chainL ns k).any fun x => decide (shL ns x.toNat = 3)
def showB (ns : List Nd) (k : Nat) : Bool := !isT ns k && !hidC ns k
def shownTo (ns : List Nd) : Nat → List Int
  | 0 => []
  | k + 1 => if showB ns k = true then shownTo ns k ++ [(k : Int)] else shownTo ns k
theorem shown_len (ns : List Nd) (k : Nat) : (shownTo ns k).length ≤ k := by
  induction k with
  | zero => simp [shownTo]
  | succ k ih =>
    rw [shownTo]
    split
    · rw [List.length_append, List.length_singleton]; omega
    · omega
theorem shown_in (ns : List Nd) (k : Nat) (u : Nat) : (u : Int) ∈ shownTo ns k ↔ u < k ∧ showB ns u = true := by
  induction k with
  | zero => simp [shownTo]
  | succ k ih =>
    rw [shownTo]
    split
    · rename_i h
      rw [List.mem_append, List.mem_singleton, ih]
      constructor
      · rintro (⟨h1, h2⟩ | h1)
        · exact ⟨by omega, h2⟩
        · obtain rfl : u = k := by omega
          exact ⟨by omega, h⟩
      · rintro ⟨h1, h2⟩
        by_cases e : u = k
        · right; omega
        · left; exact ⟨by omega, h2⟩
    · rename_i h
      rw [ih]
      constructor
      · rintro ⟨h1, h2⟩; exact ⟨by omega, h2⟩
      · rintro ⟨h1, h2⟩
        refine ⟨?_, h2⟩
        by_cases e : u = k
        · rw [e] at h2; exact absurd h2 h
        · omega
theorem hid_top {ns : List Nd} {v : Nat} (h : upL ns v < 0) : hidC ns v = decide (shL ns v = 3) := by
  rw [hidC, chain_top h]
  simp
theorem hid_in {ns : List Nd} {v p : Nat} (h : upL ns v = (p : Int)) (hp : p < v) : hidC ns v = (hidC ns p || decide (shL ns v = 3)) := by
  rw [hidC, chain_in h hp, List.any_append]
  simp [hidC]
theorem hid_yes {ns : List Nd} {v : Nat} (h : shL ns v = 3) : hidC ns v = true := by
  rw [hidC, List.any_eq_true]
  exact ⟨(v : Int), chain_last ns v, by simp [h]⟩
theorem show_top {ns : List Nd} (h : upL ns 0 = -1) : showB ns 0 = (!isT ns 0 && !decide (shL ns 0 = 3)) := by rw [showB, hid_top (by omega)]
theorem show_in {ns : List Nd} {k u : Nat} (e : upL ns k = (u : Int)) (hu : u < k) (ht : isT ns u = false) : showB ns k = (decide ((u : Int) ∈ shownTo ns k) && !isT ns k && !decide (shL ns k = 3)) := by
  have h1 : decide ((u : Int) ∈ shownTo ns k) = !hidC ns u := by
    rw [Bool.eq_iff_iff, decide_eq_true_iff, shown_in]
    simp [showB, ht, hu]
  rw [showB, hid_in e hu, h1]
  cases hidC ns u <;> cases isT ns k <;> cases decide (shL ns k = 3) <;> rfl
theorem shown_yes {ns : List Nd} {k : Nat} (h : showB ns k = true) : shownTo ns (k + 1) = shownTo ns k ++ [(k : Int)] := by rw [shownTo, if_pos h]
theorem shown_no {ns : List Nd} {k : Nat} (h : showB ns k = false) : shownTo ns (k + 1) = shownTo ns k := by rw [shownTo, if_neg (by rw [h]; decide)]
theorem tree_stands {tB : ByteArray → Bool} {sB : St → Bool} {ns : List Nd} (h : treeB tB sB ns = true) : (1 ≤ ns.length ∧ ns.length ≤ 40) ∧ ∀ j, j < ns.length → okUp ns j = true := by
  rw [treeB, Bool.and_eq_true, Bool.and_eq_true, List.all_eq_true] at h
  exact ⟨⟨of_decide_eq_true h.1.1, of_decide_eq_true h.1.2⟩, fun j hj => okAt_up (h.2 j (List.mem_range.2 hj))⟩

set_option maxRecDepth 100000 in
set_option maxHeartbeats 2000000 in
theorem hidden_any (b off n cap k : Nat) (ns : List Nd) (w : World) (hn : ns.length = n) (hk : k < n) (h40 : n ≤ 40) (hst : ∀ j, j < n → Stands ns j)
    (hc : ∀ i x, ns[i]? = some x → w.rangeAt b (off + i * 28) (ndL x)) :
    Calls Tryd.prog 26 #[.slice (some ⟨b, off, none⟩) n cap, .int .i64 k] w fun e w' => e = .returned (.bool (hidC ns k)) ∧ w' = w := by
  have CU : Hid (∀ v : Nat, v < n → w.cell? ⟨b, off + v * 28, none⟩ = some (.int .i64 (upL ns v)) ∧ w.cell? ⟨b, off + v * 28 + 2, none⟩ = some (.int .i64 (shL ns v))) := fun v hv => by
    obtain ⟨y, hy⟩ : ∃ y, ns[v]? = some y := ⟨_, List.getElem?_eq_getElem (by omega)⟩
    have h := hc v y hy 0 _ rfl
    have h2 := hc v y hy 2 _ rfl
    rw [Nat.add_zero] at h
    rw [h, h2, upL, shL, getD_of hy]
    exact ⟨rfl, rfl⟩
  have HST : Hid (∀ j, j < n → Stands ns j) := hst
  clear hc hst
  go_enter Tryd.func26, Tryd.ntmps26
  go_wp2_with fail
  go_loop [1] (fun z => ∃ zi : Int, z = .int .i64 zi ∧ ((zi = -1 ∧ hidC ns k = false) ∨ ∃ v : Nat, v < n ∧ zi = (v : Int) ∧ hidC ns k = hidC ns v)) (fun z => (intOf z + 1).toNat)
  case atStart => exact ⟨_, rfl, .inr ⟨k, hk, rfl, rfl⟩⟩
  case round =>
    obtain ⟨zi, rfl, hm⟩ := hrel
    rcases hm with ⟨rfl, hf⟩ | ⟨v, hv, rfl, hf⟩
    · have HF : Hid (hidC ns k = false) := hf
      clear hf
      go_wp2
      go_ret
      exact ⟨ret_bool HF.out.symm, rfl⟩
    · have HF : Hid (hidC ns k = hidC ns v) := hf
      obtain ⟨c1, c2⟩ := CU.out v hv
      have st := HST.out v hv
      have HSt : Hid (Stands ns v) := st
      have ub := up_bound st
      have hv0 : (0 : Int) ≤ (v : Int) := by omega
      have hvn : (v : Int) < (n : Int) := by omega
      obtain ⟨pu, hpu⟩ : ∃ pu, pu = upL ns v := ⟨_, rfl⟩
      obtain ⟨sh, hsh⟩ : ∃ sh, sh = shL ns v := ⟨_, rfl⟩
      rw [← hpu] at c1 ub
      rw [← hsh] at c2
      have HPU : Hid (pu = upL ns v) := hpu
      have HSH : Hid (sh = shL ns v) := hsh
      clear hf st hpu hsh
      by_cases h3 : sh = 3
      · have HT : Hid (hidC ns k = true) := by show _ = _; rw [HF.out]; exact hid_yes (by rw [← HSH.out]; exact h3)
        have hq : (sh == 3) = true := by simpa using h3
        clear h3
        go_wp2
        go_ret
        exact ⟨ret_bool HT.out.symm, rfl⟩
      · have hq : (sh == 3) = false := by simpa using h3
        have HN : Hid ((pu = -1 ∧ hidC ns k = false) ∨ ∃ v : Nat, v < n ∧ pu = (v : Int) ∧ hidC ns k = hidC ns v) := by
          have hd : decide (shL ns v = 3) = false := decide_eq_false (by rw [← HSH.out]; exact h3)
          show _ ∨ _
          rw [HF.out]
          by_cases hv00 : v = 0
          · left
            have e := HSt.out.top hv00
            exact ⟨by rw [HPU.out, e], by rw [hid_top (by omega), hd]⟩
          · right
            obtain ⟨p, hp, e, _⟩ := HSt.out.ups (by omega)
            exact ⟨p, by omega, by rw [HPU.out, e], by rw [hid_in e hp, hd, Bool.or_false]⟩
        clear h3
        go_wp2
        go_round
        case rel => exact ⟨_, rfl, HN.out⟩
        case measure => simp [intOf]; omega

theorem contains_any (a : Option Addr) (n cap : Nat) (x : Int) (zs : List Int) (w : World) (hn : n = zs.length) (hl : n ≤ 1048576) (hr : Row w a zs) :
    Calls Tryd.prog 27 #[.slice a n cap, .int .i64 x] w fun e w' => e = .returned (.bool (decide (x ∈ zs))) ∧ w' = w := by
  have IX := index_any a n cap x zs w hn hl hr
  clear hn hl hr
  by_cases h : x ∈ zs
  · rw [ixI_in h] at IX
    have hq : (0 : Int) ≤ (idxL x zs : Int) := by omega
    have HF : Hid (decide (x ∈ zs) = true) := decide_eq_true h
    generalize idxL x zs = i at IX hq
    go_enter Tryd.func27, Tryd.ntmps27
    go_wp2_with fail
    refine IX.mono ?_
    rintro e w' ⟨rfl, hw⟩
    have hw := hw.symm
    subst hw
    go_wp2
    go_ret
    exact ⟨ret_bool (by rw [HF.out]), rfl⟩
  · rw [ixI_out h] at IX
    have HF : Hid (decide (x ∈ zs) = false) := decide_eq_false h
    go_enter Tryd.func27, Tryd.ntmps27
    go_wp2_with fail
    refine IX.mono ?_
    rintro e w' ⟨rfl, hw⟩
    have hw := hw.symm
    subst hw
    go_wp2
    go_ret
    exact ⟨ret_bool (by rw [HF.out]), rfl⟩
end Go.Proofs.YtdgagjnkbmckoaaDoor
