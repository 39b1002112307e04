/-
  The program's ReadTree: it answers the tree that has this text, if there is one.
  Rows of nodes that a call owns, marked and looked at again; and the law of ReadTree, walked, for every program that answers as the model does.
-/
import Derived.Test.YtddnphgpdnedbaaGreatDoorRtB
import Derived.Test.YtddnphgpdnedbaaGreatDoorMTt
import Derived.Test.YtddnphgpdnedbaaGreatDoorTrS
import Derived.Test.YtddnphgpdnedbaaGreatDoorNmH
import Derived.Test.YtddnphgpdnedbaaGreatDoorMNx
namespace Go.Proofs.YtddnphgpdnedbaaGreatDoor
open Go.ChangeShapes Go.WideShapes Go.ChangeAt Go.RowKit
set_option linter.unusedVariables false

set_option maxRecDepth 100000 in
set_option maxHeartbeats 4000000 in
theorem implReadTree_any (s : ByteArray) (w : World) (hs : s.size ≤ 1048576) (E : EnvZ w) :
    Calls Tryz.prog 5 #[.string s] w fun e w' => ReadEnd s w e w' := by
  by_cases h3 : s.size ≤ 3000
  rotate_left
  · have h3' : (3000 : Int) < (s.size : Int) := by omega
    have HNo : Hid (¬ ∃ X, RelT s X) := by
      rintro ⟨X, hX⟩
      have := (ttB_parts hX.1).2.2
      rw [hX.2] at this
      exact h3 this
    go_enter Tryz.func5, Tryz.ntmps5
    go_wp2
    go_ret2
    exact readEnd_no HNo.out (Below.refl _ _)
  have h3' : ¬ ((3000 : Int) < (s.size : Int)) := by omega
  have RN := readNodes_any s w h3 E
  have HE : Hid (EnvZ w) := E
  clear E
  go_enter Tryz.func5, Tryz.ntmps5
  go_wp2_with fail
  refine RN.mono ?_
  rintro e w1 ⟨hor, b1⟩
  clear RN
  rcases hor with ⟨v, ns, rfl, ho, ⟨k, au, rest, hr0, hgh⟩, hln, htx⟩ | ⟨rfl, hNo⟩
  rotate_left
  · have HNo : Hid (¬ ∃ X, RelT s X) := hNo
    clear hNo
    go_wp2
    go_ret2
    exact readEnd_no HNo.out b1
  obtain ⟨al, cl, rfl, hrow⟩ := ho.row
  obtain ⟨f1, f2, f3⟩ := rdEnd_facts hgh hr0
  have hu := ghT_end hgh hr0
  have TS := implTT_any al cl ns w1 hrow (by omega) htx (HE.out.below b1 (Nat.le_refl _)).e
  obtain ⟨n, hn⟩ : ∃ n, n = ns.length := ⟨_, rfl⟩
  rw [← hn] at TS ⊢
  have HF1 : Hid (ttB ns = false → ¬ ∃ X, RelT s X) := f1
  have HF2 : Hid (ttB ns = true → ttT ns ≠ s → ¬ ∃ X, RelT s X) := f2
  have HF3 : Hid (ttB ns = true → ttT ns = s → RelT s ns) := f3
  have HU : Hid (∀ X, RelT s X → X = ns) := hu
  have HO : Hid (OwnN w1 w.heap.size (.slice al n cl) ns) := by show OwnN _ _ _ _; rw [hn]; exact ho
  clear ho hrow f1 f2 f3 hu hn hgh hr0 htx hln
  go_wp2_with fail
  refine TS.mono ?_
  rintro e w2 ⟨rfl, c⟩
  have b2 := b1.trans (c.mono b1.size)
  have O2 : Hid (OwnN w2 w.heap.size (.slice al n cl) ns) := nOwn_keep HO.out c
  clear TS c b1 HO
  cases hB : ttB ns
  · have HNo : Hid (¬ ∃ X, RelT s X) := HF1.out hB
    generalize ttT ns = T
    clear hB
    go_wp2
    go_ret2
    exact readEnd_no HNo.out b2
  by_cases hts : ttT ns = s
  · have HR : Hid (RelT s ns) := HF3.out hB hts
    have hq1 : ((ttT ns).toList == s.toList) = true := by rw [hts]; simp
    generalize ttT ns = T at hq1 ⊢
    clear hts hB
    go_wp2
    go_ret2
    exact readEnd_yes O2.out HR.out HU.out b2
  · have HNo : Hid (¬ ∃ X, RelT s X) := HF2.out hB hts
    have hq1 : ((ttT ns).toList == s.toList) = false :=
      beq_false_of_ne (fun h => hts (by rw [ByteArray.toList_eq, ByteArray.toList_eq] at h; exact ByteArray.ext (Array.toList_inj.1 h)))
    generalize ttT ns = T at hq1 ⊢
    clear hts hB
    go_wp2
    go_ret2
    exact readEnd_no HNo.out b2
end Go.Proofs.YtddnphgpdnedbaaGreatDoor

namespace Go.Proofs.YtddnphgpdnedbaaGreatDoor
open Go.ChangeShapes Go.WideShapes Go.ChangeAt Go.RowKit
set_option linter.unusedVariables false

theorem nd_there_own {w : World} {base e size g n cap : Nat} {xs : List Value} (h : w.ownsRow base e size (.slice (some ⟨g, 0, none⟩) n cap) n xs) : w.there g 0 (n * size) := by
  rcases h.2 with ⟨h', _⟩ | ⟨g', cap', cur, h', _, hg, hn, _, hsz, _⟩
  · simp at h'
  · simp only [Value.slice.injEq, Option.some.injEq, Addr.mk.injEq, and_true, true_and] at h'
    obtain ⟨rfl, rfl⟩ := h'
    intro j hj
    have hl : j < cur.size := by rw [hsz]; exact Nat.lt_of_lt_of_le hj (Nat.mul_le_mul_right _ hn)
    refine ⟨by rw [cell_of_row w g (0 + j) cur e _ hg, Nat.zero_add, Array.getElem?_eq_getElem hl]; rfl, ?_⟩
    exact h.frozenAt (0 + j)
set_option maxRecDepth 100000 in
set_option maxHeartbeats 1000000 in
theorem heldNodesX_none (a : Option Addr) (cap : Nat) (w : World) :
    Calls Tryz.prog 8 #[.slice a 0 cap, .int .i64 1] w fun e w' => e = .returned (.int .i64 1) ∧ w' = w := by
  go_enter Tryz.func8, Tryz.ntmps8
  go_wp2_with fail
  refine wp_loop_rounds 1 ?_
  rw [rounds_succ]
  go_wp2
  go_ret
  exact ⟨rfl, rfl⟩
theorem OwnN.keep {w w' : World} {B : Nat} {v : Value} {bs : List Nd} (h : OwnN w B v bs) (hb : Below w.heap.size w w') : OwnN w' B v bs := nOwn_keep h hb
theorem OwnN.below {w w' : World} {B B' : Nat} {v : Value} {bs : List Nd} (h : OwnN w B v bs) (hb : Below B' w w') (hlt : ∀ k, v.ownBlock = some k → k < B') : OwnN w' B v bs := by
  refine ⟨h.1, ?_⟩
  rcases h.2 with h' | ⟨g, cap, cur, rfl, hB, hg, hr⟩
  · exact .inl h'
  · exact .inr ⟨g, cap, cur, rfl, hB, (hb.block g (hlt g rfl)).trans hg, hr⟩
/-- A row of m nodes that was marked. -/
def MarkN (w : World) (B : Nat) (v : Value) (m : Nat) : Prop := ∃ (a : Option Addr) (cap : Nat), v = .slice a m cap ∧ (m = 0 ∨ ∃ g, a = some ⟨g, 0, none⟩ ∧ B ≤ g ∧ g < w.heap.size ∧ w.rangeAt g 0 (flatK m))
theorem MarkN.keep {w w' : World} {B m : Nat} {v : Value} (h : MarkN w B v m) (hb : Below w.heap.size w w') : MarkN w' B v m := by
  obtain ⟨a, cap, h1, h2⟩ := h
  refine ⟨a, cap, h1, ?_⟩
  rcases h2 with h2 | ⟨g, h3, h4, h5, h6⟩
  · exact .inl h2
  · exact .inr ⟨g, h3, h4, Nat.lt_of_lt_of_le h5 hb.size, nm_range_keep h6 hb h5⟩
theorem mark_ownN (B m : Nat) (v : Value) (bs : List Nd) (w : World) (hm : m = bs.length) (hl : m ≤ 40000) (h : OwnN w B v bs) :
    Calls Tryz.prog 7 #[v, .int .i64 1] w fun e w' => e = .returned (.int .i64 ((1 + 28 * m : Nat) : Int)) ∧ MarkN w' B v m ∧ Below B w w' := by
  by_cases h0 : 0 < bs.length
  · obtain ⟨g, cap, rfl⟩ := nOwn_some h h0
    have hlt := World.ownsRow.lt h g rfl
    have ht := nd_there_own h
    rw [← hm] at ht ⊢
    refine (markNodesX_any g m cap w hl ht).mono ?_
    rintro e w' ⟨rfl, hg, hr⟩
    exact ⟨rfl, ⟨_, _, rfl, .inr ⟨g, rfl, hlt.1, Nat.lt_of_lt_of_le hlt.2 hg.size, hr⟩⟩, (Below.refl B w).grown hg (by omega) (fun k hk => by cases hk; exact hlt.1)⟩
  · obtain ⟨a, cap, rfl⟩ := nOwn_form h
    have h0' : bs.length = 0 := by omega
    rw [hm, h0']
    refine (markNodesX_none a cap w).mono ?_
    rintro e w' ⟨rfl, rfl⟩
    exact ⟨rfl, ⟨_, _, rfl, .inl rfl⟩, Below.refl _ _⟩
theorem held_ownN (B m : Nat) (v : Value) (w : World) (hl : m ≤ 40000) (h : MarkN w B v m) :
    Calls Tryz.prog 8 #[v, .int .i64 1] w fun e w' => e = .returned (.int .i64 ((1 + 28 * m : Nat) : Int)) ∧ Below w.heap.size w w' := by
  obtain ⟨a, cap, rfl, h2⟩ := h
  rcases h2 with rfl | ⟨g, rfl, _, h5, h6⟩
  · refine (heldNodesX_none a cap w).mono ?_
    rintro e w' ⟨rfl, rfl⟩
    exact ⟨rfl, Below.refl _ _⟩
  · exact heldNodesX_any g m cap w hl h5 h6
/-- What both sides are held against, once the model has answered. -/
theorem read_common {s : ByteArray} {w w1 : World} {e : Ending} (h : ReadEnd s w e w1) :
    ∃ (zs : List Nd) (r : Bool) (v : Value), e = .returned (.tuple #[v, .bool r]) ∧ OwnN w1 w.heap.size v zs ∧ zs.length ≤ 40 ∧ Below w.heap.size w w1 ∧
      ∀ (W W' : World) (e' : Ending), ReadEnd s W e' W' → ∃ v', e' = .returned (.tuple #[v', .bool r]) ∧ OwnN W' W.heap.size v' zs ∧ Below W.heap.size W W' := by
  obtain ⟨h | ⟨rfl, hno⟩, hb⟩ := h
  · obtain ⟨v, ns, rfl, ho, hr, hu⟩ := h
    obtain ⟨_, h40, _⟩ := tree_of (ttB_parts hr.1).1
    refine ⟨ns, true, v, rfl, ho, h40, hb, fun W W' e' h' => ?_⟩
    obtain ⟨h' | ⟨rfl, hno⟩, hb'⟩ := h'
    · obtain ⟨v', ns', rfl, ho', hr', _⟩ := h'
      rw [hu ns' hr'] at ho'
      exact ⟨v', rfl, ho', hb'⟩
    · exact absurd ⟨ns, hr⟩ hno
  · refine ⟨[], false, _, rfl, ownN_nil _ _, by simp, hb, fun W W' e' h' => ?_⟩
    obtain ⟨h' | ⟨rfl, _⟩, hb'⟩ := h'
    · obtain ⟨v', ns', rfl, ho', hr', _⟩ := h'
      exact absurd ⟨ns', hr'⟩ hno
    · exact ⟨_, rfl, ownN_nil _ _, hb'⟩
set_option maxRecDepth 100000 in
set_option maxHeartbeats 4000000 in
theorem readTree_law (s : ByteArray) (w : World) (hmax : s.size ≤ maxLen) (I0 : ∀ W : World, s.size ≤ 1048576 → Below w.heap.size w W → Calls Tryz.prog 5 #[.string s] W fun e w' => ReadEnd s W e w') :
    Calls Tryz.prog 3 #[.string s] w fun e w' => e = .returned (.bool true) ∧ Below w.heap.size w w' := by
  unfold maxLen at hmax
  by_cases hs : s.size ≤ 1048576
  rotate_left
  · have hs' : (1048576 : Int) < (s.size : Int) := by omega
    go_enter Tryz.func3, Tryz.ntmps3
    go_wp2
    go_ret
    exact ⟨rfl, Below.refl _ _⟩
  have hs' : ¬ ((1048576 : Int) < (s.size : Int)) := by omega
  have S := specReadTree_any s w hs
  go_enter Tryz.func3, Tryz.ntmps3
  go_wp2_with fail
  refine S.mono ?_
  intro e w1 h
  obtain ⟨zs, r, v0, rfl, p1, h40, b1, HU⟩ := read_common h
  have I : ∀ W : World, Below w.heap.size w W → Calls Tryz.prog 5 #[.string s] W fun e w' => ∃ v', e = .returned (.tuple #[v', .bool r]) ∧ OwnN w' W.heap.size v' zs ∧ Below W.heap.size W w' := fun W hb => (I0 W hs hb).mono fun e w' h => HU W w' e h
  clear S h HU I0
  obtain ⟨m, hm⟩ : ∃ m, m = zs.length := ⟨_, rfl⟩
  have hle : m ≤ 40000 := by omega
  have EQ := fun (a a' : Option Addr) cap cap' w (h : NdRow w a zs) (h' : NdRow w a' zs) => eqNodes a a' cap cap' zs w h h' (by omega)
  rw [← hm] at EQ
  have MK := fun B v w (h : OwnN w B v zs) => mark_ownN B m v zs w hm hle h
  have HD := fun B v w (h : MarkN w B v m) => held_ownN B m v w hle h
  have hrow : ∀ (B : Nat) (v : Value) (w : World), OwnN w B v zs → ∃ (a : Option Addr) (cap : Nat), v = .slice a m cap ∧ NdRow w a zs := fun B v w h => by rw [hm]; exact h.row
  have hq : ((1 + 28 * m : Nat) : Int) = 28 * (m : Int) + 1 := by omega
  rw [hq] at MK HD
  have hq1 : ¬ (28 * (m : Int) + 1 < 0) := by omega
  have lt1 : ∀ k, v0.ownBlock = some k → k < w1.heap.size := fun k hk => (World.ownsRow.lt p1 k hk).2
  clear hm hq h40 hmax hs
  go_wp2_with fail
  refine (I _ b1).mono ?_
  rintro e w2 ⟨v1, rfl, q2, c2⟩
  have b2 := b1.trans (c2.mono b1.size)
  have p2 := p1.keep c2
  have hB1 : w.heap.size ≤ w1.heap.size := b1.size
  have z2 : w1.heap.size ≤ w2.heap.size := c2.size
  obtain ⟨a0, c0, hv0, r0⟩ := hrow _ _ _ p2
  obtain ⟨a1, cc1, hv1, r1⟩ := hrow _ _ _ q2
  subst hv0 hv1
  clear c2 p1
  go_wp2_with fail
  refine (EQ _ _ _ _ _ r1 r0).mono ?_
  rintro e w3 ⟨rfl, c3⟩
  have b3 := b2.trans (c3.mono b2.size)
  have p3 := p2.keep c3
  have q3 := q2.keep c3
  clear c3 p2 q2 r0 r1
  go_wp2_with fail
  refine (MK _ _ _ q3).mono ?_
  rintro e w4 ⟨rfl, q4, c4⟩
  have b4 := b3.trans (c4.mono hB1)
  have p4 := p3.below c4 lt1
  clear c4 p3 q3 MK
  go_wp2_with fail
  refine (HD _ _ _ q4).mono ?_
  rintro e w5 ⟨rfl, c5⟩
  have b5 := b4.trans (c5.mono b4.size)
  have p5 := p4.keep c5
  have q5 := q4.keep c5
  clear c5 p4 q4
  go_wp2_with fail
  refine (I _ b5).mono ?_
  rintro e w6 ⟨v2, rfl, t6, c6⟩
  have b6 := b5.trans (c6.mono b5.size)
  have p6 := p5.keep c6
  have q6 := q5.keep c6
  obtain ⟨_, _, hv, r0⟩ := hrow _ _ _ p6
  cases hv
  obtain ⟨a2, cc2, hv2, r2⟩ := hrow _ _ _ t6
  subst hv2
  clear c6 p5 q5
  go_wp2_with fail
  refine (EQ _ _ _ _ _ r2 r0).mono ?_
  rintro e w7 ⟨rfl, c7⟩
  have b7 := b6.trans (c7.mono b6.size)
  have q7 := q6.keep c7
  clear c7 q6 r0 r2 p6 t6
  go_wp2_with fail
  refine (HD _ _ _ q7).mono ?_
  rintro e w8 ⟨rfl, c8⟩
  have b8 := b7.trans (c8.mono b7.size)
  clear c8 q7 HD EQ I
  go_wp2
  go_ret
  exact ⟨rfl, b8⟩
end Go.Proofs.YtddnphgpdnedbaaGreatDoor
