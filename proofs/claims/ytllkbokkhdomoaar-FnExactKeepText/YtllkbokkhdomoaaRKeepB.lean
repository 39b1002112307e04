/-
  Contract of the program's joinBlanks: it hands back a new row, blanks joined; a row of at most 200 bytes.
-/
import Derived.Test.YtllkbokkhdomoaaRKeepA
namespace Go.Proofs.YtllkbokkhdomoaaR
open Go.ChangeShapes Go.WideShapes Go.ChangeAt Go.RowKit
set_option linter.unusedVariables false

theorem own_val {w : World} {B e n : Nat} {v : Value} {xs : List Value} (h : w.ownsRow B e 1 v n xs) :
    ∃ a cap, v = .slice a n cap ∧ (0 < n → ∃ g, a = some ⟨g, 0, none⟩ ∧ B ≤ g ∧ g < w.heap.size ∧ ∀ j u, xs[j]? = some u → w.cell? ⟨g, j, none⟩ = some u) := by
  rcases h.2 with ⟨rfl, rfl⟩ | ⟨g, cap, cur, rfl, hb, hg, _, _, _, ht⟩
  · exact ⟨none, 0, rfl, fun h => absurd h (by omega)⟩
  · refine ⟨some ⟨g, 0, none⟩, cap, rfl, fun _ => ⟨g, rfl, hb, (Array.getElem?_eq_some_iff.1 hg).1, fun j u hu => ?_⟩⟩
    have := h.cells (g := g) rfl j u hu
    have hadd : (⟨g, 0, none⟩ : Addr).add j = ⟨g, j, none⟩ := by unfold Addr.add; split <;> simp_all
    rwa [hadd] at this

set_option maxHeartbeats 1000000 in
theorem beginsLine_any (B n : Nat) (v : Value) (l : List UInt8) (w : World) (hn : n = l.length) (hl : n ≤ 400) (h : w.ownsRow B 5 1 v n (l.map encU)) :
    Calls Try.prog 15 #[v] w fun e w' => e = .returned (.bool (begins l)) ∧ w' = w := by
  obtain ⟨a, cap, rfl, hc⟩ := own_val h
  clear h
  by_cases h0 : n = 0
  · have HV : Hid (true = begins l) := by show _ = _; simp [begins, ← hn, h0]
    subst h0
    clear hc hn
    go_enter Try.func15, Try.ntmps15
    go_wp2
    go_ret
    exact ⟨ret_bool HV.out, rfl⟩
  · obtain ⟨g, rfl, _, _, hcell⟩ := hc (by omega)
    have hx := hcell (n - 1) (.int .u8 (lastU l : Int)) (by
      simp [encU, lastU, List.getD_eq_getElem?_getD, ← hn]
      exact ⟨_, List.getElem?_eq_getElem (by omega), by rw [List.getElem?_eq_getElem (by omega)]; rfl⟩)
    have h0' : (0 : Int) < (n : Int) := by omega
    have q1 : (0 : Int) ≤ (n : Int) - 1 := by omega
    have hb0 : ((n : Int) == 0) = false := by simp; omega
    have HV : Hid (decide (lastU l = 10) = begins l) := by
      show _ = _
      have : ¬ l.length = 0 := by omega
      simp [begins, this]
    generalize lastU l = z at hx HV
    clear hcell hc hn
    by_cases hz : z = 10
    · subst hz
      go_enter Try.func15, Try.ntmps15
      go_wp2
      go_ret
      exact ⟨ret_bool (by rw [← HV.out]; rfl), rfl⟩
    · have hz' : ((z : Int) == 10) = false := by simp; omega
      go_enter Try.func15, Try.ntmps15
      go_wp2
      go_ret
      exact ⟨ret_bool (by rw [← HV.out]; simp [hz]), rfl⟩

theorem stepJ_blank {st : List UInt8 × Bool} {c : UInt8} (h : c.toNat = 32) : stepJ st c = (st.1, true) := by simp [stepJ, h]
theorem stepJ_free {K : List UInt8} {c : UInt8} (h : ¬ c.toNat = 32) : stepJ (K, false) c = (K ++ [c], false) := by simp [stepJ, h]
theorem stepJ_ten {K : List UInt8} {c : UInt8} (h : c.toNat = 10) : stepJ (K, true) c = (K ++ [c], false) := by simp [stepJ, h]
theorem stepJ_begins {K : List UInt8} {c : UInt8} (h : ¬ c.toNat = 32) (hb : begins K = true) : stepJ (K, true) c = (K ++ [c], false) := by simp [stepJ, h, hb]
theorem stepJ_held {K : List UInt8} {c : UInt8} (h : ¬ c.toNat = 32) (h' : ¬ c.toNat = 10) (hb : begins K = false) : stepJ (K, true) c = ((K ++ [32]) ++ [c], false) := by simp [stepJ, h, h', hb]
theorem own_snoc {w : World} {B n : Nat} {v : Value} {K : List UInt8} {c : UInt8} {z : Int} (hz : z = (c.toNat : Int)) (hn : n = K.length) (h : w.ownsRow B 5 1 v (n + 1) (K.map encU ++ [.int .u8 z])) :
    w.ownsRow B 5 1 v (K ++ [c]).length ((K ++ [c]).map encU) := by
  subst hn; subst hz
  rw [List.length_append, List.map_append]
  exact h

set_option maxHeartbeats 4000000 in
theorem joinBlanks_any (g cap n : Nat) (l : List UInt8) (w : World) (hn : n = l.length) (hl : n ≤ 200) (hB : BRow w g l) :
    Calls Try.prog 12 #[.slice (some ⟨g, 0, none⟩) n cap] w fun e w' => ∃ v, e = .returned v ∧ w'.ownsRow w.heap.size 5 1 v (joinK l n).1.length ((joinK l n).1.map encU) ∧ Below w.heap.size w w' := by
  obtain ⟨i0, hi, hz0, hz1, hz2⟩ := info_parts Try.infoU8
  have HN : Hid (n = l.length) := hn
  clear hn
  go_enter Try.func12, Try.ntmps12
  go_wp2_with (at_make; refine wpList_make_own _ rfl _ _ 29 rfl w.heap.size 5 i0 (.int .u8 0) 1 Try.underlying29 hi hz0 hz1 .i64 .i64 n n rfl rfl rfl (by rw [hz2]; omega) (by unfold maxLen; omega) (Nat.le_refl _) ?_; intro w1 hown1 hgrow1)
  have hb1 := (Below.refl w.heap.size w).grown hgrow1 (Nat.le_refl _) (by intro k h; cases h)
  clear hgrow1
  go_loopw [3, 4, 12] (fun v h i wr => ∃ k : Nat, k ≤ n ∧ i = .int .i64 k ∧ h = .bool (joinK l k).2 ∧ wr.ownsRow w.heap.size 5 1 v (joinK l k).1.length ((joinK l k).1.map encU) ∧ Below w.heap.size w wr) (fun _ _ i _ => n - (intOf i).toNat)
  case atStart => exact ⟨0, Nat.zero_le _, rfl, rfl, hown1, hb1⟩
  case round =>
    obtain ⟨k, hk, rfl, rfl, hown, hbw⟩ := hrel
    clear hown1 hb1
    by_cases hlt : k < n
    · have hkl : k < l.length := by rw [← HN.out]; exact hlt
      have hc : wr.cell? ⟨g, k, none⟩ = some (.int .u8 ((l.getD k 0).toNat : Int)) := (hbw.cell (p := ⟨g, k, none⟩) hB.1).trans (hB.2.1 k hkl)
      have HJ : Hid (joinK l (k + 1) = stepJ (joinK l k) (l.getD k 0)) := joinK_next l k hkl
      have hKl := joinK_le l k (by omega)
      generalize l.getD k 0 = c at hc HJ
      obtain ⟨z, hz⟩ : ∃ z : Nat, z = c.toNat := ⟨_, rfl⟩
      obtain ⟨st, hst⟩ : ∃ st, st = joinK l k := ⟨_, rfl⟩
      rw [← hst] at hown HJ hKl ⊢
      rw [← hz] at hc
      have HZ : Hid (z = c.toNat) := hz
      clear hst hB hkl hz
      obtain ⟨K, hd⟩ := st
      dsimp only at hown hKl
      by_cases h32 : z = 32
      · have HJ2 : Hid (joinK l (k + 1) = (K, true)) := HJ.out.trans (stepJ_blank (HZ.out.symm.trans h32))
        subst h32
        clear HJ HZ
        go_wp2
        go_roundw
        case rel => exact ⟨k + 1, by omega, by go_num, by rw [HJ2.out], by rw [HJ2.out]; exact hown, hbw⟩
        case measure => simp [intOf]; omega
      · have hn32 : ¬ c.toNat = 32 := fun h => h32 (HZ.out.trans h)
        have b32 : ((z : Int) == 32) = false := by simp; omega
        have d32 : ((z : Int) != 32) = true := by simp; omega
        cases hd
        · have HJ2 : Hid (joinK l (k + 1) = (K ++ [c], false)) := HJ.out.trans (stepJ_free hn32)
          clear HJ hn32
          go_wp2_with (at_builtin; refine wpList_append_own _ rfl (.tmp 31) (.tmp 33) 29 rfl w.heap.size 5 i0 (.int .u8 0) 1 1 Try.underlying29 hi hz0 hz1 hz2 rfl (by decide) _ _ _ rfl (hown.alloc _) ⟨wr.heap.size, 0, none⟩ 1 1 [.int .u8 z] rfl rfl (cell_one_new _ _ _) (one_u8 z) (by unfold maxLen; omega) (by omega) (by have := hbw.size; simp; omega) ?_)
          intro v' w2 hown2 hgrow2 _
          have R1 := own_snoc (c := c) (by rw [HZ.out]) rfl hown2
          have R2 : Below w.heap.size w w2 := (hbw.alloc hbw.size _).grown hgrow2 (by have := hbw.size; simp; omega) (fun j hj => own_lo hown j hj)
          clear hown2 hgrow2 hown hbw hc
          go_wp2
          go_roundw
          case rel => exact ⟨k + 1, by omega, by go_num, by rw [HJ2.out], by rw [HJ2.out]; exact R1, R2⟩
          case measure => simp [intOf]; omega
        · by_cases h10 : z = 10
          · have HJ2 : Hid (joinK l (k + 1) = (K ++ [c], false)) := HJ.out.trans (stepJ_ten (HZ.out.symm.trans h10))
            subst h10
            clear HJ hn32
            go_wp2_with (at_builtin; refine wpList_append_own _ rfl (.tmp 31) (.tmp 33) 29 rfl w.heap.size 5 i0 (.int .u8 0) 1 1 Try.underlying29 hi hz0 hz1 hz2 rfl (by decide) _ _ _ rfl (hown.alloc _) ⟨wr.heap.size, 0, none⟩ 1 1 [.int .u8 10] rfl rfl (cell_one_new _ _ _) (one_u8 10) (by unfold maxLen; omega) (by omega) (by have := hbw.size; simp; omega) ?_)
            intro v' w2 hown2 hgrow2 _
            have R1 := own_snoc (c := c) (by rw [← HZ.out]; rfl) rfl hown2
            have R2 : Below w.heap.size w w2 := (hbw.alloc hbw.size _).grown hgrow2 (by have := hbw.size; simp; omega) (fun j hj => own_lo hown j hj)
            clear hown2 hgrow2 hown hbw hc
            go_wp2
            go_roundw
            case rel => exact ⟨k + 1, by omega, by go_num, by rw [HJ2.out], by rw [HJ2.out]; exact R1, R2⟩
            case measure => simp [intOf]; omega
          · have hn10 : ¬ c.toNat = 10 := fun h => h10 (HZ.out.trans h)
            have b10 : ((z : Int) == 10) = false := by simp; omega
            have d10 : ((z : Int) != 10) = true := by simp; omega
            have BG' := beginsLine_any w.heap.size K.length _ K wr rfl (by omega) hown
            cases hbg : begins K
            · have HJ2 : Hid (joinK l (k + 1) = ((K ++ [32]) ++ [c], false)) := HJ.out.trans (stepJ_held hn32 hn10 hbg)
              rw [hbg] at BG'
              clear HJ hn32 hn10 hbg
              go_wp2_with (first | (go_at_call 15; refine BG'.mono ?_; rintro e w' ⟨rfl, hw⟩; have hw := hw.symm; subst hw) | (at_builtin; refine wpList_append_own _ rfl (.tmp 28) (.tmp 29) 29 rfl w.heap.size 5 i0 (.int .u8 0) 1 1 Try.underlying29 hi hz0 hz1 hz2 rfl (by decide) _ _ _ rfl (hown.alloc _) ⟨wr.heap.size, 0, none⟩ 1 1 [.int .u8 32] rfl rfl (cell_one_new _ _ _) (one_u8 32) (by unfold maxLen; omega) (by omega) (by have := hbw.size; simp; omega) ?_))
              intro v' w2 hown2 hgrow2 _
              have R1 := own_snoc (c := 32) rfl rfl hown2
              have R2 : Below w.heap.size w w2 := (hbw.alloc hbw.size _).grown hgrow2 (by have := hbw.size; simp; omega) (fun j hj => own_lo hown j hj)
              have hKl2 : (K ++ [32]).length ≤ n + 1 := by rw [List.length_append, List.length_singleton]; omega
              clear hown2 hgrow2 hown hbw hc BG'
              go_wp2_with (at_builtin; refine wpList_append_own _ rfl (.tmp 31) (.tmp 33) 29 rfl w.heap.size 5 i0 (.int .u8 0) 1 1 Try.underlying29 hi hz0 hz1 hz2 rfl (by decide) _ _ _ rfl (R1.alloc _) ⟨w2.heap.size, 0, none⟩ 1 1 [.int .u8 z] rfl rfl (cell_one_new _ _ _) (one_u8 z) (by unfold maxLen; omega) (by omega) (by have := R2.size; simp; omega) ?_)
              intro v'' w3 hown3 hgrow3 _
              have R3 := own_snoc (w := w3) (B := w.heap.size) (v := v'') (n := K.length + 1) (K := K ++ [32]) (c := c) (z := (z : Int)) (by rw [HZ.out]) (by simp) (by simpa using hown3)
              have R4 : Below w.heap.size w w3 := (R2.alloc R2.size _).grown hgrow3 (by have := R2.size; simp; omega) (fun j hj => own_lo R1 j hj)
              clear hown3 hgrow3 R1 R2
              go_wp2
              go_roundw
              case rel => exact ⟨k + 1, by omega, by go_num, by rw [HJ2.out], by rw [HJ2.out]; exact R3, R4⟩
              case measure => simp [intOf]; omega
            · have HJ2 : Hid (joinK l (k + 1) = (K ++ [c], false)) := HJ.out.trans (stepJ_begins hn32 hbg)
              rw [hbg] at BG'
              clear HJ hn32 hn10 hbg
              go_wp2_with (first | (go_at_call 15; refine BG'.mono ?_; rintro e w' ⟨rfl, hw⟩; have hw := hw.symm; subst hw) | (at_builtin; refine wpList_append_own _ rfl (.tmp 31) (.tmp 33) 29 rfl w.heap.size 5 i0 (.int .u8 0) 1 1 Try.underlying29 hi hz0 hz1 hz2 rfl (by decide) _ _ _ rfl (hown.alloc _) ⟨wr.heap.size, 0, none⟩ 1 1 [.int .u8 z] rfl rfl (cell_one_new _ _ _) (one_u8 z) (by unfold maxLen; omega) (by omega) (by have := hbw.size; simp; omega) ?_))
              intro v' w2 hown2 hgrow2 _
              have R1 := own_snoc (c := c) (by rw [HZ.out]) rfl hown2
              have R2 : Below w.heap.size w w2 := (hbw.alloc hbw.size _).grown hgrow2 (by have := hbw.size; simp; omega) (fun j hj => own_lo hown j hj)
              clear hown2 hgrow2 hown hbw hc BG'
              go_wp2
              go_roundw
              case rel => exact ⟨k + 1, by omega, by go_num, by rw [HJ2.out], by rw [HJ2.out]; exact R1, R2⟩
              case measure => simp [intOf]; omega
    · have e : k = n := by omega
      subst e
      go_wp2
      go_ret
      exact ⟨_, rfl, hown, hbw⟩
end Go.Proofs.YtllkbokkhdomoaaR
