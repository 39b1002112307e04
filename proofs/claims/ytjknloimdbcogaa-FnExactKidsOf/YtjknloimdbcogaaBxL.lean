/-
  KidsOf, of the model and of the program.
-/
import Derived.Test.YtjknloimdbcogaaBxK
namespace Go.Proofs.Ytjknloimdbcogaa
open Go.ChangeShapes Go.WideShapes Go.ChangeAt Go.RowKit
set_option linter.unusedVariables false

def StayX (p : Prop) : Prop := p
theorem stayX {p : Prop} (h : StayX p) : p := h
theorem kidsR_no {bs : List Bx} {k : Int} (h : kidsB bs k = false) : kidsR bs k = [] := by unfold kidsR; rw [h]; rfl
theorem kidsR_yes {bs : List Bx} {k : Int} (h : kidsB bs k = true) : kidsR bs k = kidsTo bs k bs.length := by unfold kidsR; rw [h]; rfl
set_option maxHeartbeats 4000000 in
theorem specKids_any (a : Option Addr) (n cap : Nat) (bs : List Bx) (k : Int) (w : World) (hn : n = bs.length) (hr : BxRow w a bs) (hl : n ≤ 1048576) :
    Calls Try.prog 5 #[.slice a n cap, .int .i64 k] w fun e w' => ∃ v, e = .returned (.tuple #[v, .bool (kidsB bs k)]) ∧ OwnI w' w.heap.size v (kidsR bs k) ∧ Below w.heap.size w w' := by
  have HN : Hid (n = bs.length) := hn
  have HR : Hid (BxRow w a bs) := hr
  clear hn hr
  go_enter Try.func5, Try.ntmps5
  go_wp2_with fail
  go_loopw [10] (fun i wr => ∃ j : Nat, j ≤ n ∧ i = .int .i64 j ∧ (∀ i, i < j → upOkX bs i = true) ∧ Below w.heap.size w wr) (fun i _ => n - (intOf i).toNat)
  case atStart => exact ⟨0, Nat.zero_le _, rfl, fun i hi => absurd hi (by omega), Below.refl _ _⟩
  case round =>
    obtain ⟨j, hj, rfl, hall, hbw⟩ := hrel
    have HA : Hid (∀ i, i < j → upOkX bs i = true) := hall
    clear hall
    by_cases hlt : j < n
    rotate_left
    · have e : j = n := by omega
      subst e
      have HU : Hid (upsX bs = true) := ups_yes (by rw [← HN.out]; exact HA.out)
      have IN := fun W => l1In_any k 0 ((j : Int) - 1) W
      have HK : Hid (kidsB bs k = inB 0 ((j : Int) - 1) k) := by show _ = _; unfold kidsB; rw [HU.out, Bool.true_and, ← HN.out]
      have LK := fun W (h : Below w.heap.size w W) => l5Kids_any a j cap bs k W HN.out ((HR.out).below h) hl
      cases hin : inB 0 ((j : Int) - 1) k
      · rw [hin] at IN HK
        clear LK
        go_wp2_with (go_at_call 14; refine (IN _).mono ?_; rintro e w' ⟨rfl, hw⟩; have hw := hw.symm; subst hw)
        go_ret2
        exact ⟨_, by rw [HK.out]; rfl, by rw [kidsR_no HK.out]; exact ownI_nil _ _, hbw⟩
      · rw [hin] at IN HK
        go_wp2_with (first
          | (go_at_call 14; refine (IN _).mono ?_; rintro e w' ⟨rfl, hw⟩; have hw := hw.symm; subst hw)
          | (go_at_call 15; refine (LK _ hbw).mono ?_; refine stayX ?_)
          | fail)
        unfold StayX
        rintro e w2 ⟨v, rfl, ho, hb2⟩
        have b2 := hbw.trans (hb2.mono hbw.size)
        have o2 : OwnI w2 w.heap.size v (kidsR bs k) := by
          rw [kidsR_yes HK.out, ← HN.out]
          exact ⟨ho.1, by
            rcases ho.2 with h | ⟨g, c, cur, e, hg, rest⟩
            · exact .inl h
            · exact .inr ⟨g, c, cur, e, Nat.le_trans hbw.size hg, rest⟩⟩
        clear hb2 hbw ho LK IN
        go_wp2
        go_ret2
        exact ⟨_, by rw [HK.out]; rfl, o2, b2⟩
    obtain ⟨x, hx⟩ : ∃ x, bs[j]? = some x := ⟨_, List.getElem?_eq_getElem (by have := HN.out; omega)⟩
    obtain ⟨b, off, rfl, hc⟩ := bx_some HR.out hx
    have hr := bx_below (hc j x hx) hbw (bx_lt (hc j x hx))
    obtain ⟨q0, q1, q2, q3⟩ := bx_cells hr
    have HX : Hid (upOkX bs j = inB (-1) ((j : Int) - 1) x.up) := by show _ = _; unfold upOkX; rw [upX_of hx]
    have IN := fun W => l1In_any x.up (-1) ((j : Int) - 1) W
    have b3 := hbw.alloc hbw.size (.cells #[.int .i64 x.kd, .int .i64 x.nd, .int .i64 x.up, .string x.tx] 37 (0, 0))
    have HB3 : Hid (Below w.heap.size w (wr.alloc (.cells #[.int .i64 x.kd, .int .i64 x.nd, .int .i64 x.up, .string x.tx] 37 (0, 0)))) := b3
    clear hc hx hr b3
    cases hin : inB (-1) ((j : Int) - 1) x.up
    · rw [hin] at IN HX
      have HK : Hid (kidsB bs k = false) := by show _ = _; unfold kidsB; rw [ups_no (by rw [← HN.out]; exact hlt) HX.out]; rfl
      go_wp2_with (go_at_call 14; refine (IN _).mono ?_; rintro e w' ⟨rfl, hw⟩; have hw := hw.symm; subst hw)
      go_ret2
      exact ⟨_, by rw [HK.out]; rfl, by rw [kidsR_no HK.out]; exact ownI_nil _ _, HB3.out⟩
    · rw [hin] at IN HX
      go_wp2_with (go_at_call 14; refine (IN _).mono ?_; rintro e w' ⟨rfl, hw⟩; have hw := hw.symm; subst hw)
      go_roundw
      case rel =>
        refine ⟨j + 1, by omega, by go_num, fun i hi => ?_, HB3.out⟩
        by_cases e : i = j
        · subst e; exact HX.out
        · exact HA.out i (by omega)
      case measure => simp [intOf]; omega

set_option maxHeartbeats 4000000 in
theorem implKids_any (a : Option Addr) (n cap : Nat) (bs : List Bx) (k : Int) (w : World) (hn : n = bs.length) (hr : BxRow w a bs) (hl : n ≤ 1048576) :
    Calls Try.prog 7 #[.slice a n cap, .int .i64 k] w fun e w' => ∃ v, e = .returned (.tuple #[v, .bool (kidsB bs k)]) ∧ OwnI w' w.heap.size v (kidsR bs k) ∧ Below w.heap.size w w' := by
  obtain ⟨i0, hi, hz0, hz1, hz2⟩ := info_parts Try.infoInt
  have HN : Hid (n = bs.length) := hn
  have HR : Hid (BxRow w a bs) := hr
  clear hn hr
  by_cases hk0 : k < 0
  · have HK : Hid (kidsB bs k = false) := by show _ = _; unfold kidsB inB; simp; omega
    go_enter Try.func7, Try.ntmps7
    go_wp2
    go_ret2
    exact ⟨_, by rw [HK.out]; rfl, by rw [kidsR_no HK.out]; exact ownI_nil _ _, Below.refl _ _⟩
  by_cases hkn : (n : Int) ≤ k
  · have HK : Hid (kidsB bs k = false) := by show _ = _; have := HN.out; unfold kidsB inB; simp; omega
    go_enter Try.func7, Try.ntmps7
    go_wp2
    go_ret2
    exact ⟨_, by rw [HK.out]; rfl, by rw [kidsR_no HK.out]; exact ownI_nil _ _, Below.refl _ _⟩
  have HIN : Hid (inB 0 ((bs.length : Int) - 1) k = true) := by show _ = _; have := HN.out; unfold inB; simp; omega
  go_enter Try.func7, Try.ntmps7
  go_wp2_with fail
  go_loopw [6, 19] (fun v i wr => ∃ j : Nat, j ≤ n ∧ i = .int .i64 j ∧ (∀ i, i < j → upOkX bs i = true) ∧ OwnI wr w.heap.size v (kidsTo bs k j) ∧ Below w.heap.size w wr) (fun _ i _ => n - (intOf i).toNat)
  case atStart => exact ⟨0, Nat.zero_le _, rfl, fun i hi => absurd hi (by omega), ownI_nil _ _, Below.refl _ _⟩
  case round =>
    obtain ⟨j, hj, rfl, hall, hown, hbw⟩ := hrel
    have HA : Hid (∀ i, i < j → upOkX bs i = true) := hall
    clear hall
    by_cases hlt : j < n
    rotate_left
    · have e : j = n := by omega
      subst e
      have HK : Hid (kidsB bs k = true) := by show _ = _; unfold kidsB; rw [ups_yes (by rw [← HN.out]; exact HA.out), HIN.out]; rfl
      have o2 : OwnI wr w.heap.size u6 (kidsR bs k) := by rw [kidsR_yes HK.out, ← HN.out]; exact hown
      clear hown
      go_wp2
      go_ret2
      exact ⟨_, by rw [HK.out]; rfl, o2, hbw⟩
    obtain ⟨x, hx⟩ : ∃ x, bs[j]? = some x := ⟨_, List.getElem?_eq_getElem (by have := HN.out; omega)⟩
    obtain ⟨b, off, rfl, hc⟩ := bx_some HR.out hx
    have hr := bx_below (hc j x hx) hbw (bx_lt (hc j x hx))
    obtain ⟨q0, q1, q2, q3⟩ := bx_cells hr
    have HX : Hid (upOkX bs j = inB (-1) ((j : Int) - 1) x.up) := by show _ = _; unfold upOkX; rw [upX_of hx]
    have HU : Hid (upX bs j = x.up) := upX_of hx
    have HB3 : Hid (Below w.heap.size w (wr.alloc (.cells #[.int .i64 x.kd, .int .i64 x.nd, .int .i64 x.up, .string x.tx] 37 (0, 0)))) := hbw.alloc hbw.size _
    clear hc hx hr
    by_cases h1 : x.up < -1
    · have HK : Hid (kidsB bs k = false) := by show _ = _; unfold kidsB; rw [ups_no (by rw [← HN.out]; exact hlt) (by rw [HX.out]; unfold inB; simp; omega)]; rfl
      clear hown
      go_wp2
      go_ret2
      exact ⟨_, by rw [HK.out]; rfl, by rw [kidsR_no HK.out]; exact ownI_nil _ _, HB3.out⟩
    by_cases h2 : (j : Int) ≤ x.up
    · have HK : Hid (kidsB bs k = false) := by show _ = _; unfold kidsB; rw [ups_no (by rw [← HN.out]; exact hlt) (by rw [HX.out]; unfold inB; simp; omega)]; rfl
      clear hown
      go_wp2
      go_ret2
      exact ⟨_, by rw [HK.out]; rfl, by rw [kidsR_no HK.out]; exact ownI_nil _ _, HB3.out⟩
    have HO : Hid (∀ i, i < j + 1 → upOkX bs i = true) := by
      show ∀ i, _
      intro i hi
      by_cases e : i = j
      · subst e; rw [HX.out]; unfold inB; simp; omega
      · exact HA.out i (by omega)
    by_cases hu : x.up = k
    · have HS : Hid (kidsTo bs k (j + 1) = kidsTo bs k j ++ [(j : Int)]) := kids_yes (HU.out.trans hu)
      have hle := kids_len bs k j
      generalize kidsTo bs k j = zs at hown HS hle
      obtain ⟨L, hL⟩ : ∃ L, L = zs.length := ⟨_, rfl⟩
      have o2' := hown
      unfold OwnI at o2'
      rw [← hL] at o2' hle
      have HL : Hid (L = zs.length) := hL
      clear hL
      go_wp2_with (at_builtin; refine wpList_append_own _ rfl (.tmp 37) (.tmp 39) 24 rfl w.heap.size 3 i0 (.int .i64 0) 1 8 Try.underlying24 hi hz0 hz1 hz2 rfl (by decide) _ _ _ rfl ((o2'.alloc _).alloc _) ⟨wr.heap.size + 1, 0, none⟩ 1 1 [.int .i64 (j : Int)] rfl rfl (cell_one_at _ _ _ _ (by simp)) (one_i64 _) (by unfold maxLen; omega) (by omega) (by have := hbw.size; simp; omega) ?_)
      intro v' w3 hown3 hgrow3 _
      have b3 : Below w.heap.size w w3 := ((hbw.alloc hbw.size _).alloc (by have := hbw.size; simp; omega) _).grown hgrow3 (by have := hbw.size; simp; omega) (fun j hj => hown.base j hj)
      have o3 : OwnI w3 w.heap.size v' (kidsTo bs k (j + 1)) := by rw [HS.out]; exact OwnI.snoc HL.out hown3
      clear hown hbw hown3 hgrow3 o2' q0 q1 q2 q3
      go_wp2
      go_roundw
      case rel => exact ⟨j + 1, by omega, by go_num, HO.out, o3, b3⟩
      case measure => simp [intOf]; omega
    · have HS : Hid (kidsTo bs k (j + 1) = kidsTo bs k j) := kids_no (by rw [HU.out]; exact hu)
      have o3 := hown.keep ((Below.refl wr.heap.size wr).alloc (Nat.le_refl _) (.cells #[.int .i64 x.kd, .int .i64 x.nd, .int .i64 x.up, .string x.tx] 37 (0, 0)))
      rw [← HS.out] at o3
      clear hown hbw
      go_wp2
      go_roundw
      case rel => exact ⟨j + 1, by omega, by go_num, HO.out, o3, HB3.out⟩
      case measure => simp [intOf]; omega
end Go.Proofs.Ytjknloimdbcogaa
