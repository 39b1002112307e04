/-
  The walk through the law FnFits: it answers true at every two byte slices of together at most 1048576 bytes, where the table of letters holds what the program lays in it.
-/
import Derived.Test.YtllkbokkhdomoaaRDoorFitsLaw
namespace Go.Proofs.YtllkbokkhdomoaaRDoor
open Go.ChangeShapes Go.WideShapes Go.ChangeAt Go.RowKit
set_option linter.unusedVariables false

set_option maxRecDepth 100000 in
set_option maxHeartbeats 8000000 in
theorem fits_small (a0 a1 : Option Addr) (len0 cap0 len1 cap1 : Nat) (w : World) (g0 : RowB w a0 len0) (g1 : RowB w a1 len1) (hl : len0 + len1 ≤ 1048576) (hK : Kinds w) :
    Calls Tryd.prog 3 #[.slice a0 len0 cap0, .slice a1 len1 cap1] w fun e w' => e = .returned (.bool true) ∧ Below w.heap.size w w' := by
  have hl' : (len0 : Int) + (len1 : Int) ≤ 1048576 := by omega
  have DF := drawFits_any a0 len0 cap0 w (by omega) g0
  go_enter Tryd.func3, Tryd.ntmps3
  go_wp2_with fail
  refine DF.mono ?_
  rintro e w1 ⟨fa, fd, fn, fu, fb, s, room, rfl, hs, hb1⟩
  have hsm : s.size ≤ maxLen := by unfold maxLen; omega
  have IF := implFits_any fa fd fn fu fb s room (w1.alloc (.cells #[.int .i64 fa, .int .i64 fd, .int .i64 fn, .int .i64 fu, .int .i64 fb] 24)) hsm ((hK.below hb1).below ((Below.refl _ _).alloc (Nat.le_refl _) _))
  have B1 := box_new w1 fa fd fn fu fb
  have hb1' := hb1.alloc hb1.size (.cells #[.int .i64 fa, .int .i64 fd, .int .i64 fn, .int .i64 fu, .int .i64 fb] 24)
  clear DF hb1 g0
  go_wp2_with fail
  refine IF.mono ?_
  rintro e w2 ⟨hv, hb2⟩
  have B2 := B1.below hb2
  have H2 := hb1'.trans (hb2.mono hb1'.size)
  clear IF B1 hb1' hb2
  have SF := specFits_any fa fd fn fu fb s room w2 hsm
  have B2' := B2
  obtain ⟨b0, b1, b2, b3, b4, b5⟩ := B2
  rcases hv with ⟨hA, rfl⟩ | ⟨hA, n, hn, rfl⟩
  · have HA : Hid (advB fa fd fn fu fb s = false) := hA
    clear hA
    go_wp2_with fail
    refine SF.mono ?_
    rintro e w3 ⟨hv, hb3⟩
    have hb := H2.trans (hb3.mono H2.size)
    rcases hv with ⟨_, rfl⟩ | ⟨hA', _⟩
    rotate_left
    · have := HA.out; rw [this] at hA'; cases hA'
    have DL := drawLine_any a1 len1 cap1 w3 (by omega) (g1.below hb)
    clear SF hb3 H2 B2' b0 b1 b2 b3 b4 b5 g1 hK
    go_wp2_with fail
    refine DL.mono ?_
    rintro e v1 ⟨ga, gd, gn, gu, gb, t, rfl, hb5⟩
    have hb6 := (hb.trans (hb5.mono hb.size)).alloc (hb.trans (hb5.mono hb.size)).size (.cells #[.int .i64 ga, .int .i64 gd, .int .i64 gn, .int .i64 gu, .int .i64 gb] 24)
    have IL := implLine_any ga gd gn gu gb t (v1.alloc (.cells #[.int .i64 ga, .int .i64 gd, .int .i64 gn, .int .i64 gu, .int .i64 gb] 24))
    have BX := box_new v1 ga gd gn gu gb
    clear DL hb5 hb
    go_wp2_with fail
    refine IL.mono ?_
    rintro e v2 ⟨he, hb7⟩
    have hb8 := hb6.trans (hb7.mono hb6.size)
    have SL := specLine_any ga gd gn gu gb t v2
    have BX2 := BX.below hb7
    clear IL BX hb6 hb7
    rcases lineV_cases ga gd gn gu gb t with hv | ⟨x, hv, a1, a2, d1, d2, t1, t2, x1, x2⟩
    · rw [hv] at he SL
      subst he
      clear hv
      have BX3 := fun (v3 : World) (hb9 : Below v2.heap.size v2 v3) => BX2.below hb9
      obtain ⟨c0, c1, c2, c3, c4, c5⟩ := BX2
      go_wp2_with fail
      refine SL.mono ?_
      rintro e v3 ⟨rfl, hb9⟩
      have hb10 := hb8.trans (hb9.mono hb8.size)
      clear SL hb8 hb9 BX3
      go_wp2
      go_ret
      exact ⟨rfl, hb10⟩
    · have hw : whole ga gd t = if t = 0 then ga + gd else t := rfl
      have BX3 := fun (v3 : World) (hb9 : Below v2.heap.size v2 v3) => BX2.below hb9
      obtain ⟨c0, c1, c2, c3, c4, c5⟩ := BX2
      by_cases ht : t = 0
      · subst ht
        rw [if_pos rfl] at hw
        rw [hv, hw] at he SL
        subst he
        have E1 : x + (ga + gd - x) = ga + gd := by omega
        clear hv hw
        go_wp2_with fail
        refine SL.mono ?_
        rintro e v3 ⟨rfl, hb9⟩
        have hb10 := hb8.trans (hb9.mono hb8.size)
        obtain ⟨e0, e1, e2, e3, e4, e5⟩ := BX3 v3 hb9
        clear SL hb8 hb9 BX3 c0 c1 c2 c3 c4 c5
        go_wp2
        go_ret
        exact ⟨rfl, hb10⟩
      · rw [if_neg ht] at hw
        rw [hv, hw] at he SL
        subst he
        have E1 : x + (t - x) = t := by omega
        clear hv hw
        go_wp2_with fail
        refine SL.mono ?_
        rintro e v3 ⟨rfl, hb9⟩
        have hb10 := hb8.trans (hb9.mono hb8.size)
        clear SL hb8 hb9 BX3 c0 c1 c2 c3 c4 c5
        go_wp2
        go_ret
        exact ⟨rfl, hb10⟩
  · have HA : Hid (advB fa fd fn fu fb s = true) := hA
    clear hA
    go_wp2_with fail
    refine SF.mono ?_
    rintro e w3 ⟨hv, hb3⟩
    have hb := H2.trans (hb3.mono H2.size)
    have B3 := B2'.below hb3
    have K3 := hK.below hb
    rcases hv with ⟨hA', _⟩ | ⟨_, n', hn', rfl⟩
    · have := HA.out; rw [this] at hA'; cases hA'
    obtain rfl := hn'.one hn
    clear hn' SF hb3 H2 B2' b0 b1 b2 b3 b4 b5 hK
    obtain ⟨hns, hn1, hn2⟩ := hn
    have HN1 : Hid (∀ j, j < n' → advK fn fu fb s (j + 1) ≤ room) := hn1
    have HN2 : Hid (n' < s.size → room < advK fn fu fb s (n' + 1)) := hn2
    clear hn1 hn2
    have q1 : (0 : Int) ≤ (n' : Int) := by omega
    have q2 : (n' : Int) ≤ (s.size : Int) := by omega
    have AD := implAdv_cut fa fd fn fu fb s n' w3.drew HA.out hns hs K3
    have B3' := B3
    obtain ⟨b0, b1, b2, b3, b4, b5⟩ := B3
    go_wp2_with fail
    go_region_held3 (fun w' => w'.cell? ⟨w1.heap.size, 0, none⟩ = some (.int .i64 fa) ∧ w'.cell? ⟨w1.heap.size, 1, none⟩ = some (.int .i64 fd) ∧ w'.cell? ⟨w1.heap.size, 2, none⟩ = some (.int .i64 fn) ∧ w'.cell? ⟨w1.heap.size, 3, none⟩ = some (.int .i64 fu) ∧ w'.cell? ⟨w1.heap.size, 4, none⟩ = some (.int .i64 fb))
      (first | go_keep | exact (B3'.below ⟨hb4.os, hb4.tape, hb4.output, hb4.size, hb4.block⟩).2)
      ((go_at_call 9; go_fit AD; rintro e w4 ⟨rfl, hb4⟩))
    have hb' := hb.trans (Below.mono (B := w3.heap.size) ⟨hb4.os, hb4.tape, hb4.output, hb4.size, hb4.block⟩ hb.size)
    have B4 : BoxAt w4 w1.heap.size fa fd fn fu fb := B3'.below ⟨hb4.os, hb4.tape, hb4.output, hb4.size, hb4.block⟩
    have K4 : Kinds w4 := K3.below ⟨hb4.os, hb4.tape, hb4.output, hb4.size, hb4.block⟩
    clear hb B3' K3 hb4 AD b0 b1 b2 b3 b4 b5
    have hz : ¬ (0 : Int) < (n' : Int) ∨ ((0 : Int) < (n' : Int) ∧ advK fn fu fb s n' ≤ room) := by
      by_cases h0 : 0 < n'
      · have := HN1.out (n' - 1) (by omega)
        rw [show n' - 1 + 1 = n' by omega] at this
        exact .inr ⟨by omega, this⟩
      · exact .inl (by omega)
    by_cases hlt : n' < s.size
    · have AD := implAdv_cut fa fd fn fu fb s (n' + 1) w4.drew HA.out (by omega) hs K4
      have hr := HN2.out hlt
      have q3 : (0 : Int) ≤ (n' : Int) + 1 := by omega
      have q4 : (n' : Int) + 1 ≤ (s.size : Int) := by omega
      have q5 : (n' : Int) < (s.size : Int) := by omega
      have F1 : IntKind.i64.wrap ((n' : Int) + 1) = (n' : Int) + 1 := wrapI _ (by omega) (by omega)
      have B4' := B4
      obtain ⟨b0, b1, b2, b3, b4, b5⟩ := B4
      rcases hz with hz | ⟨hz, ha⟩
      all_goals
        go_wp2_with fail
        go_region_held3 (fun w' => w'.cell? ⟨w1.heap.size, 0, none⟩ = some (.int .i64 fa) ∧ w'.cell? ⟨w1.heap.size, 1, none⟩ = some (.int .i64 fd) ∧ w'.cell? ⟨w1.heap.size, 2, none⟩ = some (.int .i64 fn) ∧ w'.cell? ⟨w1.heap.size, 3, none⟩ = some (.int .i64 fu) ∧ w'.cell? ⟨w1.heap.size, 4, none⟩ = some (.int .i64 fb))
          (first | go_keep | exact (B4'.below ⟨hb4.os, hb4.tape, hb4.output, hb4.size, hb4.block⟩).2)
          ((go_at_call 9; go_fit AD; rintro e w5 ⟨rfl, hb4⟩))
        have hb := hb'.trans (Below.mono (B := w4.heap.size) ⟨hb4.os, hb4.tape, hb4.output, hb4.size, hb4.block⟩ hb'.size)
        have DL := drawLine_any a1 len1 cap1 w5 (by omega) (g1.below hb)
        clear hb' hb4 B4' b0 b1 b2 b3 b4 b5 AD F1 K4 g1
        go_wp2_with fail
        refine DL.mono ?_
        rintro e v1 ⟨ga, gd, gn, gu, gb, t, rfl, hb5⟩
        have hb6 := (hb.trans (hb5.mono hb.size)).alloc (hb.trans (hb5.mono hb.size)).size (.cells #[.int .i64 ga, .int .i64 gd, .int .i64 gn, .int .i64 gu, .int .i64 gb] 24)
        have IL := implLine_any ga gd gn gu gb t (v1.alloc (.cells #[.int .i64 ga, .int .i64 gd, .int .i64 gn, .int .i64 gu, .int .i64 gb] 24))
        have BX := box_new v1 ga gd gn gu gb
        clear DL hb5 hb
        go_wp2_with fail
        refine IL.mono ?_
        rintro e v2 ⟨he, hb7⟩
        have hb8 := hb6.trans (hb7.mono hb6.size)
        have SL := specLine_any ga gd gn gu gb t v2
        have BX2 := BX.below hb7
        clear IL BX hb6 hb7
        rcases lineV_cases ga gd gn gu gb t with hv | ⟨x, hv, a1, a2, d1, d2, t1, t2, x1, x2⟩
        · rw [hv] at he SL
          subst he
          clear hv
          have BX3 := fun (v3 : World) (hb9 : Below v2.heap.size v2 v3) => BX2.below hb9
          obtain ⟨c0, c1, c2, c3, c4, c5⟩ := BX2
          go_wp2_with fail
          refine SL.mono ?_
          rintro e v3 ⟨rfl, hb9⟩
          have hb10 := hb8.trans (hb9.mono hb8.size)
          clear SL hb8 hb9 BX3
          go_wp2
          go_ret
          exact ⟨rfl, hb10⟩
        · have hw : whole ga gd t = if t = 0 then ga + gd else t := rfl
          have BX3 := fun (v3 : World) (hb9 : Below v2.heap.size v2 v3) => BX2.below hb9
          obtain ⟨c0, c1, c2, c3, c4, c5⟩ := BX2
          by_cases ht : t = 0
          · subst ht
            rw [if_pos rfl] at hw
            rw [hv, hw] at he SL
            subst he
            have E1 : x + (ga + gd - x) = ga + gd := by omega
            clear hv hw
            go_wp2_with fail
            refine SL.mono ?_
            rintro e v3 ⟨rfl, hb9⟩
            have hb10 := hb8.trans (hb9.mono hb8.size)
            obtain ⟨e0, e1, e2, e3, e4, e5⟩ := BX3 v3 hb9
            clear SL hb8 hb9 BX3 c0 c1 c2 c3 c4 c5
            go_wp2
            go_ret
            exact ⟨rfl, hb10⟩
          · rw [if_neg ht] at hw
            rw [hv, hw] at he SL
            subst he
            have E1 : x + (t - x) = t := by omega
            clear hv hw
            go_wp2_with fail
            refine SL.mono ?_
            rintro e v3 ⟨rfl, hb9⟩
            have hb10 := hb8.trans (hb9.mono hb8.size)
            clear SL hb8 hb9 BX3 c0 c1 c2 c3 c4 c5
            go_wp2
            go_ret
            exact ⟨rfl, hb10⟩
    · have q5 : (s.size : Int) ≤ (n' : Int) := by omega
      have hb := hb'
      have DL := drawLine_any a1 len1 cap1 w4 (by omega) (g1.below hb)
      clear hb' B4 K4 g1
      rcases hz with hz | ⟨hz, ha⟩
      all_goals
        go_wp2_with fail
        refine DL.mono ?_
        rintro e v1 ⟨ga, gd, gn, gu, gb, t, rfl, hb5⟩
        have hb6 := (hb.trans (hb5.mono hb.size)).alloc (hb.trans (hb5.mono hb.size)).size (.cells #[.int .i64 ga, .int .i64 gd, .int .i64 gn, .int .i64 gu, .int .i64 gb] 24)
        have IL := implLine_any ga gd gn gu gb t (v1.alloc (.cells #[.int .i64 ga, .int .i64 gd, .int .i64 gn, .int .i64 gu, .int .i64 gb] 24))
        have BX := box_new v1 ga gd gn gu gb
        clear DL hb5 hb
        go_wp2_with fail
        refine IL.mono ?_
        rintro e v2 ⟨he, hb7⟩
        have hb8 := hb6.trans (hb7.mono hb6.size)
        have SL := specLine_any ga gd gn gu gb t v2
        have BX2 := BX.below hb7
        clear IL BX hb6 hb7
        rcases lineV_cases ga gd gn gu gb t with hv | ⟨x, hv, a1, a2, d1, d2, t1, t2, x1, x2⟩
        · rw [hv] at he SL
          subst he
          clear hv
          have BX3 := fun (v3 : World) (hb9 : Below v2.heap.size v2 v3) => BX2.below hb9
          obtain ⟨c0, c1, c2, c3, c4, c5⟩ := BX2
          go_wp2_with fail
          refine SL.mono ?_
          rintro e v3 ⟨rfl, hb9⟩
          have hb10 := hb8.trans (hb9.mono hb8.size)
          clear SL hb8 hb9 BX3
          go_wp2
          go_ret
          exact ⟨rfl, hb10⟩
        · have hw : whole ga gd t = if t = 0 then ga + gd else t := rfl
          have BX3 := fun (v3 : World) (hb9 : Below v2.heap.size v2 v3) => BX2.below hb9
          obtain ⟨c0, c1, c2, c3, c4, c5⟩ := BX2
          by_cases ht : t = 0
          · subst ht
            rw [if_pos rfl] at hw
            rw [hv, hw] at he SL
            subst he
            have E1 : x + (ga + gd - x) = ga + gd := by omega
            clear hv hw
            go_wp2_with fail
            refine SL.mono ?_
            rintro e v3 ⟨rfl, hb9⟩
            have hb10 := hb8.trans (hb9.mono hb8.size)
            obtain ⟨e0, e1, e2, e3, e4, e5⟩ := BX3 v3 hb9
            clear SL hb8 hb9 BX3 c0 c1 c2 c3 c4 c5
            go_wp2
            go_ret
            exact ⟨rfl, hb10⟩
          · rw [if_neg ht] at hw
            rw [hv, hw] at he SL
            subst he
            have E1 : x + (t - x) = t := by omega
            clear hv hw
            go_wp2_with fail
            refine SL.mono ?_
            rintro e v3 ⟨rfl, hb9⟩
            have hb10 := hb8.trans (hb9.mono hb8.size)
            clear SL hb8 hb9 BX3 c0 c1 c2 c3 c4 c5
            go_wp2
            go_ret
            exact ⟨rfl, hb10⟩
end Go.Proofs.YtllkbokkhdomoaaRDoor
