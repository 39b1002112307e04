/-
  Contract of the model's KeepText: for every white and every text it answers what keepN and keepB name, and leaves older memory alone.
-/
import Derived.Test.YtllkbokkhdomoaaRKeepC
namespace Go.Proofs.YtllkbokkhdomoaaR
open Go.ChangeShapes Go.WideShapes Go.ChangeAt Go.RowKit
set_option linter.unusedVariables false

theorem blkS_yes {two : Bool} {c : UInt8} (h : c.toNat = 9 ∨ (c.toNat = 10 ∧ two = true)) : blkS two c = 32 := by unfold blkS; rw [if_pos h]
theorem blkS_no {two : Bool} {c : UInt8} (h : ¬ (c.toNat = 9 ∨ (c.toNat = 10 ∧ two = true))) : blkS two c = c := by unfold blkS; rw [if_neg h]
theorem own_next {w : World} {B : Nat} {v : Value} {L K : List UInt8} {c : UInt8} {z : Int} (hL : L = K ++ [c]) (hz : z = (c.toNat : Int)) (h : w.ownsRow B 5 1 v (K.length + 1) (K.map encU ++ [.int .u8 z])) :
    w.ownsRow B 5 1 v L.length (L.map encU) := by subst hL; exact own_snoc hz rfl h

set_option maxRecDepth 100000 in
set_option maxHeartbeats 8000000 in
theorem specKeepL_any (white : Int) (s : ByteArray) (w : World) (hw1 : 1 ≤ white) (hw5 : white ≤ 5) (h200 : s.size ≤ 200) :
    Calls Try.prog 8 #[.int .i64 white, .string s] w fun e w' => e = .returned (.string ⟨(keepL white s.data.toList).toArray⟩) ∧ Below w.heap.size w w' := by
  obtain ⟨i0, hi, hz0, hz1, hz2⟩ := info_parts Try.infoU8
  have kb := fun (w : World) => run_bytes_of_string (P := Try.prog) w 9 29 5 s Try.underlying9 Try.underlying29 Try.underlying5
  have hsz : s.data.toList.length = s.size := by simp
  have hB0 := fun cap lo (h : s.size ≤ lo) => brow_new w s cap lo h
  have hK : Hid (∀ b, b = s.data.toList.map (blkS (decide (white ≤ 2))) → (white = 3 ∨ white = 4 → b = keepL white s.data.toList) ∧ (¬ (white = 3 ∨ white = 4) → ∀ n, n = b.length → outK b n = keepL white s.data.toList)) := by
    intro b hb
    subst hb
    refine ⟨fun h => ?_, fun h n hn => ?_⟩
    · unfold keepL; rw [if_pos h]
    · subst hn; rw [outK_all]; unfold keepL; rw [if_neg h, List.length_map]
  obtain ⟨r, hr⟩ : ∃ r, r = keepL white s.data.toList := ⟨_, rfl⟩
  rw [← hr] at hK ⊢
  obtain ⟨l, hl⟩ : ∃ l, l = s.data.toList := ⟨_, rfl⟩
  rw [← hl] at hsz hB0 hK
  have HS : Hid (s.size = l.length) := hsz.symm
  clear hl hsz hr
  go_enter Try.func8, Try.ntmps8
  go_wp2_with fail
  go_loopw [16] (fun i wr => ∃ k : Nat, k ≤ s.size ∧ i = .int .i64 k ∧ BRow wr w.heap.size (mapTo (blkS (decide (white ≤ 2))) l k) ∧ Below w.heap.size w wr) (fun i _ => s.size - (intOf i).toNat)
  case atStart => exact ⟨0, Nat.zero_le _, rfl, by rw [mapTo_zero]; exact hB0 _ _ (size_bytesRow s _), below_undrew2 (Below.refl _ _)⟩
  case round =>
    obtain ⟨k, hk, rfl, hR, hbw⟩ := hrel
    clear hB0 kb
    by_cases hlt : k < s.size
    · have hkL : k < l.length := by rw [← HS.out]; exact hlt
      have hkl : k < (mapTo (blkS (decide (white ≤ 2))) l k).length := by rw [mapTo_len]; exact hkL
      have hc := hR.2.1 k hkl
      have hf := hR.2.2 k hkl
      rw [mapTo_at _ _ _ hkL] at hc
      have Ryes : (l.getD k 0).toNat = 9 ∨ ((l.getD k 0).toNat = 10 ∧ decide (white ≤ 2) = true) → Hid (BRow (wr.setCell ⟨w.heap.size, k, none⟩ (.int .u8 32)) w.heap.size (mapTo (blkS (decide (white ≤ 2))) l (k + 1))) := fun h => by
        have R := hR.set hkl 32 32 rfl
        rw [← blkS_yes h, ← mapTo_next _ _ _ hkL] at R
        exact R
      have Rno : ¬ ((l.getD k 0).toNat = 9 ∨ ((l.getD k 0).toNat = 10 ∧ decide (white ≤ 2) = true)) → Hid (BRow wr w.heap.size (mapTo (blkS (decide (white ≤ 2))) l (k + 1))) := fun h => by
        rw [mapTo_same (blkS (decide (white ≤ 2))) l k hkL (blkS_no h)]
        exact hR
      have R2 := hbw.setCell (p := ⟨w.heap.size, k, none⟩) (Nat.le_refl _) (.int .u8 32)
      generalize (l.getD k 0).toNat = z at hc Ryes Rno
      clear hR hkl hkL hK HS
      by_cases h9 : z = 9
      · have R := Ryes (.inl h9)
        subst h9
        clear Ryes Rno
        go_wp2
        go_roundw
        case rel => exact ⟨k + 1, by omega, by go_num, R.out, R2⟩
        case measure => simp [intOf]; omega
      · have b9 : ((z : Int) == 9) = false := by simp; omega
        by_cases h10 : z = 10
        · by_cases h2 : white ≤ 2
          · have R := Ryes (.inr ⟨h10, by simpa using h2⟩)
            subst h10
            clear Ryes Rno
            go_wp2
            go_roundw
            case rel => exact ⟨k + 1, by omega, by go_num, R.out, R2⟩
            case measure => simp [intOf]; omega
          · have R := Rno (by simp; omega)
            have h2' : decide (white ≤ 2) = false := by simpa using h2
            subst h10
            clear Ryes Rno
            go_wp2
            go_roundw
            case rel => exact ⟨k + 1, by omega, by go_num, R.out, hbw⟩
            case measure => simp [intOf]; omega
        · have R := Rno (by omega)
          have b10 : ((z : Int) == 10) = false := by simp; omega
          clear Ryes Rno
          go_wp2
          go_roundw
          case rel => exact ⟨k + 1, by omega, by go_num, R.out, hbw⟩
          case measure => simp [intOf]; omega
    · have e : k = s.size := by omega
      subst e
      rw [show mapTo (blkS (decide (white ≤ 2))) l s.size = l.map (blkS (decide (white ≤ 2))) by rw [HS.out, mapTo_all]] at hR
      have HB : Hid (s.size = (l.map (blkS (decide (white ≤ 2)))).length) := by show _ = _; rw [List.length_map]; exact HS.out
      have HK : Hid ((white = 3 ∨ white = 4 → l.map (blkS (decide (white ≤ 2))) = r) ∧ (¬ (white = 3 ∨ white = 4) → ∀ n, n = (l.map (blkS (decide (white ≤ 2)))).length → outK (l.map (blkS (decide (white ≤ 2)))) n = r)) := hK.out _ rfl
      generalize l.map (blkS (decide (white ≤ 2))) = b at hR HB HK
      clear hK HS
      by_cases h3 : white = 3
      · have kc := hR.back (grownCap w s.size 0 5)
        rw [← HB.out, HK.out.1 (.inl h3)] at kc
        subst h3
        go_wp2
        go_ret
        exact ⟨rfl, hbw⟩
      by_cases h4 : white = 4
      · have kc := hR.back (grownCap w s.size 0 5)
        rw [← HB.out, HK.out.1 (.inr h4)] at kc
        subst h4
        go_wp2
        go_ret
        exact ⟨rfl, hbw⟩
      have b3 : (white == 3) = false := by simp; omega
      have b4 : (white == 4) = false := by simp; omega
      have HK2 : Hid (outK b s.size = r) := HK.out.2 (by omega) s.size HB.out
      clear HK
      obtain ⟨wa, hwa⟩ : ∃ wa, wa = wr := ⟨_, rfl⟩
      subst hwa
      have hown00 := World.ownsRow_nil wa wa.heap.size 5 1
      go_wp2_with fail
      go_loopw [8, 45] (fun v i wr => ∃ k : Nat, k ≤ s.size ∧ i = .int .i64 k ∧ wr.ownsRow wa.heap.size 5 1 v (outK b k).length ((outK b k).map encU) ∧ Below wa.heap.size wa wr) (fun _ i _ => s.size - (intOf i).toNat)
      case atStart => exact ⟨0, Nat.zero_le _, rfl, by rw [outK_zero]; exact hown00, Below.refl _ _⟩
      case round =>
        obtain ⟨k, hk, rfl, hown, hbo⟩ := hrel
        clear hown00
        by_cases hlt : k < s.size
        · have HC : Hid (∀ j, j < s.size → wr.cell? ⟨w.heap.size, j, none⟩ = some (.int .u8 ((b.getD j 0).toNat : Int))) := fun j hj => (hbo.cell (p := ⟨w.heap.size, j, none⟩) hR.1).trans (hR.2.1 j (by rw [← HB.out]; exact hj))
          have hck := HC.out k hlt
          have hkb : k < b.length := by rw [← HB.out]; exact hlt
          have hle := outK_le b k (by omega)
          have HO : Hid ((b.getD k 0).toNat ≠ 32 → outK b (k + 1) = outK b k ++ [b.getD k 0]) := outK_other b k hkb
          have HSK : Hid ((b.getD k 0).toNat = 32 → ∀ m, k ≤ m → m ≤ s.size → (∀ j, k ≤ j → j < m → (b.getD j 0).toNat = 32) → (m < s.size → (b.getD m 0).toNat ≠ 32) → (skipB b m (outK b k) → outK b (k + 1) = outK b k) ∧ (¬ skipB b m (outK b k) → outK b (k + 1) = outK b k ++ [32])) := fun h m a1 a2 a3 a4 => outK_blank b k m hkb h a1 (by rw [← HB.out]; exact a2) a3 (by rw [← HB.out]; exact a4)
          clear hkb hR
          by_cases h32 : (b.getD k 0).toNat = 32
          rotate_left
          · have HO := HO.out h32
            obtain ⟨z, hz⟩ : ∃ z : Nat, z = (b.getD k 0).toNat := ⟨_, rfl⟩
            rw [← hz] at hck h32
            have HZ : Hid (z = (b.getD k 0).toNat) := hz
            have b32 : ((z : Int) == 32) = false := by simp; omega
            have d32 : ((z : Int) != 32) = true := by simp; omega
            have HO : Hid (outK b (k + 1) = outK b k ++ [b.getD k 0]) := HO
            clear hz HC HSK
            go_wp2_with (at_builtin; refine wpList_append_own _ rfl (.tmp 52) (.tmp 54) 29 rfl wa.heap.size 5 i0 (.int .u8 0) 1 1 Try.underlying29 hi hz0 hz1 hz2 rfl (by decide) _ _ _ rfl (hown.alloc _) ⟨wr.heap.size, 0, none⟩ 1 1 [.int .u8 z] rfl rfl (cell_one_new _ _ _) (one_u8 z) (by unfold maxLen; omega) (by omega) (by have := hbo.size; simp; omega) ?_)
            intro v' w2 hown2 hgrow2 _
            have R1 := own_next (z := (z : Int)) (c := b.getD k 0) (K := outK b k) (L := outK b (k + 1)) (HO.out) (by rw [HZ.out]) (by simpa using hown2)
            have R2 : Below wa.heap.size wa w2 := (hbo.alloc hbo.size _).grown hgrow2 (by have := hbo.size; simp; omega) (fun j hj => own_lo hown j hj)
            clear hown2 hgrow2 hown hbo
            go_wp2
            go_roundw
            case rel => exact ⟨k + 1, by omega, by go_num, R1, R2⟩
            case measure => simp [intOf]; omega
          · rw [h32] at hck
            have HSK : Hid (∀ m, k ≤ m → m ≤ s.size → (∀ j, k ≤ j → j < m → (b.getD j 0).toNat = 32) → (m < s.size → (b.getD m 0).toNat ≠ 32) → (skipB b m (outK b k) → outK b (k + 1) = outK b k) ∧ (¬ skipB b m (outK b k) → outK b (k + 1) = outK b k ++ [32])) := HSK.out h32
            obtain ⟨ao, co, rfl, hco⟩ := own_val hown
            clear HO
            go_wp2_with fail
            go_loop [11] (fun i => ∃ m : Nat, k ≤ m ∧ m ≤ s.size ∧ i = .int .i64 m ∧ ∀ j, k ≤ j → j < m → (b.getD j 0).toNat = 32) (fun i => s.size - (intOf i).toNat)
            case atStart => exact ⟨k, Nat.le_refl _, by omega, rfl, fun j h1 h2 => absurd h2 (by omega)⟩
            case round =>
              obtain ⟨m, hm1, hm2, rfl, hall⟩ := hrel
              by_cases hmn : m < s.size
              rotate_left
              · have e : m = s.size := by omega
                subst e
                have HSK : Hid (_ ∧ _) := HSK.out s.size hm1 (Nat.le_refl _) hall (fun h => absurd h (by omega))
                clear hall HC hco
                have R1 := HSK.out.1 (.inl HB.out)
                clear HSK
                go_wp2
                go_roundw
                case rel => exact ⟨k + 1, by omega, by go_num, by rw [R1]; exact hown, hbo⟩
                case measure => simp [intOf]; omega
              · have hcm := HC.out m hmn
                by_cases hz32 : (b.getD m 0).toNat = 32
                · have hall' : Hid (∀ j, k ≤ j → j < m + 1 → (b.getD j 0).toNat = 32) := fun j h1 h2 => by
                    by_cases e : j = m
                    · subst e; exact hz32
                    · exact hall j h1 (by omega)
                  rw [hz32] at hcm
                  clear hall HC hco
                  go_wp2
                  go_round
                  case rel => exact ⟨m + 1, by omega, by omega, by go_num, hall'.out⟩
                  case measure => simp [intOf]; omega
                · have HSK : Hid (_ ∧ _) := HSK.out m hm1 (by omega) hall (fun _ => hz32)
                  have HSM : Hid ((b.getD m 0).toNat = 10 → skipB b m (outK b k)) := fun h => .inr (.inl h)
                  obtain ⟨z, hz⟩ : ∃ z : Nat, z = (b.getD m 0).toNat := ⟨_, rfl⟩
                  rw [← hz] at hcm hz32 HSM
                  have HZ : Hid (z = (b.getD m 0).toNat) := hz
                  have b32 : ((z : Int) == 32) = false := by simp; omega
                  have bmn : ((m : Int) == (s.size : Int)) = false := by simp; omega
                  clear hz hall HC
                  by_cases h10 : z = 10
                  · have hSk := HSM.out h10
                    subst h10
                    clear HSM hco HZ
                    have R1 := HSK.out.1 (hSk)
                    clear HSK
                    go_wp2
                    go_roundw
                    case rel => exact ⟨k + 1, by omega, by go_num, by rw [R1]; exact hown, hbo⟩
                    case measure => simp [intOf]; omega
                  · have b10 : ((z : Int) == 10) = false := by simp; omega
                    obtain ⟨q, hq⟩ : ∃ q : Nat, q = (outK b k).length := ⟨_, rfl⟩
                    obtain ⟨y, hy⟩ : ∃ y : Nat, y = lastU (outK b k) := ⟨_, rfl⟩
                    have hlast : 0 < q → ∃ g, ao = some ⟨g, 0, none⟩ ∧ wr.cell? ⟨g, q - 1, none⟩ = some (.int .u8 (y : Int)) := fun h => by
                      obtain ⟨g, hg, _, _, hcell⟩ := hco (by omega)
                      refine ⟨g, hg, hcell _ _ ?_⟩
                      rw [hy, hq]
                      simp only [lastU, List.getD_eq_getElem?_getD]
                      rw [List.getElem?_map, List.getElem?_eq_getElem (by omega)]
                      rfl
                    have HSN : Hid (¬ (q = 0 ∨ y = 32 ∨ y = 10) → ¬ skipB b m (outK b k)) := fun h g => by
                      rcases g with g | g | g | g | g
                      · have := HB.out; omega
                      · exact h10 (HZ.out.trans g)
                      · exact h (.inl (hq.trans g))
                      · exact h (.inr (.inl (hy.trans g)))
                      · exact h (.inr (.inr (hy.trans g)))
                    have HSY : Hid ((q = 0 ∨ y = 32 ∨ y = 10) → skipB b m (outK b k)) := fun h => by
                      rcases h with g | g | g
                      · exact .inr (.inr (.inl (hq.symm.trans g)))
                      · exact .inr (.inr (.inr (.inl (hy.symm.trans g))))
                      · exact .inr (.inr (.inr (.inr (hy.symm.trans g))))
                    rw [← hq] at hle
                    have HQ : Hid (q = (outK b k).length) := hq
                    have hown' : wr.ownsRow wa.heap.size 5 1 (.slice ao q co) q ((outK b k).map encU) := by rw [HQ.out]; exact hown
                    have hgo : Value.slice ao (outK b k).length co = .slice ao q co := by rw [HQ.out]
                    have HG : Hid (wr.ownsRow wa.heap.size 5 1 (.slice ao q co) (outK b k).length ((outK b k).map encU)) := by rw [HQ.out]; exact hown
                    rw [hgo]
                    clear hq hy hco HZ HSM hown hgo
                    have hown := hown'
                    clear hown'
                    by_cases hq0 : q = 0
                    · have hSk := HSY.out (.inl hq0)
                      subst hq0
                      clear HSY HSN hlast
                      have R1 := HSK.out.1 (hSk)
                      clear HSK
                      go_wp2
                      go_roundw
                      case rel => exact ⟨k + 1, by omega, by go_num, by rw [R1]; exact HG.out, hbo⟩
                      case measure => simp [intOf]; omega
                    · obtain ⟨g, rfl, hcl⟩ := hlast (by omega)
                      have hq1 : (0 : Int) < (q : Int) := by omega
                      have hq2 : (0 : Int) ≤ (q : Int) - 1 := by omega
                      have bq0 : ((q : Int) == 0) = false := by simp; omega
                      clear hlast
                      by_cases hy32 : y = 32
                      · have hSk := HSY.out (.inr (.inl hy32))
                        subst hy32
                        clear HSY HSN
                        have R1 := HSK.out.1 (hSk)
                        clear HSK
                        go_wp2
                        go_roundw
                        case rel => exact ⟨k + 1, by omega, by go_num, by rw [R1]; exact HG.out, hbo⟩
                        case measure => simp [intOf]; omega
                      · have by32 : ((y : Int) == 32) = false := by simp; omega
                        by_cases hy10 : y = 10
                        · have hSk := HSY.out (.inr (.inr hy10))
                          subst hy10
                          clear HSY HSN
                          have R1 := HSK.out.1 (hSk)
                          clear HSK
                          go_wp2
                          go_roundw
                          case rel => exact ⟨k + 1, by omega, by go_num, by rw [R1]; exact HG.out, hbo⟩
                          case measure => simp [intOf]; omega
                        · have by10 : ((y : Int) == 10) = false := by simp; omega
                          have HN2 : Hid (outK b (k + 1) = outK b k ++ [32]) := HSK.out.2 (HSN.out (by omega))
                          clear HSY HSN HSK
                          go_wp2_with (at_builtin; refine wpList_append_own _ rfl (.tmp 104) (.tmp 105) 29 rfl wa.heap.size 5 i0 (.int .u8 0) 1 1 Try.underlying29 hi hz0 hz1 hz2 rfl (by decide) _ _ _ rfl (hown.alloc _) ⟨wr.heap.size, 0, none⟩ 1 1 [.int .u8 32] rfl rfl (cell_one_new _ _ _) (one_u8 32) (by unfold maxLen; omega) (by omega) (by have := hbo.size; simp; omega) ?_)
                          intro v' w2 hown2 hgrow2 _
                          have R1 := own_next (c := 32) (K := outK b k) (L := outK b (k + 1)) (HN2.out) (rfl) (by rw [← HQ.out]; exact hown2)
                          have R2 : Below wa.heap.size wa w2 := (hbo.alloc hbo.size _).grown hgrow2 (by have := hbo.size; simp; omega) (fun j hj => own_lo hown j hj)
                          clear hown2 hgrow2 hown hbo
                          go_wp2
                          go_roundw
                          case rel => exact ⟨k + 1, by omega, by go_num, R1, R2⟩
                          case measure => simp [intOf]; omega
        · have e : k = s.size := by omega
          subst e
          have kc := own_back rfl hown
          rw [HK2.out] at kc
          go_wp2
          go_ret
          exact ⟨rfl, hbw.trans (hbo.mono hbw.size)⟩

set_option maxHeartbeats 2000000 in
theorem specKeep_any (white : Int) (s : ByteArray) (w : World) (hs : s.size ≤ maxLen) :
    Calls Try.prog 4 #[.int .i64 white, .string s] w fun e w' => e = .returned (.tuple #[.string (keepN white s), .bool (keepB white s)]) ∧ Below w.heap.size w w' := by
  have PL := fun w => specText_any true s w hs
  unfold maxLen at hs
  cases hW : inB 1 5 white
  · have HV : Hid (_ = _) := keep_no (white := white) (s := s) (by simp [keepB, hW])
    go_enter Try.func4, Try.ntmps4
    go_wp2_with (go_at_call 6; refine (l3White_any _ _).mono ?_; rintro e w' ⟨rfl, rfl⟩)
    go_ret2
    exact ⟨congrArg Ending.returned HV.out, Below.refl _ _⟩
  cases hT : okB true s
  · have HV : Hid (_ = _) := keep_no (white := white) (s := s) (by simp [keepB, hT])
    rw [hT] at PL
    go_enter Try.func4, Try.ntmps4
    go_wp2_with (first | (go_at_call 6; refine (l3White_any _ _).mono ?_; rintro e w' ⟨rfl, rfl⟩) | (go_at_call 7; refine (PL _).mono ?_; rintro e w' ⟨rfl, rfl⟩))
    go_ret2
    exact ⟨congrArg Ending.returned HV.out, Below.refl _ _⟩
  have HB : Hid (keepB white s = true) := by show _ = _; simp [keepB, hW, hT]
  have hw := inB_yes hW
  have KL := fun w => specKeepL_any white s w hw.1 hw.2 (okB_yes hT).1
  have HV : Hid (_ = _) := keep_yes HB.out rfl
  rw [hT] at PL
  clear hT hw
  go_enter Try.func4, Try.ntmps4
  go_wp2_with (first | (go_at_call 6; refine (l3White_any _ _).mono ?_; rintro e w' ⟨rfl, rfl⟩) | (go_at_call 7; refine (PL _).mono ?_; rintro e w' ⟨rfl, rfl⟩) | (go_at_call 8; refine (KL _).mono ?_; rintro e w1 ⟨rfl, hb1⟩))
  go_ret2
  exact ⟨congrArg Ending.returned HV.out, hb1⟩
end Go.Proofs.YtllkbokkhdomoaaR
