/-
  The model of ReadPixels answers readN and readB of the text, for every string of at most 1048576 bytes.
-/
import Derived.Test.YtdgagjnkbmckoaaGreatDoorRead7
import Derived.Test.YtdgagjnkbmckoaaGreatDoorRead5
namespace Go.Proofs.YtdgagjnkbmckoaaGreatDoor
open Go.ChangeShapes Go.WideShapes Go.ChangeAt Go.RowKit
set_option linter.unusedVariables false

def sumOf (b : ByteArray) : Int := 100 * val (wholeOf b).data.toList + hund (partOf b)
def signedH (t : ByteArray) : Int := if negB t then -(sumOf (bodyOf t)) else sumOf (bodyOf t)
theorem data_nought (p : ByteArray) : (p ++ ⟨#[48]⟩).data.toList = p.data.toList ++ [48] := by simp
theorem size_nought (p : ByteArray) : (p ++ ⟨#[48]⟩).size = p.size + 1 := by rw [ByteArray.size_append]; rfl
theorem dig_nought {p : ByteArray} (h : digB p = true) : digB (p ++ ⟨#[48]⟩) = true := by
  unfold digB at *
  rw [data_nought, List.all_append, h]
  rfl
theorem val_nought {p : ByteArray} (h : p.size = 1) : val (p ++ ⟨#[48]⟩).data.toList = hund p := by
  rw [data_nought, val_snoc]
  simp [hund, h]

theorem digs_fits {s : ByteArray} {m : Int} (h : digsB s m = true) : (s.size : Int) ≤ m ∧ digB s = true := by
  unfold digsB at h
  simp only [Bool.and_eq_true, decide_eq_true_eq] at h
  exact ⟨h.1.2, h.2⟩

/-- The model's reader of hundredths. -/
theorem hundredths_any (t : ByteArray) (w : World) (hs : t.size ≤ 1048576) :
    Calls Tryz.prog 15 #[.string t] w fun e w' => e = .returned (.tuple #[.int .i64 (if fitB (bodyOf t) then signedH t else 0), .bool (fitB (bodyOf t))]) ∧ ∃ n, w' = w.drewN n := by
  have hb := body_size t
  have hw := whole_size (bodyOf t)
  have hp := part_size (bodyOf t)
  have b1 : (wholeOf (bodyOf t)).size ≤ 1048576 := by omega
  have b2 : (partOf (bodyOf t)).size ≤ 1048576 := by omega
  have CC := fun w => l1Cut_any (bodyOf t) w (by omega)
  by_cases h1 : 1 ≤ t.size
  rotate_left
  · have hn := neg_empty t h1
    have eb : bodyOf t = t := by simp [bodyOf, hn]
    have e0 : (wholeOf (bodyOf t)).size = 0 := by omega
    have hd : digsB (wholeOf (bodyOf t)) 5 = false := digsB_short (by omega)
    have ef : fitB (bodyOf t) = false := by simp [fitB, hd]
    rw [ef]
    simp only [Bool.false_eq_true, if_false]
    have D1 := fun w => l1D_no _ 5 w b1 hd (by omega)
    generalize wholeOf (bodyOf t) = wh at *
    generalize partOf (bodyOf t) = pt at *
    generalize dotB (bodyOf t) = dot at *
    rw [eb] at CC
    exact hu_emp_b t wh pt dot w hs (by omega) (by omega) b1 b2 CC D1
  have hn := neg_first t h1
  cases hneg : negB t with
  | true =>
    have eb : bodyOf t = t.extract 1 t.size := by simp [bodyOf, hneg]
    have es : signedH t = -(sumOf (bodyOf t)) := by simp [signedH, hneg]
    rw [hneg] at hn
    by_cases w5 : (wholeOf (bodyOf t)).size ≤ 5
    rotate_left
    · have hd : digsB (wholeOf (bodyOf t)) 5 = false := digsB_long (by omega)
      have ef : fitB (bodyOf t) = false := by simp [fitB, hd]
      rw [ef]
      simp only [Bool.false_eq_true, if_false]
      generalize wholeOf (bodyOf t) = wh at *
      generalize partOf (bodyOf t) = pt at *
      generalize dotB (bodyOf t) = dot at *
      rw [eb] at CC
      exact hu_neg_a t wh pt dot w hs h1 hn.symm (by omega) b1 b2 CC
    cases hd : digsB (wholeOf (bodyOf t)) 5 with
    | false =>
      have ef : fitB (bodyOf t) = false := by simp [fitB, hd]
      rw [ef]
      simp only [Bool.false_eq_true, if_false]
      have D1 := fun w => l1D_no _ 5 w b1 hd (by omega)
      generalize wholeOf (bodyOf t) = wh at *
      generalize partOf (bodyOf t) = pt at *
      generalize dotB (bodyOf t) = dot at *
      rw [eb] at CC
      exact hu_neg_b t wh pt dot w hs h1 hn.symm w5 b1 b2 CC D1
    | true =>
      have D1 := fun w => l1D_yes _ 5 w b1 hd
      cases hdot : dotB (bodyOf t) with
      | false =>
        have ef : fitB (bodyOf t) = true := by simp [fitB, hd, hdot]
        obtain ⟨f1, f2, f3, f4⟩ := fit_parts ef
        have ep : partOf (bodyOf t) = ⟨#[]⟩ := by simp [partOf, hdot]
        have hp1 : (((partOf (bodyOf t)).size : Int) == 1) = false := by rw [ep]; rfl
        have ey : hund (partOf (bodyOf t)) = val (partOf (bodyOf t)).data.toList := by rw [ep]; rfl
        have R1 := fun w => l1Read_any _ w f1 f2
        have R2 := fun w => l1Read_any _ w (by omega) f4
        have bx := val_bd5 _ f2 f1
        have by' := hund_bd f4 f3
        rw [ef, es, sumOf, ey]
        rw [ey] at by'
        simp only [if_true]
        rw [hdot] at CC
        generalize wholeOf (bodyOf t) = wh at *
        generalize partOf (bodyOf t) = pt at *
        rw [eb] at CC
        exact hu_neg_g t wh pt _ _ w hs h1 hn.symm w5 hp1 b2 CC D1 R1 R2 bx by'
      | true =>
        rw [hdot] at CC
        by_cases p2 : (partOf (bodyOf t)).size ≤ 2
        rotate_left
        · have hd2 : digsB (partOf (bodyOf t)) 2 = false := digsB_long (by omega)
          have ef : fitB (bodyOf t) = false := by simp [fitB, hdot, hd2]
          rw [ef]
          simp only [Bool.false_eq_true, if_false]
          generalize wholeOf (bodyOf t) = wh at *
          generalize partOf (bodyOf t) = pt at *
          rw [eb] at CC
          exact hu_neg_c t wh pt w hs h1 hn.symm w5 (by omega) b1 b2 CC D1
        cases hd2 : digsB (partOf (bodyOf t)) 2 with
        | false =>
          have ef : fitB (bodyOf t) = false := by simp [fitB, hdot, hd2]
          rw [ef]
          simp only [Bool.false_eq_true, if_false]
          have D2 := fun w => l1D_no _ 2 w b2 hd2 (by omega)
          generalize wholeOf (bodyOf t) = wh at *
          generalize partOf (bodyOf t) = pt at *
          rw [eb] at CC
          exact hu_neg_d t wh pt w hs h1 hn.symm w5 p2 b1 b2 CC D1 D2
        | true =>
          have ef : fitB (bodyOf t) = true := by simp [fitB, hd, hd2]
          obtain ⟨f1, f2, f3, f4⟩ := fit_parts ef
          have D2 := fun w => l1D_yes _ 2 w b2 hd2
          have R1 := fun w => l1Read_any _ w f1 f2
          have bx := val_bd5 _ f2 f1
          have by' := hund_bd f4 f3
          rw [ef, es, sumOf]
          simp only [if_true]
          by_cases p1 : (partOf (bodyOf t)).size = 1
          · have R2 := fun w => l1Read_any _ w (show (partOf (bodyOf t) ++ ⟨#[48]⟩).size ≤ 5 by rw [size_nought]; omega) (dig_nought f4)
            rw [val_nought p1] at R2
            generalize hund (partOf (bodyOf t)) = y at *
            generalize val (wholeOf (bodyOf t)).data.toList = x at *
            generalize wholeOf (bodyOf t) = wh at *
            generalize partOf (bodyOf t) = pt at *
            rw [eb] at CC
            exact hu_neg_e t wh pt x y w hs h1 hn.symm w5 p1 CC D1 D2 R1 R2 bx by'
          · have ey : hund (partOf (bodyOf t)) = val (partOf (bodyOf t)).data.toList := by simp [hund, p1]
            have R2 := fun w => l1Read_any _ w (show (partOf (bodyOf t)).size ≤ 5 by omega) f4
            rw [ey] at by' ⊢
            have hp1 : (((partOf (bodyOf t)).size : Int) == 1) = false := by simp; omega
            generalize wholeOf (bodyOf t) = wh at *
            generalize partOf (bodyOf t) = pt at *
            rw [eb] at CC
            exact hu_neg_f t wh pt _ _ w hs h1 hn.symm w5 p2 hp1 CC D1 D2 R1 R2 bx by'
  | false =>
    have eb : bodyOf t = t := by simp [bodyOf, hneg]
    have es : signedH t = sumOf (bodyOf t) := by simp [signedH, hneg]
    rw [hneg] at hn
    by_cases w5 : (wholeOf (bodyOf t)).size ≤ 5
    rotate_left
    · have hd : digsB (wholeOf (bodyOf t)) 5 = false := digsB_long (by omega)
      have ef : fitB (bodyOf t) = false := by simp [fitB, hd]
      rw [ef]
      simp only [Bool.false_eq_true, if_false]
      generalize wholeOf (bodyOf t) = wh at *
      generalize partOf (bodyOf t) = pt at *
      generalize dotB (bodyOf t) = dot at *
      rw [eb] at CC
      exact hu_pos_a t wh pt dot w hs h1 hn.symm (by omega) b1 b2 CC
    cases hd : digsB (wholeOf (bodyOf t)) 5 with
    | false =>
      have ef : fitB (bodyOf t) = false := by simp [fitB, hd]
      rw [ef]
      simp only [Bool.false_eq_true, if_false]
      have D1 := fun w => l1D_no _ 5 w b1 hd (by omega)
      generalize wholeOf (bodyOf t) = wh at *
      generalize partOf (bodyOf t) = pt at *
      generalize dotB (bodyOf t) = dot at *
      rw [eb] at CC
      exact hu_pos_b t wh pt dot w hs h1 hn.symm w5 b1 b2 CC D1
    | true =>
      have D1 := fun w => l1D_yes _ 5 w b1 hd
      cases hdot : dotB (bodyOf t) with
      | false =>
        have ef : fitB (bodyOf t) = true := by simp [fitB, hd, hdot]
        obtain ⟨f1, f2, f3, f4⟩ := fit_parts ef
        have ep : partOf (bodyOf t) = ⟨#[]⟩ := by simp [partOf, hdot]
        have hp1 : (((partOf (bodyOf t)).size : Int) == 1) = false := by rw [ep]; rfl
        have ey : hund (partOf (bodyOf t)) = val (partOf (bodyOf t)).data.toList := by rw [ep]; rfl
        have R1 := fun w => l1Read_any _ w f1 f2
        have R2 := fun w => l1Read_any _ w (by omega) f4
        have bx := val_bd5 _ f2 f1
        have by' := hund_bd f4 f3
        rw [ef, es, sumOf, ey]
        rw [ey] at by'
        simp only [if_true]
        rw [hdot] at CC
        generalize wholeOf (bodyOf t) = wh at *
        generalize partOf (bodyOf t) = pt at *
        rw [eb] at CC
        exact hu_pos_g t wh pt _ _ w hs h1 hn.symm w5 hp1 b2 CC D1 R1 R2 bx by'
      | true =>
        rw [hdot] at CC
        by_cases p2 : (partOf (bodyOf t)).size ≤ 2
        rotate_left
        · have hd2 : digsB (partOf (bodyOf t)) 2 = false := digsB_long (by omega)
          have ef : fitB (bodyOf t) = false := by simp [fitB, hdot, hd2]
          rw [ef]
          simp only [Bool.false_eq_true, if_false]
          generalize wholeOf (bodyOf t) = wh at *
          generalize partOf (bodyOf t) = pt at *
          rw [eb] at CC
          exact hu_pos_c t wh pt w hs h1 hn.symm w5 (by omega) b1 b2 CC D1
        cases hd2 : digsB (partOf (bodyOf t)) 2 with
        | false =>
          have ef : fitB (bodyOf t) = false := by simp [fitB, hdot, hd2]
          rw [ef]
          simp only [Bool.false_eq_true, if_false]
          have D2 := fun w => l1D_no _ 2 w b2 hd2 (by omega)
          generalize wholeOf (bodyOf t) = wh at *
          generalize partOf (bodyOf t) = pt at *
          rw [eb] at CC
          exact hu_pos_d t wh pt w hs h1 hn.symm w5 p2 b1 b2 CC D1 D2
        | true =>
          have ef : fitB (bodyOf t) = true := by simp [fitB, hd, hd2]
          obtain ⟨f1, f2, f3, f4⟩ := fit_parts ef
          have D2 := fun w => l1D_yes _ 2 w b2 hd2
          have R1 := fun w => l1Read_any _ w f1 f2
          have bx := val_bd5 _ f2 f1
          have by' := hund_bd f4 f3
          rw [ef, es, sumOf]
          simp only [if_true]
          by_cases p1 : (partOf (bodyOf t)).size = 1
          · have R2 := fun w => l1Read_any _ w (show (partOf (bodyOf t) ++ ⟨#[48]⟩).size ≤ 5 by rw [size_nought]; omega) (dig_nought f4)
            rw [val_nought p1] at R2
            generalize hund (partOf (bodyOf t)) = y at *
            generalize val (wholeOf (bodyOf t)).data.toList = x at *
            generalize wholeOf (bodyOf t) = wh at *
            generalize partOf (bodyOf t) = pt at *
            rw [eb] at CC
            exact hu_pos_e t wh pt x y w hs h1 hn.symm w5 p1 CC D1 D2 R1 R2 bx by'
          · have ey : hund (partOf (bodyOf t)) = val (partOf (bodyOf t)).data.toList := by simp [hund, p1]
            have R2 := fun w => l1Read_any _ w (show (partOf (bodyOf t)).size ≤ 5 by omega) f4
            rw [ey] at by' ⊢
            have hp1 : (((partOf (bodyOf t)).size : Int) == 1) = false := by simp; omega
            generalize wholeOf (bodyOf t) = wh at *
            generalize partOf (bodyOf t) = pt at *
            rw [eb] at CC
            exact hu_pos_f t wh pt _ _ w hs h1 hn.symm w5 p2 hp1 CC D1 D2 R1 R2 bx by'

theorem sum_bd {b : ByteArray} (h : fitB b = true) : 0 ≤ sumOf b ∧ sumOf b ≤ 10000000 ∧ sumOf b / 100 * 64 + sumOf b % 100 * 64 / 100 = amount b := by
  obtain ⟨f1, f2, f3, f4⟩ := fit_parts h
  have bx := val_bd5 _ f2 f1
  have by' := hund_bd f4 f3
  unfold sumOf amount
  generalize val (wholeOf b).data.toList = x at *
  generalize hund (partOf b) = y at *
  have e1 : (100 * x + y) / 100 = x := by omega
  have e2 : (100 * x + y) % 100 = y := by omega
  rw [e1, e2]
  exact ⟨by omega, by omega, rfl⟩

theorem spec_read (s : ByteArray) (w : World) (hs : s.size ≤ 1048576) :
    Calls Tryz.prog 16 #[.string s] w fun e w' => e = .returned (.tuple #[.int .i64 (readN s), .bool (readB s)]) ∧ ∃ n, w' = w.drewN n := by
  by_cases h3 : s.size < 3
  · have e : readB s = false := by
      cases hpx : pxB s with
      | false => simp [readB, hpx]
      | true =>
        have h2 : 2 ≤ s.size := by
          unfold pxB at hpx
          simp only [Bool.and_eq_true, decide_eq_true_eq] at hpx
          exact hpx.1
        have en : (numOf s).size = 0 := by
          have : numOf s = s.extract 0 (s.size - 2) := by simp [numOf, hpx]
          rw [this, ByteArray.size_extract]
          omega
        have hb := body_size (numOf s)
        have hw := whole_size (bodyOf (numOf s))
        have hd : digsB (wholeOf (bodyOf (numOf s))) 5 = false := digsB_short (by omega)
        simp [readB, fitB, hd]
    rw [read_no e, e]
    exact sp_a s w hs h3
  cases hx : ((s.extract (s.size - 2) s.size).toList == [112, 120]) with
  | false =>
    have e : readB s = false := by simp only [readB, pxB, hx, Bool.and_false, Bool.false_and]
    rw [read_no e, e]
    exact sp_b s w hs (by omega) hx
  | true =>
    have hpx : pxB s = true := by
      have h2 : 2 ≤ s.size := by omega
      simp only [pxB, hx, h2, decide_true, Bool.and_self]
    have en : numOf s = s.extract 0 (s.size - 2) := by simp [numOf, hpx]
    have hns := numOf_size s
    have HU := fun w => hundredths_any (numOf s) w (by omega)
    cases hf : fitB (bodyOf (numOf s)) with
    | false =>
      have e : readB s = false := by simp [readB, hf]
      rw [read_no e, e]
      rw [hf] at HU
      simp only [Bool.false_eq_true, if_false] at HU
      rw [en] at HU
      exact sp_c s w hs (by omega) hx HU
    | true =>
      obtain ⟨e1, e2⟩ := read_is hpx hf
      obtain ⟨s1, s2, s3⟩ := sum_bd hf
      rw [hf] at HU
      simp only [if_true] at HU
      rw [e1, e2]
      cases hneg : negB (numOf s) with
      | false =>
        have es : signed (numOf s) = amount (bodyOf (numOf s)) := by simp [signed, hneg]
        have eh : signedH (numOf s) = sumOf (bodyOf (numOf s)) := by simp [signedH, hneg]
        rw [es]
        rw [eh] at HU
        rw [← s3]
        generalize sumOf (bodyOf (numOf s)) = h at *
        rw [en] at HU
        by_cases g : h / 100 * 64 + h % 100 * 64 / 100 ≤ 1000000
        · have eg : lenGood (h / 100 * 64 + h % 100 * 64 / 100) = true := decide_eq_true (by omega)
          rw [eg]
          simp only [if_true]
          exact sp_d_good s h w hs (by omega) hx s1 s2 g HU
        · have eg : lenGood (h / 100 * 64 + h % 100 * 64 / 100) = false := decide_eq_false (by omega)
          rw [eg]
          simp only [Bool.false_eq_true, if_false]
          exact sp_d_bad s h w hs (by omega) hx s1 s2 g HU
      | true =>
        have es : signed (numOf s) = -(amount (bodyOf (numOf s))) := by simp [signed, hneg]
        have eh : signedH (numOf s) = -(sumOf (bodyOf (numOf s))) := by simp [signedH, hneg]
        rw [es]
        rw [eh] at HU
        rw [← s3]
        generalize sumOf (bodyOf (numOf s)) = k at *
        rw [en] at HU
        by_cases k0 : k = 0
        · subst k0
          have := sp_d_good s 0 w hs (by omega) hx (by omega) (by omega) (by omega) HU
          exact this
        · by_cases g : k / 100 * 64 + k % 100 * 64 / 100 ≤ 1000000
          · have eg : lenGood (-(k / 100 * 64 + k % 100 * 64 / 100)) = true := decide_eq_true (by omega)
            rw [eg]
            simp only [if_true]
            exact sp_e_good s k w hs (by omega) hx (by omega) s2 g HU
          · have eg : lenGood (-(k / 100 * 64 + k % 100 * 64 / 100)) = false := decide_eq_false (by omega)
            rw [eg]
            simp only [Bool.false_eq_true, if_false]
            exact sp_e_bad s k w hs (by omega) hx (by omega) s2 g HU
end Go.Proofs.YtdgagjnkbmckoaaGreatDoor
