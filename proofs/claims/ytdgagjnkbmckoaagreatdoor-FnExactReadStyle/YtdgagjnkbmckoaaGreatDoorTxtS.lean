/-
  The model's StyleText, for every style.
-/
import Derived.Test.YtdgagjnkbmckoaaGreatDoorTxtK
import Derived.Test.YtdgagjnkbmckoaaGreatDoorStyR
namespace Go.Proofs.YtdgagjnkbmckoaaGreatDoor
open Go.ChangeShapes Go.WideShapes Go.ChangeAt Go.RowKit
set_option linter.unusedVariables false

theorem name_max {k : Nat} (hk : k < 18) (h : k ≠ 6) : ¬ nmT k = ⟨#[109, 97, 120, 45, 119, 105, 100, 116, 104]⟩ ∧ (nmT k == ⟨#[109, 97, 120, 45, 119, 105, 100, 116, 104]⟩) = false ∧ ((nmT k).toList == [109, 97, 120, 45, 119, 105, 100, 116, 104]) = false := by
  have h1 : ¬ nmT k = ⟨#[109, 97, 120, 45, 119, 105, 100, 116, 104]⟩ := by rcases lt18 hk with rfl | rfl | rfl | rfl | rfl | rfl | rfl | rfl | rfl | rfl | rfl | rfl | rfl | rfl | rfl | rfl | rfl | rfl <;> first | exact absurd rfl h | decide
  have h2 : (nmT k == ⟨#[109, 97, 120, 45, 119, 105, 100, 116, 104]⟩) = false := by rcases lt18 hk with rfl | rfl | rfl | rfl | rfl | rfl | rfl | rfl | rfl | rfl | rfl | rfl | rfl | rfl | rfl | rfl | rfl | rfl <;> first | exact absurd rfl h | rfl
  have e := (beq_toListBytes (nmT k) ⟨#[109, 97, 120, 45, 119, 105, 100, 116, 104]⟩).symm.trans h2
  rw [show (⟨#[109, 97, 120, 45, 119, 105, 100, 116, 104]⟩ : ByteArray).toList = [109, 97, 120, 45, 119, 105, 100, 116, 104] by rw [ByteArray.toList_eq]] at e
  exact ⟨h1, h2, e⟩
theorem tmod_one : ¬ (-1 : Int).tmod 16 = 0 ∧ ¬ (-1 : Int).tmod 100 = 0 := by decide

set_option maxRecDepth 100000 in
set_option maxHeartbeats 8000000 in
theorem specStyleText_any (s : St) (w : World) :
    Calls Tryz.prog 11 #[.agg #[.int .i64 s.sh, .int .i64 s.fl, .int .i64 s.cl, .bool s.w.a, .bool s.w.p, .int .i64 s.w.n, .bool s.h.a, .bool s.h.p, .int .i64 s.h.n, .int .i64 s.mn, .int .i64 s.mx, .int .i64 s.mt, .bool s.mr.a, .bool s.mr.p, .int .i64 s.mr.n, .int .i64 s.mb, .bool s.ml.a, .bool s.ml.p, .int .i64 s.ml.n, .int .i64 s.bo, .int .i64 s.pa, .int .i64 s.wh, .int .i64 s.al, .int .i64 s.lh, .int .i64 s.ri, .int .i64 s.dn]] w fun e w' => e = .returned (.tuple #[.string (txtT s), .bool (txtB s)]) ∧ Below w.heap.size w w' := by
  have l0 : (w.alloc (.cells (#[.int .i64 s.sh, .int .i64 s.fl, .int .i64 s.cl, .bool s.w.a, .bool s.w.p, .int .i64 s.w.n, .bool s.h.a, .bool s.h.p, .int .i64 s.h.n, .int .i64 s.mn, .int .i64 s.mx, .int .i64 s.mt, .bool s.mr.a, .bool s.mr.p, .int .i64 s.mr.n, .int .i64 s.mb, .bool s.ml.a, .bool s.ml.p, .int .i64 s.ml.n, .int .i64 s.bo, .int .i64 s.pa, .int .i64 s.wh, .int .i64 s.al, .int .i64 s.lh, .int .i64 s.ri, .int .i64 s.dn]) 25)).heap[w.heap.size]? = some (.cells (#[.int .i64 s.sh, .int .i64 s.fl, .int .i64 s.cl, .bool s.w.a, .bool s.w.p, .int .i64 s.w.n, .bool s.h.a, .bool s.h.p, .int .i64 s.h.n, .int .i64 s.mn, .int .i64 s.mx, .int .i64 s.mt, .bool s.mr.a, .bool s.mr.p, .int .i64 s.mr.n, .int .i64 s.mb, .bool s.ml.a, .bool s.ml.p, .int .i64 s.ml.n, .int .i64 s.bo, .int .i64 s.pa, .int .i64 s.wh, .int .i64 s.al, .int .i64 s.lh, .int .i64 s.ri, .int .i64 s.dn]) 25 (0, 0)) := heap_at _ _ _ rfl
  have GS := specGoodStyle_any s (w.alloc (.cells (#[.int .i64 s.sh, .int .i64 s.fl, .int .i64 s.cl, .bool s.w.a, .bool s.w.p, .int .i64 s.w.n, .bool s.h.a, .bool s.h.p, .int .i64 s.h.n, .int .i64 s.mn, .int .i64 s.mx, .int .i64 s.mt, .bool s.mr.a, .bool s.mr.p, .int .i64 s.mr.n, .int .i64 s.mb, .bool s.ml.a, .bool s.ml.p, .int .i64 s.ml.n, .int .i64 s.bo, .int .i64 s.pa, .int .i64 s.wh, .int .i64 s.al, .int .i64 s.lh, .int .i64 s.ri, .int .i64 s.dn]) 25))
  cases hs : styleB s
  · rw [hs] at GS
    have e1 : txtB s = false := by simp [txtB, hs]
    have e2 : txtT s = ⟨#[]⟩ := by simp [txtT, e1]
    rw [e1, e2]
    clear e1 e2 hs
    go_enter Tryz.func11, Tryz.ntmps11
    go_wp2_with (first
      | ((with_reducible show wpList _ _ _ (⟨some 8, Op.load 25 _, _, _, _, _⟩ :: _) _ _); refine wpList_load_row rfl 25 _ rfl (w.heap.size) rfl _ (#[.int .i64 s.sh, .int .i64 s.fl, .int .i64 s.cl, .bool s.w.a, .bool s.w.p, .int .i64 s.w.n, .bool s.h.a, .bool s.h.p, .int .i64 s.h.n, .int .i64 s.mn, .int .i64 s.mx, .int .i64 s.mt, .bool s.mr.a, .bool s.mr.p, .int .i64 s.mr.n, .int .i64 s.mb, .bool s.ml.a, .bool s.ml.p, .int .i64 s.ml.n, .int .i64 s.bo, .int .i64 s.pa, .int .i64 s.wh, .int .i64 s.al, .int .i64 s.lh, .int .i64 s.ri, .int .i64 s.dn]) _ _ l0 Tryz.underlying25 rfl (by kernel_rfl) ?_)
      | (go_at_call 18; refine GS.mono ?_; rintro e w1 ⟨rfl, hb⟩))
    go_ret2
    exact ⟨rfl, ((Below.refl _ _).alloc (Nat.le_refl _) _).trans (hb.mono (by simp))⟩
  rw [hs] at GS
  have HS : Hid (styleB s = true) := hs
  clear hs
  go_enter Tryz.func11, Tryz.ntmps11
  go_wp2_with (first
    | ((with_reducible show wpList _ _ _ (⟨some 8, Op.load 25 _, _, _, _, _⟩ :: _) _ _); refine wpList_load_row rfl 25 _ rfl (w.heap.size) rfl _ (#[.int .i64 s.sh, .int .i64 s.fl, .int .i64 s.cl, .bool s.w.a, .bool s.w.p, .int .i64 s.w.n, .bool s.h.a, .bool s.h.p, .int .i64 s.h.n, .int .i64 s.mn, .int .i64 s.mx, .int .i64 s.mt, .bool s.mr.a, .bool s.mr.p, .int .i64 s.mr.n, .int .i64 s.mb, .bool s.ml.a, .bool s.ml.p, .int .i64 s.ml.n, .int .i64 s.bo, .int .i64 s.pa, .int .i64 s.wh, .int .i64 s.al, .int .i64 s.lh, .int .i64 s.ri, .int .i64 s.dn]) _ _ l0 Tryz.underlying25 rfl (by kernel_rfl) ?_)
    | (go_at_call 18; refine GS.mono ?_; rintro e w1 ⟨rfl, hb⟩)
    | (go_at_call 19; refine (l4Names_at _).mono ?_; rintro e w2 ⟨rfl, rfl⟩))
  have lS1 := below_lies hb l0 (by simp)
  have bel1 : Below w.heap.size w w1 := ((Below.refl _ _).alloc (Nat.le_refl _) _).trans (hb.mono (by simp))
  have lt1 : w.heap.size < w1.heap.size := lies_lt lS1
  clear hb GS l0
  go_loopw [13] (fun i wr => ∃ k : Nat, k ≤ 18 ∧ i = .int .i64 k ∧ okTo s k = true ∧ wr.heap[w.heap.size]? = some (.cells (#[.int .i64 s.sh, .int .i64 s.fl, .int .i64 s.cl, .bool s.w.a, .bool s.w.p, .int .i64 s.w.n, .bool s.h.a, .bool s.h.p, .int .i64 s.h.n, .int .i64 s.mn, .int .i64 s.mx, .int .i64 s.mt, .bool s.mr.a, .bool s.mr.p, .int .i64 s.mr.n, .int .i64 s.mb, .bool s.ml.a, .bool s.ml.p, .int .i64 s.ml.n, .int .i64 s.bo, .int .i64 s.pa, .int .i64 s.wh, .int .i64 s.al, .int .i64 s.lh, .int .i64 s.ri, .int .i64 s.dn]) 25 (0, 0)) ∧ wr.heap[w1.heap.size]? = some (.cells nameCells 9 (0, 0)) ∧ Below w.heap.size w wr) (fun i _ => 18 - (intOf i).toNat)
  case atStart => exact ⟨0, by omega, rfl, rfl, heap_in lS1, heap_at _ _ _ rfl, bel1.alloc bel1.size _⟩
  case round =>
    clear lS1 bel1
    obtain ⟨k, hk, rfl, hok, lS, lN, bel⟩ := hrel
    have HOK : Hid (okTo s k = true) := hok
    clear hok
    by_cases hlt : k < 18
    rotate_left
    · have e : k = 18 := by omega
      subst e
      have LT := fun w => l4Text_any s w HS.out
      have e1 : txtB s = true := by unfold txtB; rw [HS.out, HOK.out]; rfl
      have e2 : txtT s = textTo s 18 := by unfold txtT; rw [e1]; rfl
      have E1 : Hid (txtB s = true) := e1
      have E2 : Hid (txtT s = textTo s 18) := e2
      clear e1 e2 lN
      go_wp2_with (first
        | ((with_reducible show wpList _ _ _ (⟨some 57, Op.load 25 _, _, _, _, _⟩ :: _) _ _); refine wpList_load_row rfl 25 _ rfl (w.heap.size) rfl _ (#[.int .i64 s.sh, .int .i64 s.fl, .int .i64 s.cl, .bool s.w.a, .bool s.w.p, .int .i64 s.w.n, .bool s.h.a, .bool s.h.p, .int .i64 s.h.n, .int .i64 s.mn, .int .i64 s.mx, .int .i64 s.mt, .bool s.mr.a, .bool s.mr.p, .int .i64 s.mr.n, .int .i64 s.mb, .bool s.ml.a, .bool s.ml.p, .int .i64 s.ml.n, .int .i64 s.bo, .int .i64 s.pa, .int .i64 s.wh, .int .i64 s.al, .int .i64 s.lh, .int .i64 s.ri, .int .i64 s.dn]) _ _ lS Tryz.underlying25 rfl (by kernel_rfl) ?_)
        | (go_at_call 21; refine (LT _).mono ?_; rintro e w3 ⟨rfl, hb⟩))
      go_ret2
      exact ⟨ret2T E2.out.symm E1.out.symm, bel.trans (hb.mono bel.size)⟩
    have n0 := (lies_cell lN k).trans (name_cell hlt)
    have GT := fun w => get_any s k hlt w
    have hgd := good_any s hlt HS.out
    generalize getZ s k = z at GT hgd
    generalize getN s k = n at GT
    obtain ⟨za, zp, zn⟩ := z
    dsimp only at GT hgd
    have KN : Hid (wr.heap[w1.heap.size]? = some (.cells nameCells 9 (0, 0))) := lN
    clear lN
    go_wp2_with ((with_reducible show wpList _ _ _ (⟨some 18, Op.load 25 _, _, _, _, _⟩ :: _) _ _); refine wpList_load_row rfl 25 _ rfl (w.heap.size) rfl _ (#[.int .i64 s.sh, .int .i64 s.fl, .int .i64 s.cl, .bool s.w.a, .bool s.w.p, .int .i64 s.w.n, .bool s.h.a, .bool s.h.p, .int .i64 s.h.n, .int .i64 s.mn, .int .i64 s.mx, .int .i64 s.mt, .bool s.mr.a, .bool s.mr.p, .int .i64 s.mr.n, .int .i64 s.mb, .bool s.ml.a, .bool s.ml.p, .int .i64 s.ml.n, .int .i64 s.bo, .int .i64 s.pa, .int .i64 s.wh, .int .i64 s.al, .int .i64 s.lh, .int .i64 s.ri, .int .i64 s.dn]) _ _ lS Tryz.underlying25 rfl (by kernel_rfl) ?_)
    refine (GT _).mono ?_
    rintro e w2 ⟨rfl, hb⟩
    have KS2 : Hid (w2.heap[w.heap.size]? = some (.cells (#[.int .i64 s.sh, .int .i64 s.fl, .int .i64 s.cl, .bool s.w.a, .bool s.w.p, .int .i64 s.w.n, .bool s.h.a, .bool s.h.p, .int .i64 s.h.n, .int .i64 s.mn, .int .i64 s.mx, .int .i64 s.mt, .bool s.mr.a, .bool s.mr.p, .int .i64 s.mr.n, .int .i64 s.mb, .bool s.ml.a, .bool s.ml.p, .int .i64 s.ml.n, .int .i64 s.bo, .int .i64 s.pa, .int .i64 s.wh, .int .i64 s.al, .int .i64 s.lh, .int .i64 s.ri, .int .i64 s.dn]) 25 (0, 0))) := below_lies hb lS (lies_lt lS)
    have KN2 : Hid (w2.heap[w1.heap.size]? = some (.cells nameCells 9 (0, 0))) := below_lies hb KN.out (lies_lt KN.out)
    have bel2 := bel.trans (hb.mono bel.size)
    clear lS KN hb bel GT n0
    have sz2 := bel2.size
    cases hg : goodZ k zp zn
    · have e0 : okTo s 18 = false := okTo_le (k := k + 1) (by rw [okTo_succ, hgd, hg]; simp) (by omega)
      have e1 : txtB s = false := by unfold txtB; rw [e0]; simp
      have e2 : txtT s = ⟨#[]⟩ := by unfold txtT; rw [e1]; rfl
      have E1 : Hid (txtB s = false) := e1
      have E2 : Hid (txtT s = ⟨#[]⟩) := e2
      clear e0 e1 e2 hgd
      cases zp
      · have hg' : (decide (zn.tmod 16 = 0) || (decide (zn = -1) && decide (k = 6))) = false := hg
        rw [Bool.or_eq_false_iff] at hg'
        have h1 : ¬ zn.tmod 16 = 0 := of_decide_eq_false hg'.1
        by_cases hm : zn = -1
        · have h6 : k ≠ 6 := fun e => by rw [hm, e] at hg'; exact absurd hg'.2 (by decide)
          obtain ⟨q1, q2, q3⟩ := name_max hlt h6
          clear hg hg' h1
          subst hm
          go_wp2
          go_ret2
          exact ⟨ret2T E2.out.symm E1.out.symm, bel2.alloc sz2 _⟩
        · have h3 : (zn.tmod 16 == 0) = false := by simpa using h1
          clear hg hg'
          go_wp2
          go_ret2
          exact ⟨ret2T E2.out.symm E1.out.symm, bel2.alloc sz2 _⟩
      · have h1 : ¬ zn.tmod 100 = 0 := of_decide_eq_false hg
        have h3 : (zn.tmod 100 == 0) = false := by simpa using h1
        clear hg
        go_wp2
        go_ret2
        exact ⟨ret2T E2.out.symm E1.out.symm, bel2.alloc sz2 _⟩
    · have HNX : Hid (okTo s (k + 1) = true) := by
        show okTo s (k + 1) = true
        rw [okTo_succ, hgd, hg, HOK.out]
        rfl
      clear hgd HOK
      cases zp
      · have hg' : (decide (zn.tmod 16 = 0) || (decide (zn = -1) && decide (k = 6))) = true := hg
        by_cases h1 : zn.tmod 16 = 0
        · have hm : ¬ zn = -1 := fun e => by rw [e] at h1; exact tmod_one.1 h1
          clear hg hg'
          go_wp2
          go_roundw
          case rel => exact ⟨k + 1, by omega, by first | go_num | rfl, HNX.out, heap_in KS2.out, heap_in KN2.out, bel2.alloc sz2 _⟩
          case measure => simp [intOf]; omega
        · have hm : zn = -1 ∧ k = 6 := by simpa [h1] using hg'
          obtain ⟨hm, h6⟩ := hm
          have hnm : nmT 6 = ⟨#[109, 97, 120, 45, 119, 105, 100, 116, 104]⟩ := rfl
          clear hg hg' h1
          subst hm
          subst h6
          go_wp2
          go_roundw
          case rel => exact ⟨7, by omega, by first | go_num | rfl, HNX.out, heap_in KS2.out, heap_in KN2.out, bel2.alloc sz2 _⟩
          case measure => simp [intOf]
      · have h1 : zn.tmod 100 = 0 := of_decide_eq_true hg
        have hm : ¬ zn = -1 := fun e => by rw [e] at h1; exact tmod_one.2 h1
        clear hg
        go_wp2
        go_roundw
        case rel => exact ⟨k + 1, by omega, by first | go_num | rfl, HNX.out, heap_in KS2.out, heap_in KN2.out, bel2.alloc sz2 _⟩
        case measure => simp [intOf]; omega
end Go.Proofs.YtdgagjnkbmckoaaGreatDoor
