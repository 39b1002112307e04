/-
  The model's l4Text: the text of a good style.
-/
import Derived.Test.YtdgagjnkbmckoaaGreatDoorTxtG
namespace Go.Proofs.YtdgagjnkbmckoaaGreatDoor
open Go.ChangeShapes Go.WideShapes Go.ChangeAt Go.RowKit
set_option linter.unusedVariables false

set_option maxRecDepth 100000 in
set_option maxHeartbeats 8000000 in
theorem l4Text_any (s : St) (w : World) (hs : styleB s = true) :
    Calls Tryz.prog 21 #[.agg #[.int .i64 s.sh, .int .i64 s.fl, .int .i64 s.cl, .bool s.w.a, .bool s.w.p, .int .i64 s.w.n, .bool s.h.a, .bool s.h.p, .int .i64 s.h.n, .int .i64 s.mn, .int .i64 s.mx, .int .i64 s.mt, .bool s.mr.a, .bool s.mr.p, .int .i64 s.mr.n, .int .i64 s.mb, .bool s.ml.a, .bool s.ml.p, .int .i64 s.ml.n, .int .i64 s.bo, .int .i64 s.pa, .int .i64 s.wh, .int .i64 s.al, .int .i64 s.lh, .int .i64 s.ri, .int .i64 s.dn]] w fun e w' => e = .returned (.string (textTo s 18)) ∧ Below w.heap.size w w' := by
  have HS : Hid (styleB s = true) := hs
  clear hs
  go_enter Tryz.func21, Tryz.ntmps21
  go_wp2_with (first
    | (go_at_call 7; refine (specPlain_at _).mono ?_; rintro e w2 ⟨rfl, rfl⟩)
    | ((with_reducible show wpList _ _ _ (⟨none, Op.store 25 (Operand.tmp 4) (Operand.tmp 13), _, _, _, _⟩ :: _) _ _); refine wpList_store_new rfl 25 _ _ rfl rfl (#[.int .i64 1, .int .i64 0, .int .i64 0, .bool true, .bool false, .int .i64 0, .bool true, .bool false, .int .i64 0, .int .i64 0, .int .i64 (-1), .int .i64 0, .bool false, .bool false, .int .i64 0, .int .i64 0, .bool false, .bool false, .int .i64 0, .int .i64 0, .int .i64 0, .int .i64 1, .int .i64 1, .int .i64 0, .int .i64 0, .int .i64 0]) 25 _ _ (by simp) rfl rfl (by kernel_rfl) rfl (by kernel_rfl) ?_)
    | (go_at_call 19; refine (l4Names_at _).mono ?_; rintro e w2 ⟨rfl, rfl⟩))
  go_loopw [3, 16] (fun out i wr => ∃ k : Nat, k ≤ 18 ∧ i = .int .i64 k ∧ out = .string (textTo s k) ∧ wr.heap[w.heap.size]? = some (.cells (#[.int .i64 s.sh, .int .i64 s.fl, .int .i64 s.cl, .bool s.w.a, .bool s.w.p, .int .i64 s.w.n, .bool s.h.a, .bool s.h.p, .int .i64 s.h.n, .int .i64 s.mn, .int .i64 s.mx, .int .i64 s.mt, .bool s.mr.a, .bool s.mr.p, .int .i64 s.mr.n, .int .i64 s.mb, .bool s.ml.a, .bool s.ml.p, .int .i64 s.ml.n, .int .i64 s.bo, .int .i64 s.pa, .int .i64 s.wh, .int .i64 s.al, .int .i64 s.lh, .int .i64 s.ri, .int .i64 s.dn]) 25 (0, 0)) ∧ wr.heap[w.heap.size + 1 + 1]? = some (.cells (#[.int .i64 1, .int .i64 0, .int .i64 0, .bool true, .bool false, .int .i64 0, .bool true, .bool false, .int .i64 0, .int .i64 0, .int .i64 (-1), .int .i64 0, .bool false, .bool false, .int .i64 0, .int .i64 0, .bool false, .bool false, .int .i64 0, .int .i64 0, .int .i64 0, .int .i64 1, .int .i64 1, .int .i64 0, .int .i64 0, .int .i64 0]) 25 (0, 0)) ∧ wr.heap[w.heap.size + 1 + 1 + 1]? = some (.cells nameCells 9 (0, 0)) ∧ Below w.heap.size w wr) (fun _ i _ => 18 - (intOf i).toNat)
  case atStart =>
    refine ⟨0, by omega, rfl, rfl, ?_, ?_, ?_, ?_⟩
    · exact heap_in (heap_in (heap_in (heap_at _ _ _ rfl)))
    · exact heap_in (heap_at _ _ _ (by simp))
    · exact heap_at _ _ _ (by simp)
    · exact ((((Below.refl _ _).alloc (Nat.le_refl _) _).alloc (by simp) _).alloc (by simp; omega) _).alloc (by simp; omega) _
  case round =>
    obtain ⟨k, hk, rfl, rfl, lS, lP, lN, bel⟩ := hrel
    by_cases hlt : k < 18
    rotate_left
    · have e : k = 18 := by omega
      subst e
      clear lS lP lN
      go_wp2
      go_ret
      exact ⟨rfl, bel⟩
    have n0 := (lies_cell lN k).trans (name_cell hlt)
    have hs1 := nmT_size k
    have hs2 := tokT_size s k hlt HS.out
    have hs3 := textTo_size s HS.out k (by omega)
    have GS := fun w => get_any s k hlt w
    have GP := fun w => get_any plainS k hlt w
    have TD := fun w => l4Told_any (getZ s k).a (getZ s k).p (getZ s k).n w (getZ_bd s hlt HS.out).1 (getZ_bd s hlt HS.out).2
    have WD := fun w => words_any k hlt w
    have hsame := sameB_eq s hlt
    have htok := fun h => tokT_plain s hlt h
    have hword := fun h => word_at s hlt HS.out h
    generalize getZ s k = z at GS TD hsame htok
    generalize getZ plainS k = y at GP hsame
    generalize getN plainS k = m at GP hsame
    generalize hn : getN s k = n at GS hsame hword
    clear hn
    obtain ⟨za, zp, zn⟩ := z
    obtain ⟨ya, yp, yn⟩ := y
    dsimp only at GS GP TD hsame htok
    have EQ := eqSz_run za zp ya yp zn yn
    have GD := fun (w : World) (x y : Operand) => run_eqGuard_agg (P := Tryz.prog) w .eql 23 x y #[.bool za, .bool zp, .int .i64 zn] #[.bool ya, .bool yp, .int .i64 yn] eqSz_guard
    generalize decide (za = ya ∧ zp = yp ∧ zn = yn) = q at EQ hsame
    have KN : Hid (wr.heap[w.heap.size + 1 + 1 + 1]? = some (.cells nameCells 9 (0, 0))) := lN
    clear lN
    go_wp2_with ((with_reducible show wpList _ _ _ (⟨some 21, Op.load 25 _, _, _, _, _⟩ :: _) _ _); refine wpList_load_row rfl 25 _ rfl (w.heap.size) rfl _ (#[.int .i64 s.sh, .int .i64 s.fl, .int .i64 s.cl, .bool s.w.a, .bool s.w.p, .int .i64 s.w.n, .bool s.h.a, .bool s.h.p, .int .i64 s.h.n, .int .i64 s.mn, .int .i64 s.mx, .int .i64 s.mt, .bool s.mr.a, .bool s.mr.p, .int .i64 s.mr.n, .int .i64 s.mb, .bool s.ml.a, .bool s.ml.p, .int .i64 s.ml.n, .int .i64 s.bo, .int .i64 s.pa, .int .i64 s.wh, .int .i64 s.al, .int .i64 s.lh, .int .i64 s.ri, .int .i64 s.dn]) _ _ lS Tryz.underlying25 rfl (by kernel_rfl) ?_)
    refine (GS _).mono ?_
    rintro e w2 ⟨rfl, hb⟩
    have lS2 := below_lies hb lS (lies_lt lS)
    have lP2 := below_lies hb lP (lies_lt lP)
    have KN2 : Hid (w2.heap[w.heap.size + 1 + 1 + 1]? = some (.cells nameCells 9 (0, 0))) := below_lies hb KN.out (lies_lt KN.out)
    have bel2 := bel.trans (hb.mono bel.size)
    clear lS lP KN hb n0 bel GS
    have lP2x := heap_in (o := (.cells #[.bool za, .bool zp, .int .i64 zn] 23)) lP2
    go_wp2_with ((with_reducible show wpList _ _ _ (⟨some 27, Op.load 25 _, _, _, _, _⟩ :: _) _ _); refine wpList_load_row rfl 25 _ rfl (w.heap.size + 1 + 1) rfl _ (#[.int .i64 1, .int .i64 0, .int .i64 0, .bool true, .bool false, .int .i64 0, .bool true, .bool false, .int .i64 0, .int .i64 0, .int .i64 (-1), .int .i64 0, .bool false, .bool false, .int .i64 0, .int .i64 0, .bool false, .bool false, .int .i64 0, .int .i64 0, .int .i64 0, .int .i64 1, .int .i64 1, .int .i64 0, .int .i64 0, .int .i64 0]) _ _ lP2x Tryz.underlying25 rfl (by kernel_rfl) ?_)
    refine (GP _).mono ?_
    rintro e w3 ⟨rfl, hb⟩
    have lX : w3.heap[w2.heap.size]? = some (.cells #[.bool za, .bool zp, .int .i64 zn] 23 (0, 0)) := below_lies hb (heap_at _ _ _ rfl) (by simp)
    have KS3 : Hid (w3.heap[w.heap.size]? = some (.cells (#[.int .i64 s.sh, .int .i64 s.fl, .int .i64 s.cl, .bool s.w.a, .bool s.w.p, .int .i64 s.w.n, .bool s.h.a, .bool s.h.p, .int .i64 s.h.n, .int .i64 s.mn, .int .i64 s.mx, .int .i64 s.mt, .bool s.mr.a, .bool s.mr.p, .int .i64 s.mr.n, .int .i64 s.mb, .bool s.ml.a, .bool s.ml.p, .int .i64 s.ml.n, .int .i64 s.bo, .int .i64 s.pa, .int .i64 s.wh, .int .i64 s.al, .int .i64 s.lh, .int .i64 s.ri, .int .i64 s.dn]) 25 (0, 0))) := below_lies hb (heap_in lS2) (by have := lies_lt lS2; simp; omega)
    have KP3 : Hid (w3.heap[w.heap.size + 1 + 1]? = some (.cells (#[.int .i64 1, .int .i64 0, .int .i64 0, .bool true, .bool false, .int .i64 0, .bool true, .bool false, .int .i64 0, .int .i64 0, .int .i64 (-1), .int .i64 0, .bool false, .bool false, .int .i64 0, .int .i64 0, .bool false, .bool false, .int .i64 0, .int .i64 0, .int .i64 0, .int .i64 1, .int .i64 1, .int .i64 0, .int .i64 0, .int .i64 0]) 25 (0, 0))) := below_lies hb (heap_in lP2) (by have := lies_lt lP2; simp; omega)
    have KN3 : Hid (w3.heap[w.heap.size + 1 + 1 + 1]? = some (.cells nameCells 9 (0, 0))) := below_lies hb (heap_in KN2.out) (by have := lies_lt KN2.out; simp; omega)
    have bel3 : Below w.heap.size w w3 := (bel2.alloc bel2.size (.cells #[.bool za, .bool zp, .int .i64 zn] 23)).trans (hb.mono (by have := bel2.size; simp; omega))
    have ltx := lies_lt lX
    have x0 : w3.cell? ⟨w2.heap.size, 0, none⟩ = some (.bool za) := lies_cell lX 0
    have x1 : w3.cell? ⟨w2.heap.size, 1, none⟩ = some (.bool zp) := lies_cell lX 1
    have x2 : w3.cell? ⟨w2.heap.size, 2, none⟩ = some (.int .i64 zn) := lies_cell lX 2
    have nex : ¬ w2.heap.size = w3.heap.size := by omega
    have sz3 := bel3.size
    clear hb lS2 lP2 lP2x KN2 bel2 GP lX
    cases hq : sameB s k
    rotate_left
    · rw [hq] at hsame
      obtain ⟨h1, h2⟩ := Bool.and_eq_true _ _ ▸ hsame.symm
      have h1 := of_decide_eq_true h1
      subst h1
      subst h2
      clear hsame TD WD htok hword
      go_wp2
      go_roundw
      case rel => exact ⟨k + 1, by omega, by go_num, by rw [textTo_same hq], heap_in KS3.out, heap_in KP3.out, heap_in KN3.out, bel3.alloc sz3 _⟩
      case measure => simp [intOf]; omega
    by_cases hnm : n = m
    · subst hnm
      have hq2 : q = false := by rw [hq] at hsame; simpa using hsame.symm
      subst hq2
      clear hsame
      go_wp2_with fail
      refine (TD _).mono ?_
      rintro e w4 ⟨rfl, hb⟩
      have lS4 := below_lies hb (heap_in (o := (.cells #[.bool ya, .bool yp, .int .i64 yn] 23)) KS3.out) (by have := lies_lt KS3.out; simp; omega)
      have lP4 := below_lies hb (heap_in (o := (.cells #[.bool ya, .bool yp, .int .i64 yn] 23)) KP3.out) (by have := lies_lt KP3.out; simp; omega)
      have lN4 := below_lies hb (heap_in (o := (.cells #[.bool ya, .bool yp, .int .i64 yn] 23)) KN3.out) (by have := lies_lt KN3.out; simp; omega)
      have bel4 : Below w.heap.size w w4 := (bel3.alloc sz3 (.cells #[.bool ya, .bool yp, .int .i64 yn] 23)).trans (hb.mono (by simp; omega))
      have KS4 : Hid (w4.heap[w.heap.size]? = some (.cells (#[.int .i64 s.sh, .int .i64 s.fl, .int .i64 s.cl, .bool s.w.a, .bool s.w.p, .int .i64 s.w.n, .bool s.h.a, .bool s.h.p, .int .i64 s.h.n, .int .i64 s.mn, .int .i64 s.mx, .int .i64 s.mt, .bool s.mr.a, .bool s.mr.p, .int .i64 s.mr.n, .int .i64 s.mb, .bool s.ml.a, .bool s.ml.p, .int .i64 s.ml.n, .int .i64 s.bo, .int .i64 s.pa, .int .i64 s.wh, .int .i64 s.al, .int .i64 s.lh, .int .i64 s.ri, .int .i64 s.dn]) 25 (0, 0))) := lS4
      have KP4 : Hid (w4.heap[w.heap.size + 1 + 1]? = some (.cells (#[.int .i64 1, .int .i64 0, .int .i64 0, .bool true, .bool false, .int .i64 0, .bool true, .bool false, .int .i64 0, .int .i64 0, .int .i64 (-1), .int .i64 0, .bool false, .bool false, .int .i64 0, .int .i64 0, .bool false, .bool false, .int .i64 0, .int .i64 0, .int .i64 0, .int .i64 1, .int .i64 1, .int .i64 0, .int .i64 0, .int .i64 0]) 25 (0, 0))) := lP4
      have KN4 : Hid (w4.heap[w.heap.size + 1 + 1 + 1]? = some (.cells nameCells 9 (0, 0))) := lN4
      clear lS4 lP4 lN4 KS3 KP3 KN3 hb bel3 x0 x1 x2 TD EQ GD
      go_wp2_with fail
      refine (WD _).mono ?_
      rintro e w5 hw5
      rcases hw5 with ⟨hw, rfl, h5⟩ | ⟨hw, rfl, rfl⟩
      · obtain ⟨j, hj, hjl, hle, hat⟩ := hword hw
        have cw : w5.cell? ⟨w4.heap.size, j, none⟩ = some (.string (tokT s k)) := by
          rw [h5]
          exact (cell_of_row _ _ _ _ _ _ (heap_at _ _ _ rfl)).trans (by simp [hat])
        have bel5 : Below w.heap.size w w5 := by rw [h5]; exact bel4.alloc bel4.size _
        have KS5 : Hid (w5.heap[w.heap.size]? = some (.cells (#[.int .i64 s.sh, .int .i64 s.fl, .int .i64 s.cl, .bool s.w.a, .bool s.w.p, .int .i64 s.w.n, .bool s.h.a, .bool s.h.p, .int .i64 s.h.n, .int .i64 s.mn, .int .i64 s.mx, .int .i64 s.mt, .bool s.mr.a, .bool s.mr.p, .int .i64 s.mr.n, .int .i64 s.mb, .bool s.ml.a, .bool s.ml.p, .int .i64 s.ml.n, .int .i64 s.bo, .int .i64 s.pa, .int .i64 s.wh, .int .i64 s.al, .int .i64 s.lh, .int .i64 s.ri, .int .i64 s.dn]) 25 (0, 0))) := by rw [h5]; exact heap_in KS4.out
        have KP5 : Hid (w5.heap[w.heap.size + 1 + 1]? = some (.cells (#[.int .i64 1, .int .i64 0, .int .i64 0, .bool true, .bool false, .int .i64 0, .bool true, .bool false, .int .i64 0, .int .i64 0, .int .i64 (-1), .int .i64 0, .bool false, .bool false, .int .i64 0, .int .i64 0, .bool false, .bool false, .int .i64 0, .int .i64 0, .int .i64 0, .int .i64 1, .int .i64 1, .int .i64 0, .int .i64 0, .int .i64 0]) 25 (0, 0))) := by rw [h5]; exact heap_in KP4.out
        have KN5 : Hid (w5.heap[w.heap.size + 1 + 1 + 1]? = some (.cells nameCells 9 (0, 0))) := by rw [h5]; exact heap_in KN4.out
        clear h5 hword htok WD hat
        subst hj
        generalize (wl k).length = L at *
        have hl0 : (0 : Int) < (L : Int) := by omega
        have hl1 : (j : Int) < (L : Int) := by omega
        go_wp2
        go_roundw
        case rel => exact ⟨k + 1, by omega, by go_num, by rw [textTo_next hq]; rfl, KS5.out, KP5.out, KN5.out, bel5⟩
        case measure => simp [intOf]; omega
      · have ht := htok hw
        have hs4 : (toldT za zp zn).size ≤ 30 := by rw [← ht]; exact hs2
        have HT : Hid (tokT s k = toldT za zp zn) := ht
        clear ht htok hword WD
        go_wp2
        go_roundw
        case rel => exact ⟨k + 1, by omega, by go_num, by rw [textTo_next hq]; unfold pieceT; rw [HT.out], KS4.out, KP4.out, KN4.out, bel4⟩
        case measure => simp [intOf]; omega
    · clear hsame
      have hd : decide (n = m) = false := by simpa using hnm
      go_wp2_with fail
      refine (TD _).mono ?_
      rintro e w4 ⟨rfl, hb⟩
      have lS4 := below_lies hb (heap_in (o := (.cells #[.bool ya, .bool yp, .int .i64 yn] 23)) KS3.out) (by have := lies_lt KS3.out; simp; omega)
      have lP4 := below_lies hb (heap_in (o := (.cells #[.bool ya, .bool yp, .int .i64 yn] 23)) KP3.out) (by have := lies_lt KP3.out; simp; omega)
      have lN4 := below_lies hb (heap_in (o := (.cells #[.bool ya, .bool yp, .int .i64 yn] 23)) KN3.out) (by have := lies_lt KN3.out; simp; omega)
      have bel4 : Below w.heap.size w w4 := (bel3.alloc sz3 (.cells #[.bool ya, .bool yp, .int .i64 yn] 23)).trans (hb.mono (by simp; omega))
      have KS4 : Hid (w4.heap[w.heap.size]? = some (.cells (#[.int .i64 s.sh, .int .i64 s.fl, .int .i64 s.cl, .bool s.w.a, .bool s.w.p, .int .i64 s.w.n, .bool s.h.a, .bool s.h.p, .int .i64 s.h.n, .int .i64 s.mn, .int .i64 s.mx, .int .i64 s.mt, .bool s.mr.a, .bool s.mr.p, .int .i64 s.mr.n, .int .i64 s.mb, .bool s.ml.a, .bool s.ml.p, .int .i64 s.ml.n, .int .i64 s.bo, .int .i64 s.pa, .int .i64 s.wh, .int .i64 s.al, .int .i64 s.lh, .int .i64 s.ri, .int .i64 s.dn]) 25 (0, 0))) := lS4
      have KP4 : Hid (w4.heap[w.heap.size + 1 + 1]? = some (.cells (#[.int .i64 1, .int .i64 0, .int .i64 0, .bool true, .bool false, .int .i64 0, .bool true, .bool false, .int .i64 0, .int .i64 0, .int .i64 (-1), .int .i64 0, .bool false, .bool false, .int .i64 0, .int .i64 0, .bool false, .bool false, .int .i64 0, .int .i64 0, .int .i64 0, .int .i64 1, .int .i64 1, .int .i64 0, .int .i64 0, .int .i64 0]) 25 (0, 0))) := lP4
      have KN4 : Hid (w4.heap[w.heap.size + 1 + 1 + 1]? = some (.cells nameCells 9 (0, 0))) := lN4
      clear lS4 lP4 lN4 KS3 KP3 KN3 hb bel3 x0 x1 x2 TD EQ GD
      go_wp2_with fail
      refine (WD _).mono ?_
      rintro e w5 hw5
      rcases hw5 with ⟨hw, rfl, h5⟩ | ⟨hw, rfl, rfl⟩
      · obtain ⟨j, hj, hjl, hle, hat⟩ := hword hw
        have cw : w5.cell? ⟨w4.heap.size, j, none⟩ = some (.string (tokT s k)) := by
          rw [h5]
          exact (cell_of_row _ _ _ _ _ _ (heap_at _ _ _ rfl)).trans (by simp [hat])
        have bel5 : Below w.heap.size w w5 := by rw [h5]; exact bel4.alloc bel4.size _
        have KS5 : Hid (w5.heap[w.heap.size]? = some (.cells (#[.int .i64 s.sh, .int .i64 s.fl, .int .i64 s.cl, .bool s.w.a, .bool s.w.p, .int .i64 s.w.n, .bool s.h.a, .bool s.h.p, .int .i64 s.h.n, .int .i64 s.mn, .int .i64 s.mx, .int .i64 s.mt, .bool s.mr.a, .bool s.mr.p, .int .i64 s.mr.n, .int .i64 s.mb, .bool s.ml.a, .bool s.ml.p, .int .i64 s.ml.n, .int .i64 s.bo, .int .i64 s.pa, .int .i64 s.wh, .int .i64 s.al, .int .i64 s.lh, .int .i64 s.ri, .int .i64 s.dn]) 25 (0, 0))) := by rw [h5]; exact heap_in KS4.out
        have KP5 : Hid (w5.heap[w.heap.size + 1 + 1]? = some (.cells (#[.int .i64 1, .int .i64 0, .int .i64 0, .bool true, .bool false, .int .i64 0, .bool true, .bool false, .int .i64 0, .int .i64 0, .int .i64 (-1), .int .i64 0, .bool false, .bool false, .int .i64 0, .int .i64 0, .bool false, .bool false, .int .i64 0, .int .i64 0, .int .i64 0, .int .i64 1, .int .i64 1, .int .i64 0, .int .i64 0, .int .i64 0]) 25 (0, 0))) := by rw [h5]; exact heap_in KP4.out
        have KN5 : Hid (w5.heap[w.heap.size + 1 + 1 + 1]? = some (.cells nameCells 9 (0, 0))) := by rw [h5]; exact heap_in KN4.out
        clear h5 hword htok WD hat
        subst hj
        generalize (wl k).length = L at *
        have hl0 : (0 : Int) < (L : Int) := by omega
        have hl1 : (j : Int) < (L : Int) := by omega
        go_wp2
        go_roundw
        case rel => exact ⟨k + 1, by omega, by go_num, by rw [textTo_next hq]; rfl, KS5.out, KP5.out, KN5.out, bel5⟩
        case measure => simp [intOf]; omega
      · have ht := htok hw
        have hs4 : (toldT za zp zn).size ≤ 30 := by rw [← ht]; exact hs2
        have HT : Hid (tokT s k = toldT za zp zn) := ht
        clear ht htok hword WD
        go_wp2
        go_roundw
        case rel => exact ⟨k + 1, by omega, by go_num, by rw [textTo_next hq]; unfold pieceT; rw [HT.out], KS4.out, KP4.out, KN4.out, bel4⟩
        case measure => simp [intOf]; omega
end Go.Proofs.YtdgagjnkbmckoaaGreatDoor
