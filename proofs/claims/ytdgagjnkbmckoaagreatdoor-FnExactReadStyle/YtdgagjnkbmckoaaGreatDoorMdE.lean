/-
  The model's ReadStyle: the style that has this text, if there is one.
-/
import Derived.Test.YtdgagjnkbmckoaaGreatDoorMdD
namespace Go.Proofs.YtdgagjnkbmckoaaGreatDoor
open Go.ChangeShapes Go.WideShapes Go.ChangeAt Go.RowKit
set_option linter.unusedVariables false

/-- What the model's loop holds. -/
def GhM (s t : ByteArray) (Y : St) : Prop := ∀ X, Rel s X → ∃ k, k ≤ 18 ∧ t = restT X k ∧ Y = mixT X k
theorem ghM_zero (s : ByteArray) : GhM s s plainS := fun X hX => ⟨0, by omega, by rw [rest_zero, hX.2], rfl⟩
theorem ghM_next {s t : ByteArray} {Y : St} (h : GhM s t Y) (ht : t.size ≠ 0) {X : St} (hX : Rel s X) : ∃ j, j < 18 ∧ sameB X j = false ∧ t = pieceT X j ++ restT X (j + 1) ∧ Y = mixT X j := by
  obtain ⟨k, hk, h1, h2⟩ := h X hX
  rcases rest_next X (18 - k) k (by omega) with ⟨h3, _⟩ | ⟨j, _, h4, h5, h6, h7⟩
  · rw [h1, h3] at ht; exact absurd rfl ht
  · exact ⟨j, h4, h5, h1.trans h6, h2.trans h7⟩
theorem piece_some (X : St) (j : Nat) (r : ByteArray) : (pieceT X j ++ r).size ≠ 0 := by
  unfold pieceT
  simp only [ByteArray.size_append]
  have : (⟨#[59]⟩ : ByteArray).size = 1 := rfl
  omega
theorem ghM_last {s t : ByteArray} {Y : St} (h : GhM s t Y) (ht : t.size = 0) : ∀ X, Rel s X → X = Y := fun X hX => by
  obtain ⟨k, hk, h1, h2⟩ := h X hX
  rcases rest_next X (18 - k) k (by omega) with ⟨_, h3⟩ | ⟨j, _, h4, h5, h6, h7⟩
  · rw [h2, h3, mix_all]
  · rw [h1, h6] at ht; exact absurd ht (piece_some X j _)
theorem ghM_cut {s t : ByteArray} {Y : St} (h : GhM s t Y) (ht : t.size ≠ 0) (hc : (s_dotB t && c_dotB (s_wholeOf t)) = false) : ¬ ∃ X, Rel s X := fun ⟨X, hX⟩ => by
  obtain ⟨j, h1, h2, h3, _⟩ := ghM_next h ht hX
  obtain ⟨c1, _, c3, _, _⟩ := step_cut hX.1 h1 h2 h3
  rw [c1, c3] at hc
  cases hc
/-- What l4Value says of a value that is told. -/
def ValAt (nm v : ByteArray) (n : Int) (z : Sz) (b : Bool) : Prop := ∀ j, j < 18 → ∀ X, txtB X = true → sameB X j = false → nm = nmT j → v = tokT X j → b = true ∧ n = getN X j ∧ z = getZ X j
theorem ghM_bad {s t : ByteArray} {Y : St} (h : GhM s t Y) (ht : t.size ≠ 0) {n : Int} {z : Sz} (hv : ValAt (c_wholeOf (s_wholeOf t)) (c_partOf (s_wholeOf t)) n z false) : ¬ ∃ X, Rel s X := fun ⟨X, hX⟩ => by
  obtain ⟨j, h1, h2, h3, _⟩ := ghM_next h ht hX
  obtain ⟨_, _, _, c4, c5⟩ := step_cut hX.1 h1 h2 h3
  have := (hv j h1 X hX.1 h2 c4 c5).1
  cases this
theorem ghM_good {s t : ByteArray} {Y Y2 : St} (h : GhM s t Y) (ht : t.size ≠ 0) {n : Int} {z : Sz} {b : Bool} (hv : ValAt (c_wholeOf (s_wholeOf t)) (c_partOf (s_wholeOf t)) n z b) (hY : ∀ j, j < 18 → c_wholeOf (s_wholeOf t) = nmT j → Y2 = setT Y j n z) : GhM s (s_partOf t) Y2 := fun X hX => by
  obtain ⟨j, h1, h2, h3, h4⟩ := ghM_next h ht hX
  obtain ⟨_, c2, _, c4, c5⟩ := step_cut hX.1 h1 h2 h3
  obtain ⟨_, v2, v3⟩ := hv j h1 X hX.1 h2 c4 c5
  refine ⟨j + 1, by omega, c2, ?_⟩
  rw [hY j h1 c4, h4, v2, v3]
  rfl
theorem s_part_less {t : ByteArray} (h : s_dotB t = true) (ht : t.size ≠ 0) : (s_partOf t).size < t.size := by
  unfold s_partOf
  rw [if_pos h, ByteArray.size_extract]
  omega

set_option maxRecDepth 100000 in
set_option maxHeartbeats 8000000 in
theorem specReadStyle_any (s : ByteArray) (w : World) (hs : s.size ≤ 1048576) :
    Calls Tryz.prog 4 #[.string s] w fun e w' => ((∃ Y : St, e = .returned (.tuple #[.agg (#[.int .i64 Y.sh, .int .i64 Y.fl, .int .i64 Y.cl, .bool Y.w.a, .bool Y.w.p, .int .i64 Y.w.n, .bool Y.h.a, .bool Y.h.p, .int .i64 Y.h.n, .int .i64 Y.mn, .int .i64 Y.mx, .int .i64 Y.mt, .bool Y.mr.a, .bool Y.mr.p, .int .i64 Y.mr.n, .int .i64 Y.mb, .bool Y.ml.a, .bool Y.ml.p, .int .i64 Y.ml.n, .int .i64 Y.bo, .int .i64 Y.pa, .int .i64 Y.wh, .int .i64 Y.al, .int .i64 Y.lh, .int .i64 Y.ri, .int .i64 Y.dn]), .bool true]) ∧ Rel s Y ∧ ∀ X, Rel s X → X = Y) ∨ (e = .returned (.tuple #[.agg (#[.int .i64 0, .int .i64 0, .int .i64 0, .bool false, .bool false, .int .i64 0, .bool false, .bool false, .int .i64 0, .int .i64 0, .int .i64 0, .int .i64 0, .bool false, .bool false, .int .i64 0, .int .i64 0, .bool false, .bool false, .int .i64 0, .int .i64 0, .int .i64 0, .int .i64 0, .int .i64 0, .int .i64 0, .int .i64 0, .int .i64 0]), .bool false]) ∧ ¬ ∃ X, Rel s X)) ∧ Below w.heap.size w w' := by
  go_enter Tryz.func4, Tryz.ntmps4
  go_wp2_with (first
    | (go_at_call 7; refine (specPlain_at _).mono ?_; rintro e w2 ⟨rfl, rfl⟩)
    | ((with_reducible show wpList _ _ _ (⟨none, Op.store 25 (Operand.tmp 4) (Operand.tmp 17), _, _, _, _⟩ :: _) _ _); refine wpList_store_new rfl 25 _ _ rfl rfl (#[.int .i64 1, .int .i64 0, .int .i64 0, .bool true, .bool false, .int .i64 0, .bool true, .bool false, .int .i64 0, .int .i64 0, .int .i64 (-1), .int .i64 0, .bool false, .bool false, .int .i64 0, .int .i64 0, .bool false, .bool false, .int .i64 0, .int .i64 0, .int .i64 0, .int .i64 1, .int .i64 1, .int .i64 0, .int .i64 0, .int .i64 0]) 25 _ _ (by simp) rfl rfl (by kernel_rfl) rfl (by kernel_rfl) ?_))
  go_loopw [5] (fun r wr => ∃ (t : ByteArray) (Y : St), r = .string t ∧ t.size ≤ s.size ∧ GhM s t Y ∧ wr.heap[w.heap.size]? = some (.cells (#[.int .i64 0, .int .i64 0, .int .i64 0, .bool false, .bool false, .int .i64 0, .bool false, .bool false, .int .i64 0, .int .i64 0, .int .i64 0, .int .i64 0, .bool false, .bool false, .int .i64 0, .int .i64 0, .bool false, .bool false, .int .i64 0, .int .i64 0, .int .i64 0, .int .i64 0, .int .i64 0, .int .i64 0, .int .i64 0, .int .i64 0]) 25 (0, 0)) ∧ wr.heap[w.heap.size + 1 + 1]? = some (.cells (#[.int .i64 Y.sh, .int .i64 Y.fl, .int .i64 Y.cl, .bool Y.w.a, .bool Y.w.p, .int .i64 Y.w.n, .bool Y.h.a, .bool Y.h.p, .int .i64 Y.h.n, .int .i64 Y.mn, .int .i64 Y.mx, .int .i64 Y.mt, .bool Y.mr.a, .bool Y.mr.p, .int .i64 Y.mr.n, .int .i64 Y.mb, .bool Y.ml.a, .bool Y.ml.p, .int .i64 Y.ml.n, .int .i64 Y.bo, .int .i64 Y.pa, .int .i64 Y.wh, .int .i64 Y.al, .int .i64 Y.lh, .int .i64 Y.ri, .int .i64 Y.dn]) 25 (0, 0)) ∧ Below w.heap.size w wr) (fun r _ => match r with | .string t => t.size | _ => 0)
  case atStart => exact ⟨s, plainS, rfl, Nat.le_refl _, ghM_zero s, heap_in (heap_in (heap_at _ _ _ rfl)), heap_at _ _ _ (by simp), (((Below.refl _ _).alloc (Nat.le_refl _) _).alloc (by simp) _).alloc (by simp; omega) _⟩
  case round =>
    obtain ⟨t, Y, rfl, ht, hgh, lz, ly, bel⟩ := hrel
    have HGH : Hid (GhM s t Y) := hgh
    have ltt := lies_lt ly
    have n0 : (#[.int .i64 0, .int .i64 0, .int .i64 0, .bool false, .bool false, .int .i64 0, .bool false, .bool false, .int .i64 0, .int .i64 0, .int .i64 0, .int .i64 0, .bool false, .bool false, .int .i64 0, .int .i64 0, .bool false, .bool false, .int .i64 0, .int .i64 0, .int .i64 0, .int .i64 0, .int .i64 0, .int .i64 0, .int .i64 0, .int .i64 0] : Array Value).size = 26 := rfl
    have n1 : (#[.int .i64 Y.sh, .int .i64 Y.fl, .int .i64 Y.cl, .bool Y.w.a, .bool Y.w.p, .int .i64 Y.w.n, .bool Y.h.a, .bool Y.h.p, .int .i64 Y.h.n, .int .i64 Y.mn, .int .i64 Y.mx, .int .i64 Y.mt, .bool Y.mr.a, .bool Y.mr.p, .int .i64 Y.mr.n, .int .i64 Y.mb, .bool Y.ml.a, .bool Y.ml.p, .int .i64 Y.ml.n, .int .i64 Y.bo, .int .i64 Y.pa, .int .i64 Y.wh, .int .i64 Y.al, .int .i64 Y.lh, .int .i64 Y.ri, .int .i64 Y.dn] : Array Value).size = 26 := rfl
    clear hgh
    by_cases h0 : t.size = 0
    · have h1 : t.toList.isEmpty = true := by rw [ByteArray.toList_eq, List.isEmpty_iff_length_eq_zero]; simpa using h0
      have HX : Hid (∀ X, Rel s X → X = Y) := ghM_last HGH.out h0
      have TS := fun W => specStyleText_any Y W
      clear h0
      go_wp2_with ((with_reducible show wpList _ _ _ (⟨some 57, Op.load 25 _, _, _, _, _⟩ :: _) _ _); refine wpList_load_row rfl 25 _ rfl (w.heap.size + 1 + 1) rfl _ (#[.int .i64 Y.sh, .int .i64 Y.fl, .int .i64 Y.cl, .bool Y.w.a, .bool Y.w.p, .int .i64 Y.w.n, .bool Y.h.a, .bool Y.h.p, .int .i64 Y.h.n, .int .i64 Y.mn, .int .i64 Y.mx, .int .i64 Y.mt, .bool Y.mr.a, .bool Y.mr.p, .int .i64 Y.mr.n, .int .i64 Y.mb, .bool Y.ml.a, .bool Y.ml.p, .int .i64 Y.ml.n, .int .i64 Y.bo, .int .i64 Y.pa, .int .i64 Y.wh, .int .i64 Y.al, .int .i64 Y.lh, .int .i64 Y.ri, .int .i64 Y.dn]) _ _ ly Tryz.underlying25 rfl (by kernel_rfl) ?_)
      refine (TS _).mono ?_
      rintro e w1 ⟨rfl, hb⟩
      replace bel := bel.trans (hb.mono bel.size)
      replace lz := below_lies hb lz (by omega)
      replace ly := below_lies hb ly (by omega)
      clear TS hb h1
      cases hB : txtB Y
      · have HN : Hid (¬ ∃ X, Rel s X) := fun ⟨X, hX⟩ => by
          have e := HX.out X hX
          subst e
          rw [hX.1] at hB
          cases hB
        generalize txtT Y = T
        clear hB ly
        go_wp2_with (first
          | ((with_reducible show wpList _ _ _ (⟨some 68, Op.build 25 _, _, _, _, _⟩ :: _) _ _); refine wpList_buildTo rfl 25 _ rfl _ rfl (#[.int .i64 0, .int .i64 0, .int .i64 0, .bool false, .bool false, .int .i64 0, .bool false, .bool false, .int .i64 0, .int .i64 0, .int .i64 0, .int .i64 0, .bool false, .bool false, .int .i64 0, .int .i64 0, .bool false, .bool false, .int .i64 0, .int .i64 0, .int .i64 0, .int .i64 0, .int .i64 0, .int .i64 0, .int .i64 0, .int .i64 0]) (by kernel_rfl) ?_)
          | ((with_reducible show wpList _ _ _ (⟨none, Op.store 25 _ _, _, _, _, _⟩ :: _) _ _); refine wpList_putA rfl _ _ _ rfl rfl _ _ _ _ _ _ rfl rfl lz n0 (by kernel_rfl) (by kernel_rfl) (by kernel_rfl) ?_; intro w3 p l3 n3; refine stay_p ?_))
        have b3 := p.below bel (Nat.le_refl _)
        unfold stayP
        go_wp2
        exact bodyPost_ret (v := .tuple #[.agg (#[.int .i64 0, .int .i64 0, .int .i64 0, .bool false, .bool false, .int .i64 0, .bool false, .bool false, .int .i64 0, .int .i64 0, .int .i64 0, .int .i64 0, .bool false, .bool false, .int .i64 0, .int .i64 0, .bool false, .bool false, .int .i64 0, .int .i64 0, .int .i64 0, .int .i64 0, .int .i64 0, .int .i64 0, .int .i64 0, .int .i64 0]), .bool false]) (results_row_tmp Tryz.results4 _ _ _ _ (#[.int .i64 0, .int .i64 0, .int .i64 0, .bool false, .bool false, .int .i64 0, .bool false, .bool false, .int .i64 0, .int .i64 0, .int .i64 0, .int .i64 0, .bool false, .bool false, .int .i64 0, .int .i64 0, .bool false, .bool false, .int .i64 0, .int .i64 0, .int .i64 0, .int .i64 0, .int .i64 0, .int .i64 0, .int .i64 0, .int .i64 0]) _ _ _ rfl (l3.trans (congrArg (fun c => some (Obj.cells c 25 (0, 0))) (show _ = (#[.int .i64 0, .int .i64 0, .int .i64 0, .bool false, .bool false, .int .i64 0, .bool false, .bool false, .int .i64 0, .int .i64 0, .int .i64 0, .int .i64 0, .bool false, .bool false, .int .i64 0, .int .i64 0, .bool false, .bool false, .int .i64 0, .int .i64 0, .int .i64 0, .int .i64 0, .int .i64 0, .int .i64 0, .int .i64 0, .int .i64 0] : Array Value) by kernel_rfl))) Tryz.underlying25 rfl (by kernel_rfl) rfl) rfl ⟨.inr ⟨rfl, HN.out⟩, b3⟩
      have e2 : txtT Y = textTo Y 18 := by unfold txtT; rw [hB]; rfl
      rw [e2]
      by_cases hts : textTo Y 18 = s
      · have HR : Hid (Rel s Y) := ⟨hB, hts⟩
        have hq1 : ((textTo Y 18).toList == s.toList) = true := by rw [hts]; simp
        generalize textTo Y 18 = T at hq1 ⊢
        clear hts e2 hB
        go_wp2_with (first
          | ((with_reducible show wpList _ _ _ (⟨some 69, Op.load 25 _, _, _, _, _⟩ :: _) _ _); refine wpList_load_row rfl 25 _ rfl (w.heap.size + 1 + 1) rfl _ (#[.int .i64 Y.sh, .int .i64 Y.fl, .int .i64 Y.cl, .bool Y.w.a, .bool Y.w.p, .int .i64 Y.w.n, .bool Y.h.a, .bool Y.h.p, .int .i64 Y.h.n, .int .i64 Y.mn, .int .i64 Y.mx, .int .i64 Y.mt, .bool Y.mr.a, .bool Y.mr.p, .int .i64 Y.mr.n, .int .i64 Y.mb, .bool Y.ml.a, .bool Y.ml.p, .int .i64 Y.ml.n, .int .i64 Y.bo, .int .i64 Y.pa, .int .i64 Y.wh, .int .i64 Y.al, .int .i64 Y.lh, .int .i64 Y.ri, .int .i64 Y.dn]) _ _ ly Tryz.underlying25 rfl (by kernel_rfl) ?_)
          | ((with_reducible show wpList _ _ _ (⟨none, Op.store 25 _ _, _, _, _, _⟩ :: _) _ _); refine wpList_putA rfl _ _ _ rfl rfl _ _ _ _ _ _ rfl rfl lz n0 (by kernel_rfl) (by kernel_rfl) (by kernel_rfl) ?_; intro w3 p l3 n3; refine stay_p ?_))
        have b3 := p.below bel (Nat.le_refl _)
        unfold stayP
        go_wp2
        exact bodyPost_ret (v := .tuple #[.agg (#[.int .i64 Y.sh, .int .i64 Y.fl, .int .i64 Y.cl, .bool Y.w.a, .bool Y.w.p, .int .i64 Y.w.n, .bool Y.h.a, .bool Y.h.p, .int .i64 Y.h.n, .int .i64 Y.mn, .int .i64 Y.mx, .int .i64 Y.mt, .bool Y.mr.a, .bool Y.mr.p, .int .i64 Y.mr.n, .int .i64 Y.mb, .bool Y.ml.a, .bool Y.ml.p, .int .i64 Y.ml.n, .int .i64 Y.bo, .int .i64 Y.pa, .int .i64 Y.wh, .int .i64 Y.al, .int .i64 Y.lh, .int .i64 Y.ri, .int .i64 Y.dn]), .bool true]) (results_row_tmp Tryz.results4 _ _ _ _ (#[.int .i64 Y.sh, .int .i64 Y.fl, .int .i64 Y.cl, .bool Y.w.a, .bool Y.w.p, .int .i64 Y.w.n, .bool Y.h.a, .bool Y.h.p, .int .i64 Y.h.n, .int .i64 Y.mn, .int .i64 Y.mx, .int .i64 Y.mt, .bool Y.mr.a, .bool Y.mr.p, .int .i64 Y.mr.n, .int .i64 Y.mb, .bool Y.ml.a, .bool Y.ml.p, .int .i64 Y.ml.n, .int .i64 Y.bo, .int .i64 Y.pa, .int .i64 Y.wh, .int .i64 Y.al, .int .i64 Y.lh, .int .i64 Y.ri, .int .i64 Y.dn]) _ _ _ rfl (l3.trans (congrArg (fun c => some (Obj.cells c 25 (0, 0))) (show _ = (#[.int .i64 Y.sh, .int .i64 Y.fl, .int .i64 Y.cl, .bool Y.w.a, .bool Y.w.p, .int .i64 Y.w.n, .bool Y.h.a, .bool Y.h.p, .int .i64 Y.h.n, .int .i64 Y.mn, .int .i64 Y.mx, .int .i64 Y.mt, .bool Y.mr.a, .bool Y.mr.p, .int .i64 Y.mr.n, .int .i64 Y.mb, .bool Y.ml.a, .bool Y.ml.p, .int .i64 Y.ml.n, .int .i64 Y.bo, .int .i64 Y.pa, .int .i64 Y.wh, .int .i64 Y.al, .int .i64 Y.lh, .int .i64 Y.ri, .int .i64 Y.dn] : Array Value) by kernel_rfl))) Tryz.underlying25 rfl (by kernel_rfl) rfl) rfl ⟨.inl ⟨Y, rfl, HR.out, HX.out⟩, b3⟩
      · have HN : Hid (¬ ∃ X, Rel s X) := fun ⟨X, hX⟩ => hts (by have e := HX.out X hX; subst e; exact hX.2)
        have hq1 : ((textTo Y 18).toList == s.toList) = false := by
          exact beq_false_of_ne (fun h => hts (by rw [ByteArray.toList_eq, ByteArray.toList_eq] at h; exact ByteArray.ext (Array.toList_inj.1 h)))
        generalize textTo Y 18 = T at hq1 ⊢
        clear hts e2 hB ly
        go_wp2_with (first
          | ((with_reducible show wpList _ _ _ (⟨some 68, Op.build 25 _, _, _, _, _⟩ :: _) _ _); refine wpList_buildTo rfl 25 _ rfl _ rfl (#[.int .i64 0, .int .i64 0, .int .i64 0, .bool false, .bool false, .int .i64 0, .bool false, .bool false, .int .i64 0, .int .i64 0, .int .i64 0, .int .i64 0, .bool false, .bool false, .int .i64 0, .int .i64 0, .bool false, .bool false, .int .i64 0, .int .i64 0, .int .i64 0, .int .i64 0, .int .i64 0, .int .i64 0, .int .i64 0, .int .i64 0]) (by kernel_rfl) ?_)
          | ((with_reducible show wpList _ _ _ (⟨none, Op.store 25 _ _, _, _, _, _⟩ :: _) _ _); refine wpList_putA rfl _ _ _ rfl rfl _ _ _ _ _ _ rfl rfl lz n0 (by kernel_rfl) (by kernel_rfl) (by kernel_rfl) ?_; intro w3 p l3 n3; refine stay_p ?_))
        have b3 := p.below bel (Nat.le_refl _)
        unfold stayP
        go_wp2
        exact bodyPost_ret (v := .tuple #[.agg (#[.int .i64 0, .int .i64 0, .int .i64 0, .bool false, .bool false, .int .i64 0, .bool false, .bool false, .int .i64 0, .int .i64 0, .int .i64 0, .int .i64 0, .bool false, .bool false, .int .i64 0, .int .i64 0, .bool false, .bool false, .int .i64 0, .int .i64 0, .int .i64 0, .int .i64 0, .int .i64 0, .int .i64 0, .int .i64 0, .int .i64 0]), .bool false]) (results_row_tmp Tryz.results4 _ _ _ _ (#[.int .i64 0, .int .i64 0, .int .i64 0, .bool false, .bool false, .int .i64 0, .bool false, .bool false, .int .i64 0, .int .i64 0, .int .i64 0, .int .i64 0, .bool false, .bool false, .int .i64 0, .int .i64 0, .bool false, .bool false, .int .i64 0, .int .i64 0, .int .i64 0, .int .i64 0, .int .i64 0, .int .i64 0, .int .i64 0, .int .i64 0]) _ _ _ rfl (l3.trans (congrArg (fun c => some (Obj.cells c 25 (0, 0))) (show _ = (#[.int .i64 0, .int .i64 0, .int .i64 0, .bool false, .bool false, .int .i64 0, .bool false, .bool false, .int .i64 0, .int .i64 0, .int .i64 0, .int .i64 0, .bool false, .bool false, .int .i64 0, .int .i64 0, .bool false, .bool false, .int .i64 0, .int .i64 0, .int .i64 0, .int .i64 0, .int .i64 0, .int .i64 0, .int .i64 0, .int .i64 0] : Array Value) by kernel_rfl))) Tryz.underlying25 rfl (by kernel_rfl) rfl) rfl ⟨.inr ⟨rfl, HN.out⟩, b3⟩
    have HT0 : Hid (t.size ≠ 0) := h0
    have h1 : t.toList.isEmpty = false := by rw [← Bool.not_eq_true, ByteArray.toList_eq, List.isEmpty_iff_length_eq_zero]; simpa using h0
    clear h0
    have SC := fun W => s_l1Cut_any t W (by omega)
    have CC := fun W => c_l1Cut_any (s_wholeOf t) W (by have := s_whole_size t; omega)
    go_wp2_with fail
    refine (SC _).mono ?_
    rintro e w1 ⟨rfl, q, rfl⟩
    go_wp2_with fail
    refine (CC _).mono ?_
    rintro e w1 ⟨rfl, q2, rfl⟩
    replace bel := below_drewN (below_drewN bel q) q2
    replace lz : ((wr.drewN q).drewN q2).heap[w.heap.size]? = some (.cells (#[.int .i64 0, .int .i64 0, .int .i64 0, .bool false, .bool false, .int .i64 0, .bool false, .bool false, .int .i64 0, .int .i64 0, .int .i64 0, .int .i64 0, .bool false, .bool false, .int .i64 0, .int .i64 0, .bool false, .bool false, .int .i64 0, .int .i64 0, .int .i64 0, .int .i64 0, .int .i64 0, .int .i64 0, .int .i64 0, .int .i64 0]) 25 (0, 0)) := lz
    replace ly : ((wr.drewN q).drewN q2).heap[w.heap.size + 1 + 1]? = some (.cells (#[.int .i64 Y.sh, .int .i64 Y.fl, .int .i64 Y.cl, .bool Y.w.a, .bool Y.w.p, .int .i64 Y.w.n, .bool Y.h.a, .bool Y.h.p, .int .i64 Y.h.n, .int .i64 Y.mn, .int .i64 Y.mx, .int .i64 Y.mt, .bool Y.mr.a, .bool Y.mr.p, .int .i64 Y.mr.n, .int .i64 Y.mb, .bool Y.ml.a, .bool Y.ml.p, .int .i64 Y.ml.n, .int .i64 Y.bo, .int .i64 Y.pa, .int .i64 Y.wh, .int .i64 Y.al, .int .i64 Y.lh, .int .i64 Y.ri, .int .i64 Y.dn]) 25 (0, 0)) := ly
    replace ltt : w.heap.size + 1 + 1 < ((wr.drewN q).drewN q2).heap.size := ltt
    generalize (wr.drewN q).drewN q2 = W at bel lz ly ltt ⊢
    clear SC CC h1
    cases hc : (s_dotB t && c_dotB (s_wholeOf t))
    · have HN : Hid (¬ ∃ X, Rel s X) := ghM_cut HGH.out HT0.out hc
      generalize s_dotB t = d1 at hc ⊢
      generalize c_dotB (s_wholeOf t) = d2 at hc ⊢
      clear HGH HT0 ly
      cases d1
      ·
        go_wp2_with (first
          | ((with_reducible show wpList _ _ _ (⟨some 39, Op.build 25 _, _, _, _, _⟩ :: _) _ _); refine wpList_buildTo rfl 25 _ rfl _ rfl (#[.int .i64 0, .int .i64 0, .int .i64 0, .bool false, .bool false, .int .i64 0, .bool false, .bool false, .int .i64 0, .int .i64 0, .int .i64 0, .int .i64 0, .bool false, .bool false, .int .i64 0, .int .i64 0, .bool false, .bool false, .int .i64 0, .int .i64 0, .int .i64 0, .int .i64 0, .int .i64 0, .int .i64 0, .int .i64 0, .int .i64 0]) (by kernel_rfl) ?_)
          | ((with_reducible show wpList _ _ _ (⟨none, Op.store 25 _ _, _, _, _, _⟩ :: _) _ _); refine wpList_putA rfl _ _ _ rfl rfl _ _ _ _ _ _ rfl rfl lz n0 (by kernel_rfl) (by kernel_rfl) (by kernel_rfl) ?_; intro w3 p l3 n3; refine stay_p ?_))
        have b3 := p.below bel (Nat.le_refl _)
        unfold stayP
        go_wp2
        exact bodyPost_ret (v := .tuple #[.agg (#[.int .i64 0, .int .i64 0, .int .i64 0, .bool false, .bool false, .int .i64 0, .bool false, .bool false, .int .i64 0, .int .i64 0, .int .i64 0, .int .i64 0, .bool false, .bool false, .int .i64 0, .int .i64 0, .bool false, .bool false, .int .i64 0, .int .i64 0, .int .i64 0, .int .i64 0, .int .i64 0, .int .i64 0, .int .i64 0, .int .i64 0]), .bool false]) (results_row_tmp Tryz.results4 _ _ _ _ (#[.int .i64 0, .int .i64 0, .int .i64 0, .bool false, .bool false, .int .i64 0, .bool false, .bool false, .int .i64 0, .int .i64 0, .int .i64 0, .int .i64 0, .bool false, .bool false, .int .i64 0, .int .i64 0, .bool false, .bool false, .int .i64 0, .int .i64 0, .int .i64 0, .int .i64 0, .int .i64 0, .int .i64 0, .int .i64 0, .int .i64 0]) _ _ _ rfl (l3.trans (congrArg (fun c => some (Obj.cells c 25 (0, 0))) (show _ = (#[.int .i64 0, .int .i64 0, .int .i64 0, .bool false, .bool false, .int .i64 0, .bool false, .bool false, .int .i64 0, .int .i64 0, .int .i64 0, .int .i64 0, .bool false, .bool false, .int .i64 0, .int .i64 0, .bool false, .bool false, .int .i64 0, .int .i64 0, .int .i64 0, .int .i64 0, .int .i64 0, .int .i64 0, .int .i64 0, .int .i64 0] : Array Value) by kernel_rfl))) Tryz.underlying25 rfl (by kernel_rfl) rfl) rfl ⟨.inr ⟨rfl, HN.out⟩, b3⟩
      have hd2 : d2 = false := by simpa using hc
      subst hd2
      clear hc
      go_wp2_with (first
        | ((with_reducible show wpList _ _ _ (⟨some 39, Op.build 25 _, _, _, _, _⟩ :: _) _ _); refine wpList_buildTo rfl 25 _ rfl _ rfl (#[.int .i64 0, .int .i64 0, .int .i64 0, .bool false, .bool false, .int .i64 0, .bool false, .bool false, .int .i64 0, .int .i64 0, .int .i64 0, .int .i64 0, .bool false, .bool false, .int .i64 0, .int .i64 0, .bool false, .bool false, .int .i64 0, .int .i64 0, .int .i64 0, .int .i64 0, .int .i64 0, .int .i64 0, .int .i64 0, .int .i64 0]) (by kernel_rfl) ?_)
        | ((with_reducible show wpList _ _ _ (⟨none, Op.store 25 _ _, _, _, _, _⟩ :: _) _ _); refine wpList_putA rfl _ _ _ rfl rfl _ _ _ _ _ _ rfl rfl lz n0 (by kernel_rfl) (by kernel_rfl) (by kernel_rfl) ?_; intro w3 p l3 n3; refine stay_p ?_))
      have b3 := p.below bel (Nat.le_refl _)
      unfold stayP
      go_wp2
      exact bodyPost_ret (v := .tuple #[.agg (#[.int .i64 0, .int .i64 0, .int .i64 0, .bool false, .bool false, .int .i64 0, .bool false, .bool false, .int .i64 0, .int .i64 0, .int .i64 0, .int .i64 0, .bool false, .bool false, .int .i64 0, .int .i64 0, .bool false, .bool false, .int .i64 0, .int .i64 0, .int .i64 0, .int .i64 0, .int .i64 0, .int .i64 0, .int .i64 0, .int .i64 0]), .bool false]) (results_row_tmp Tryz.results4 _ _ _ _ (#[.int .i64 0, .int .i64 0, .int .i64 0, .bool false, .bool false, .int .i64 0, .bool false, .bool false, .int .i64 0, .int .i64 0, .int .i64 0, .int .i64 0, .bool false, .bool false, .int .i64 0, .int .i64 0, .bool false, .bool false, .int .i64 0, .int .i64 0, .int .i64 0, .int .i64 0, .int .i64 0, .int .i64 0, .int .i64 0, .int .i64 0]) _ _ _ rfl (l3.trans (congrArg (fun c => some (Obj.cells c 25 (0, 0))) (show _ = (#[.int .i64 0, .int .i64 0, .int .i64 0, .bool false, .bool false, .int .i64 0, .bool false, .bool false, .int .i64 0, .int .i64 0, .int .i64 0, .int .i64 0, .bool false, .bool false, .int .i64 0, .int .i64 0, .bool false, .bool false, .int .i64 0, .int .i64 0, .int .i64 0, .int .i64 0, .int .i64 0, .int .i64 0, .int .i64 0, .int .i64 0] : Array Value) by kernel_rfl))) Tryz.underlying25 rfl (by kernel_rfl) rfl) rfl ⟨.inr ⟨rfl, HN.out⟩, b3⟩
    rw [Bool.and_eq_true] at hc
    rw [hc.1, hc.2]
    have HL : Hid ((s_partOf t).size < t.size) := s_part_less hc.1 HT0.out
    clear hc
    have VA := fun W => value_any (c_wholeOf (s_wholeOf t)) (c_partOf (s_wholeOf t)) W (by have := s_whole_size t; have := c_part_size (s_wholeOf t); omega)
    go_wp2_with fail
    refine (VA _).mono ?_
    rintro e w1 ⟨⟨n, z, b, rfl, hv⟩, hb⟩
    have HV : Hid (ValAt (c_wholeOf (s_wholeOf t)) (c_partOf (s_wholeOf t)) n z b) := hv
    replace bel := bel.trans (hb.mono bel.size)
    replace lz := below_lies hb lz (by omega)
    replace ly := below_lies hb ly (by omega)
    replace ltt := lies_lt ly
    clear hb hv VA
    go_wp2_with ((with_reducible show wpList _ _ _ (⟨none, Op.store 23 (Operand.tmp 13) _, _, _, _, _⟩ :: _) _ _); refine wpList_store_new rfl 23 _ _ rfl rfl (#[.bool z.a, .bool z.p, .int .i64 z.n]) 23 _ _ rfl rfl rfl (by kernel_rfl) rfl (by kernel_rfl) ?_; refine wpList_gen1R ?_; intro W2 b2 l13; refine stay_p ?_)
    replace bel := bel.trans (b2.mono bel.size)
    replace lz := below_lies b2 lz (by omega)
    replace ly := below_lies b2 ly (by omega)
    have lt3 := lies_lt l13
    unfold stayP
    clear b2
    cases b
    · have HN : Hid (¬ ∃ X, Rel s X) := ghM_bad HGH.out HT0.out HV.out
      clear HGH HT0 ly HV
      go_wp2_with (first
        | ((with_reducible show wpList _ _ _ (⟨some 49, Op.build 25 _, _, _, _, _⟩ :: _) _ _); refine wpList_buildTo rfl 25 _ rfl _ rfl (#[.int .i64 0, .int .i64 0, .int .i64 0, .bool false, .bool false, .int .i64 0, .bool false, .bool false, .int .i64 0, .int .i64 0, .int .i64 0, .int .i64 0, .bool false, .bool false, .int .i64 0, .int .i64 0, .bool false, .bool false, .int .i64 0, .int .i64 0, .int .i64 0, .int .i64 0, .int .i64 0, .int .i64 0, .int .i64 0, .int .i64 0]) (by kernel_rfl) ?_)
        | ((with_reducible show wpList _ _ _ (⟨none, Op.store 25 _ _, _, _, _, _⟩ :: _) _ _); refine wpList_putA rfl _ _ _ rfl rfl _ _ _ _ _ _ rfl rfl lz n0 (by kernel_rfl) (by kernel_rfl) (by kernel_rfl) ?_; intro w3 p l3 n3; refine stay_p ?_))
      have b3 := p.below bel (Nat.le_refl _)
      unfold stayP
      go_wp2
      exact bodyPost_ret (v := .tuple #[.agg (#[.int .i64 0, .int .i64 0, .int .i64 0, .bool false, .bool false, .int .i64 0, .bool false, .bool false, .int .i64 0, .int .i64 0, .int .i64 0, .int .i64 0, .bool false, .bool false, .int .i64 0, .int .i64 0, .bool false, .bool false, .int .i64 0, .int .i64 0, .int .i64 0, .int .i64 0, .int .i64 0, .int .i64 0, .int .i64 0, .int .i64 0]), .bool false]) (results_row_tmp Tryz.results4 _ _ _ _ (#[.int .i64 0, .int .i64 0, .int .i64 0, .bool false, .bool false, .int .i64 0, .bool false, .bool false, .int .i64 0, .int .i64 0, .int .i64 0, .int .i64 0, .bool false, .bool false, .int .i64 0, .int .i64 0, .bool false, .bool false, .int .i64 0, .int .i64 0, .int .i64 0, .int .i64 0, .int .i64 0, .int .i64 0, .int .i64 0, .int .i64 0]) _ _ _ rfl (l3.trans (congrArg (fun c => some (Obj.cells c 25 (0, 0))) (show _ = (#[.int .i64 0, .int .i64 0, .int .i64 0, .bool false, .bool false, .int .i64 0, .bool false, .bool false, .int .i64 0, .int .i64 0, .int .i64 0, .int .i64 0, .bool false, .bool false, .int .i64 0, .int .i64 0, .bool false, .bool false, .int .i64 0, .int .i64 0, .int .i64 0, .int .i64 0, .int .i64 0, .int .i64 0, .int .i64 0, .int .i64 0] : Array Value) by kernel_rfl))) Tryz.underlying25 rfl (by kernel_rfl) rfl) rfl ⟨.inr ⟨rfl, HN.out⟩, b3⟩
    have SA := fun W => set_any Y (c_wholeOf (s_wholeOf t)) n z.n z.a z.p W
    go_wp2_with (first
      | ((with_reducible show wpList _ _ _ (⟨some 50, Op.load 25 _, _, _, _, _⟩ :: _) _ _); refine wpList_load_row rfl 25 _ rfl (w.heap.size + 1 + 1) rfl _ (#[.int .i64 Y.sh, .int .i64 Y.fl, .int .i64 Y.cl, .bool Y.w.a, .bool Y.w.p, .int .i64 Y.w.n, .bool Y.h.a, .bool Y.h.p, .int .i64 Y.h.n, .int .i64 Y.mn, .int .i64 Y.mx, .int .i64 Y.mt, .bool Y.mr.a, .bool Y.mr.p, .int .i64 Y.mr.n, .int .i64 Y.mb, .bool Y.ml.a, .bool Y.ml.p, .int .i64 Y.ml.n, .int .i64 Y.bo, .int .i64 Y.pa, .int .i64 Y.wh, .int .i64 Y.al, .int .i64 Y.lh, .int .i64 Y.ri, .int .i64 Y.dn]) _ _ ly Tryz.underlying25 rfl (by kernel_rfl) ?_)
      | ((with_reducible show wpList _ _ _ (⟨some 53, Op.load 23 _, _, _, _, _⟩ :: _) _ _); refine wpList_load_row rfl 23 _ rfl w1.heap.size rfl _ (#[.bool z.a, .bool z.p, .int .i64 z.n]) _ _ l13 Tryz.underlying23 rfl (by kernel_rfl) ?_))
    refine (SA _).mono ?_
    rintro e w4 ⟨⟨Y2, rfl, hY⟩, hb⟩
    have HN : Hid (GhM s (s_partOf t) Y2) := ghM_good HGH.out HT0.out HV.out hY
    replace bel := bel.trans (hb.mono bel.size)
    replace lz := below_lies hb lz (by omega)
    replace ly := below_lies hb ly (by omega)
    replace ltt := lies_lt ly
    clear hb hY SA HGH HV l13
    go_wp2_with ((with_reducible show wpList _ _ _ (⟨none, Op.store 25 _ _, _, _, _, _⟩ :: _) _ _); refine wpList_putA rfl _ _ _ rfl rfl _ 0 26 (setCells Y2).toList _ _ rfl rfl ly n1 (by kernel_rfl) (by kernel_rfl) (by kernel_rfl) ?_; intro w5 p l5 n5; refine stay_p ?_)
    replace bel := p.below bel (by omega)
    replace lz := p.lies lz (by omega)
    replace ly := l5.trans (congrArg (fun c => some (Obj.cells c 25 (0, 0))) (show _ = (let Y := Y2; #[.int .i64 Y.sh, .int .i64 Y.fl, .int .i64 Y.cl, .bool Y.w.a, .bool Y.w.p, .int .i64 Y.w.n, .bool Y.h.a, .bool Y.h.p, .int .i64 Y.h.n, .int .i64 Y.mn, .int .i64 Y.mx, .int .i64 Y.mt, .bool Y.mr.a, .bool Y.mr.p, .int .i64 Y.mr.n, .int .i64 Y.mb, .bool Y.ml.a, .bool Y.ml.p, .int .i64 Y.ml.n, .int .i64 Y.bo, .int .i64 Y.pa, .int .i64 Y.wh, .int .i64 Y.al, .int .i64 Y.lh, .int .i64 Y.ri, .int .i64 Y.dn] : Array Value) by kernel_rfl))
    unfold stayP
    have hls := HL.out
    go_wp2
    go_roundw
    case rel => exact ⟨s_partOf t, Y2, rfl, by omega, HN.out, lz, ly, bel⟩
    case measure => exact HL.out
end Go.Proofs.YtdgagjnkbmckoaaGreatDoor
