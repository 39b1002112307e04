/-
  Contract of the program's WidestLine: it answers as its model, where its table of letters holds what the program lays in it.
-/
import Derived.Test.YtllkbokkhdomoabDoorRRWideE
namespace Go.Proofs.YtllkbokkhdomoabDoorRR
open Go.ChangeShapes Go.WideShapes Go.ChangeAt Go.RowKit
set_option linter.unusedVariables false

/-- Each line of a kept text has its line break at its end alone. -/
theorem endsF_line (s : ByteArray) (hT : textB false s = true) (j : Nat) (hj : j < (endsF s).length) : lineOk (lineOf s (endsF s) j) := by
  have hB := placesN_between (tenB s) s.size
  have hE := endsF_ok s j hj
  have key : ∀ i, prevE (endsF s) j < i → i < (endsF s).getD j 0 → tenB s i = false := by
    unfold endsF at hj ⊢
    generalize placesN (tenB s) s.size = E at hB hj
    obtain ⟨h1, h2, h3⟩ := hB
    rw [prevE_lo E s.size j (by simp at hj; omega)]
    by_cases e : j = E.length
    · subst e; rw [getD_snoc_hi]; exact fun i a b => h2 i a (by omega)
    · have hj' : j < E.length := by simp at hj; omega
      rw [getD_snoc_lo E s.size j hj']
      exact (h1 j hj').2.2
  unfold lineOf
  generalize prevE (endsF s) j = a at hE key
  generalize (endsF s).getD j 0 = b at hE key
  have hsz : (s.extract a b).size = b - a := by rw [ByteArray.size_extract]; omega
  intro i hi
  have e : (s.extract a b)[i] = s[a + i] := by rw [ByteArray.getElem_extract]
  rw [e]
  have hok := okZ_yes (textB_at hT (a + i) (by omega))
  rcases hok with h | h | h
  · exact .inl h
  · by_cases g : i + 1 = b - a
    · exact .inr ⟨h, by rw [hsz]; exact g⟩
    · have := key (a + i + 1) (by omega) (by omega)
      rw [tenB_yes (by omega) h] at this
      cases this
  · exact absurd h.1 (by decide)
theorem wl_same {fa fd fn fu fb : Int} (s : ByteArray) (hF : fontB fa fd fn fu fb = true) (hT : textB false s = true) (h2 : s.size ≤ 200) :
    widestK (fun x => advN fa fd fn fu fb (bareS x)) s (endsF s) (endsF s).length = widestK (Wd fn fu fb) s (endsF s) (endsF s).length := by
  apply widestK_same
  intro j hj
  have hl := lineOk_plain (endsF_line s hT j hj)
  have h4 : (bareS (lineOf s (endsF s) j)).size ≤ 400 := by
    have h1 := bare_size (lineOf s (endsF s) j)
    have h2 := lineOf_size s (endsF s) j
    omega
  have hB : advB fa fd fn fu fb (bareS (lineOf s (endsF s) j)) = true := by simp [advB, hF, hl, h4]
  simp [advN, hB, Wd]

set_option maxRecDepth 100000 in
set_option maxHeartbeats 8000000 in
theorem implWidestLine_any (fa fd fn fu fb : Int) (s : ByteArray) (w : World) (hs : s.size ≤ maxLen) (hK : Kinds w) :
    Calls Tryd.prog 6 #[.agg #[.int .i64 fa, .int .i64 fd, .int .i64 fn, .int .i64 fu, .int .i64 fb], .string s] w fun e w' => e = .returned (.tuple #[.int .i64 (wlN fa fd fn fu fb s), .bool (wlB fa fd fn fu fb s)]) ∧ Below w.heap.size w w' := by
  have hBk := box_new w fa fd fn fu fb
  have FI := fun w => implForced_any s w hs
  have hs' := hs
  unfold maxLen at hs
  cases hT : okB false s
  · have HV : Hid (_ = _) := wl_no (fa := fa) (fd := fd) (fn := fn) (fu := fu) (fb := fb) (s := s) (by simp [wlB, hT])
    rw [hT] at FI
    go_enter Tryd.func6, Tryd.ntmps6
    go_wp2_with (go_at_call 10; refine (FI _).mono ?_; rintro e w1 ⟨v1, rfl, ho, hb1⟩)
    go_ret2
    exact ⟨congrArg Ending.returned HV.out, ((Below.refl _ _).alloc (Nat.le_refl _) _).trans (hb1.mono (by simp))⟩
  cases hF : fontB fa fd fn fu fb
  · have HV : Hid (_ = _) := wl_no (fa := fa) (fd := fd) (fn := fn) (fu := fu) (fb := fb) (s := s) (by simp [wlB, hF])
    rw [hT] at FI
    go_enter Tryd.func6, Tryd.ntmps6
    go_wp2_with (first | (go_at_call 10; refine (FI _).mono ?_; rintro e w1 ⟨v1, rfl, ho, hb1⟩; have hc := fun o => hb1.cell (p := ⟨w.heap.size, o, none⟩) (by simp)) | (go_at_call 11; refine (implGood_any _ _ _ _ _ _).mono ?_; rintro e w2 ⟨rfl, hb2⟩))
    go_ret2
    exact ⟨congrArg Ending.returned HV.out, (((Below.refl _ _).alloc (Nat.le_refl _) _).trans (hb1.mono (by simp))).trans (hb2.mono (by have := hb1.size; simp at this; omega))⟩
  have HV : Hid (_ = _) := wl_yes (fa := fa) (fd := fd) (fn := fn) (fu := fu) (fb := fb) (s := s) (by simp [wlB, hF, hT])
  have h200 := (okB_yes hT).1
  have HF : Hid (forcedL s = placesL (tenB s) s.size) := by show _ = _; simp [forcedL, hT]
  have hsame := wl_same s hF (okB_yes hT).2 h200
  obtain ⟨i0, hi, hz0, hz1, hz2⟩ := info_parts Tryd.infoInt
  have hel : (endsF s).length = (placesL (tenB s) s.size).length + 1 := by
    have := congrArg List.length (endsF_ints s)
    simpa [intsN] using this
  have hll := placesL_len (tenB s) s.size
  have WD : ∀ (Be Bs b cap : Nat) (W : World), b < W.heap.size → Bs < W.heap.size → Be < W.heap.size → W.cell? ⟨Be, 0, none⟩ = some (.slice (some ⟨b, 0, none⟩) ((placesL (tenB s) s.size).length + 1) cap) → W.cell? ⟨Bs, 0, none⟩ = some (.string s) → Row W (some ⟨b, 0, none⟩) (placesL (tenB s) s.size ++ [(s.size : Int)]) → Below w.heap.size w W →
      Calls Tryd.prog 12 #[.agg #[.int .i64 fa, .int .i64 fd, .int .i64 fn, .int .i64 fu, .int .i64 fb], .func (.func 20) #[] #[.pointer (some ⟨Be, 0, none⟩), .pointer (some ⟨Bs, 0, none⟩)]] W fun e w' => e = .returned (.int .i64 (widestK (Wd fn fu fb) s (endsF s) (endsF s).length)) ∧ Below W.heap.size W w' := fun Be Bs b cap W h1 h2 h3 h4 h5 h6 h7 => by
    rw [← hsame]
    refine widest_any fa fd fn fu fb Be Bs b 0 (endsF s).length cap s hs' h200 (endsF s) (endsF_ok s) rfl (by have := endsF_len s; omega) W h1 h2 h3 (by rw [hel]; exact h4) h5 (fun j hj => ?_) (hK.below h7)
    rcases h6 with h6 | ⟨b', off', e, hc⟩
    · exact absurd h6 (by simp)
    · have e1 : b = b' ∧ 0 = off' := by
        injection e with e2
        injection e2 with e3 e4
        exact ⟨e3, e4⟩
      obtain ⟨rfl, rfl⟩ := e1
      rw [← endsF_ints] at hc
      rw [hc j (by simpa [intsN] using hj), intsN_at]
  rw [HF.out, hT] at FI
  generalize widestK (Wd fn fu fb) s (endsF s) (endsF s).length = r at WD HV
  clear hsame hel HF hK hT
  generalize placesL (tenB s) s.size = zs at FI WD hll
  have hz : zs.length ≤ 200 := by omega
  have rowO : ∀ {B : Nat} {W : World} {g cap : Nat}, W.ownsRow B 3 1 (.slice (some ⟨g, 0, none⟩) (zs.length + 1) cap) (zs.length + 1) (zs.map (Value.int .i64) ++ [.int .i64 s.size]) → Row W (some ⟨g, 0, none⟩) (zs ++ [(s.size : Int)]) := fun {B W g cap} h => by
    obtain ⟨a, c, h1, h2⟩ := (OwnI.snoc (z := (s.size : Int)) rfl h).row
    have h3 : some ⟨g, 0, none⟩ = a := by injection h1
    rw [h3]
    exact h2
  clear hll
  go_enter Tryd.func6, Tryd.ntmps6
  go_wp2_with (first | (go_at_call 10; refine (FI _).mono ?_; rintro e w1 ⟨v1, rfl, ho, hb1⟩; have hc := fun o => hb1.cell (p := ⟨w.heap.size, o, none⟩) (by simp)) | (go_at_call 11; refine (implGood_any _ _ _ _ _ _).mono ?_; rintro e w2 ⟨rfl, hb2⟩))
  have hx2 : BoxAt w2 w.heap.size fa fd fn fu fb := (hBk.below hb1).below hb2
  have ho2 := ho.keep hb2
  have hbase : w.heap.size + 1 ≤ w1.heap.size := by have := hb1.size; simpa using this
  have hob : ∀ k, v1.ownBlock = some k → w.heap.size + 1 ≤ k := fun k hk => by have := ho.base k hk; simpa using this
  have bw2 : Below w.heap.size w w2 := (((Below.refl _ _).alloc (Nat.le_refl _) _).trans (hb1.mono (by simp))).trans (hb2.mono (by have := hb1.size; simp at this; omega))
  have hs2 := bw2.size
  have hs21 := hb2.size
  have ho2' : w2.ownsRow (w.heap.size + 1) 3 1 v1 zs.length (zs.map (Value.int .i64)) := own_lower ho2 (by simp)
  obtain ⟨c0, c1, c2, c3, c4⟩ := hx2.2
  clear hc hb1 hb2 ho
  go_region_held3 (fun w' => w'.cell? ⟨w.heap.size, 0, none⟩ = some (.int .i64 fa) ∧ w'.cell? ⟨w.heap.size, 1, none⟩ = some (.int .i64 fd) ∧ w'.cell? ⟨w.heap.size, 2, none⟩ = some (.int .i64 fn) ∧ w'.cell? ⟨w.heap.size, 3, none⟩ = some (.int .i64 fu) ∧ w'.cell? ⟨w.heap.size, 4, none⟩ = some (.int .i64 fb))
    (first | go_keep | exact hx5.2 | exact hx4.2 | exact hx3.2)
    ((first
      | (refine step_append_lies _ (by rfl) _ _ _ (by rfl) (w.heap.size + 1) 3 i0 _ 1 8 Tryd.underlying32 hi hz0 hz1 hz2 rfl (by omega) v1 zs.length (zs.map (Value.int .i64)) (by rfl) ((World.ownsRow.alloc ho2' _).drew) ⟨w2.heap.size, 0, none⟩ 1 1 [.int .i64 s.size] (by rfl) (by rfl) (news_one (by simp)) (one_i64 _) (by omega) (by unfold maxLen; omega) (by omega) (by simp; omega) _ rfl ?_; intro g cap w3 hown3 hgrow3 hat hlt; have hx3 : BoxAt w3 w.heap.size fa fd fn fu fb := (hx2.below ((Below.refl _ _).alloc (Nat.le_refl _) _)).grown ⟨hgrow3.os, hgrow3.tape, hgrow3.output, hgrow3.size, hgrow3.block⟩ (fun e => by have := hob _ e; omega))
      | (go_at_call 13; refine (stretches_any _ _ _ _ _).mono ?_; rintro e w4 ⟨rfl, hb4, hz4, d4, e4⟩; have hb4' : Below w3.heap.size w3 w4 := ⟨hb4.os, hb4.tape, hb4.output, hb4.size, hb4.block⟩; have hx4 : BoxAt w4 w.heap.size fa fd fn fu fb := hx3.below hb4'; have bw3 : Below w.heap.size w w3 := Below.grown (w := w2.alloc (.cells #[.int .i64 s.size] 3)) (bw2.alloc bw2.size _) ⟨hgrow3.os, hgrow3.tape, hgrow3.output, hgrow3.size, hgrow3.block⟩ (by simp; omega) (fun k hk => by have := hob k hk; omega); have bw4 := bw3.trans (hb4'.mono bw3.size); have hrow := (rowO hown3).below hb4'; have hz4' : w3.heap.size + 2 ≤ w4.heap.size := hz4)
      | (go_at_call 12; refine (WD (w3.heap.size + 1) w3.heap.size g cap _ (by show g < w4.heap.size; omega) (by show w3.heap.size < w4.heap.size; omega) (by show w3.heap.size + 1 < w4.heap.size; omega) e4 d4 hrow bw4).mono ?_; rintro e w5 ⟨rfl, hb5⟩; have hx5 : BoxAt w5 w.heap.size fa fd fn fu fb := hx4.below ⟨hb5.os, hb5.tape, hb5.output, hb5.size, hb5.block⟩)
      | fail))
  all_goals
    have bw5 := bw4.trans (Below.mono (B := w4.heap.size) ⟨hb5.os, hb5.tape, hb5.output, hb5.size, hb5.block⟩ bw4.size)
    clear hb5 hb4 hb4' hgrow3 hown3 hrow bw4 bw3 hx3 hx4 hx5 WD FI
    go_wp2
    go_ret2
    exact ⟨congrArg Ending.returned HV.out, bw5⟩
end Go.Proofs.YtllkbokkhdomoabDoorRR
