/-
  Contract of DrawAdvanceOf: some font and some text of at most 401 letters, and all older memory left alone, for every byte slice of at most 1048576 bytes.
-/
import Derived.Test.YtllkbokkhdomoaaRDoorDrawLine
import Derived.Test.YtllkbokkhdomoaaRDoorRowInts
import Derived.Laws.IdiomStrings
namespace Go.Proofs.YtllkbokkhdomoaaRDoor
open Go.ChangeShapes Go.WideShapes Go.ChangeAt Go.RowKit
set_option linter.unusedVariables false

theorem Tryd.infoU8 : (Tryd.prog.info? 5).map (fun i => (i.zero, i.size, i.bytes)) = some (some (.int .u8 0), 1, 1) := by kernel_rfl
/-- The first k cells of a row hold the letter a. -/
def FilledA (xs : List Value) (k : Nat) : Prop := ∀ j, j < k → xs[j]? = some (.int .u8 97)
theorem filledA_set {xs : List Value} {k : Nat} (h : FilledA xs k) (hk : k < xs.length) : FilledA (xs.set k (.int .u8 97)) (k + 1) := by
  intro j hj
  rw [List.getElem?_set]
  by_cases e : k = j
  · subst e; rw [if_pos rfl, if_pos hk]
  · rw [if_neg e]; exact h j (by omega)
theorem conv_as (n g : Nat) (W : World) (hc : ∀ j, j < n → W.cell? ⟨g, j, none⟩ = some (.int .u8 97)) :
    (convert 22 9 (.slice (some ⟨g, 0, none⟩) n n)).run Tryd.prog W = .ok (.string ⟨(List.replicate n (97 : UInt8)).toArray⟩) W := by
  have := run_convert_bytes_back W 22 9 5 ⟨g, 0, none⟩ n (List.replicate n (97 : UInt8)) Tryd.underlying22 Tryd.underlying5 Tryd.underlying9 (fun j hj => by
    have hj' : j < n := by simpa using hj
    have e : (List.replicate n (97 : UInt8))[j] = 97 := by simp
    rw [e]
    have := hc j hj'
    by_cases h0 : j = 0
    · subst h0; simpa [Addr.add] using this
    · simpa [Addr.add, h0] using this)
  simpa using this
theorem three_texts : ∀ z ∈ ([⟨#[10]⟩, ⟨#[195, 169]⟩, ⟨#[127]⟩] : List ByteArray), z.size ≤ 10 := by decide

set_option maxHeartbeats 4000000 in
theorem drawAdv_any (a : Option Addr) (len cap : Nat) (w : World) (hl : len ≤ 1048576) (h : RowB w a len) :
    Calls Tryd.prog 15 #[.slice a len cap] w fun e w' => ∃ (fa fd fn fu fb : Int) (s : ByteArray), e = .returned (.tuple #[.agg #[.int .i64 fa, .int .i64 fd, .int .i64 fn, .int .i64 fu, .int .i64 fb], .string s]) ∧ s.size ≤ 1000 ∧ Below w.heap.size w w' := by
  have hC0 := cur_two w (.cells #[.int .i64 0, .int .i64 0, .int .i64 0, .int .i64 0, .int .i64 0] 24) a len cap hl h
  have R0 := (fontAt_new w 0 0 0 0 0).below ((Below.refl _ _).alloc (Nat.le_refl _) (.cells #[.slice a len cap, .int .i64 0, .int .u64 0] 44))
  obtain ⟨i0, hi, hz0, hz1, hz2⟩ := info_parts Tryd.infoU8
  clear h
  go_enter Tryd.func15, Tryd.ntmps15
  go_wp2_with fail
  refine (plain_any (w.heap.size + 1) len cap 0 a _ (by omega) hC0).mono ?_
  rintro e w1 ⟨s, rfl, hs, hC1, hg1⟩
  go_wp2_with fail
  refine (pick_any (w.heap.size + 1) len cap (0 + 20) a 30 _ (by omega) hC1 (by omega) (by omega)).mono ?_
  rintro e w2 ⟨x, rfl, x0, x1, hC2, hg2⟩
  have G2 := grown_trans hg1 hg2
  have R2 := R0.grown G2 (by omega)
  have hlt2 := hC2.lt
  clear hC1 hg1 hg2 R0
  have hx : x = 0 ∨ x = 1 ∨ 2 ≤ x := by omega
  rcases hx with rfl | rfl | hx
  · have hbl := (Below.refl w2.heap.size w2).alloc (Nat.le_refl _) (.cells (([⟨#[10]⟩, ⟨#[195, 169]⟩, ⟨#[127]⟩] : List ByteArray).map Value.string).toArray 9)
    have OF := of_any (w.heap.size + 1) len cap (0 + 20 + 2) w2.heap.size 3 3 a _ (by omega) (hC2.grown hbl) (by omega) (by omega) (by omega) (texts_new w2 [⟨#[10]⟩, ⟨#[195, 169]⟩, ⟨#[127]⟩] three_texts)
    have G2' := grown_alloc G2 (.cells (([⟨#[10]⟩, ⟨#[195, 169]⟩, ⟨#[127]⟩] : List ByteArray).map Value.string).toArray 9)
    have R2' := R2.below hbl
    simp only [List.map_cons, List.map_nil] at OF G2' R2'
    clear hbl hC2 G2 R2 hC0
    go_wp2_with fail
    refine OF.mono ?_
    rintro e w3 ⟨t, rfl, ht, hC3, hg3⟩
    have hst : (s ++ t).size = s.size + t.size := ByteArray.size_append
    have HS : Hid ((s ++ t).size ≤ 1000) := by show _ ≤ _; omega
    have hsum : s.size + t.size ≤ 70 := by omega
    have G3 := grown_trans G2' hg3
    have R3 := R2'.grown hg3 (by omega)
    clear OF hst G2' R2' hg3
    go_wp2_with fail
    refine (font_any (w.heap.size + 1) len cap (0 + 20 + 2 + 2) a _ (by omega) hC3).mono ?_
    rintro e w4 ⟨fa, fd, fn, fu, fb, rfl, hC4, hg4⟩
    have hb4 := below_two (grown_trans G3 hg4)
    obtain ⟨r0, r1, r2, r3, r4, r5, r6, r7, r8, r9, r10⟩ := R3.grown hg4 (by omega)
    clear hC4 hC3 G3 hg4 R3
    go_wp2
    refine bodyPost_ret (v := .tuple #[.agg #[.int .i64 fa, .int .i64 fd, .int .i64 fn, .int .i64 fu, .int .i64 fb], .string (s ++ t)]) (by simp [results, Tryd.results15, go_sem, *]) rfl ⟨_, _, _, _, _, _, rfl, HS.out, ?_⟩
    repeat (refine Below.setCell ?_ (by first | (simp; done) | (simp; omega)) _)
    exact hb4
  · go_wp2_with fail
    refine (pick_any (w.heap.size + 1) len cap (0 + 20 + 2) a 2 _ (by omega) hC2 (by omega) (by omega)).mono ?_
    rintro e w3 ⟨y, rfl, y0, y1, hC3, hg3⟩
    have G3 := grown_trans G2 hg3
    have R3 := R2.grown hg3 (by omega)
    have hb3 := below_two G3
    have hlt3 := hC3.lt
    clear hC2 G2 hg3 R2
    obtain ⟨n, hn⟩ : ∃ n : Nat, 400 + y = (n : Int) := ⟨(400 + y).toNat, by omega⟩
    have hn1 : n ≤ 401 := by omega
    go_wp2_with (at_make; refine wpList_make_full _ rfl (.tmp 26) (.tmp 26) 22 rfl w3.heap.size 5 i0 (.int .u8 0) 1 Tryd.underlying22 hi hz0 hz1 .i64 .i64 n n n rfl rfl rfl rfl (by rw [hz2]; omega) (by unfold maxLen; omega) (Nat.le_refl _) ?_; intro w4 hown4 hgrow4)
    have hs4 := hgrow4.size
    have hb4 := hb3.grown hgrow4 (by omega) (by intro j hj; cases hj)
    have R4 := R3.same (hgrow4.block _ (by omega) (by simp)) hgrow4.size
    have hC4 := hC0.same hC3 (fun k hk => hgrow4.block k (by simp at hk; omega) (by simp))
    have hg4 := own_lt hown4
    clear hgrow4 hb3 R3 hC3 G3 hn
    go_loopw [30] (fun i wr => ∃ k : Nat, k ≤ n ∧ i = .int .i64 k ∧ (∃ xs : List Value, wr.ownsRow w3.heap.size 5 1 (.slice (some ⟨w3.heap.size, 0, none⟩) n n) n xs ∧ FilledA xs k) ∧ FontAt wr w.heap.size 0 0 0 0 0 ∧ CurOk wr (w.heap.size + 1) a len cap (0 + 20 + 2 + 2) ∧ Below w.heap.size w wr) (fun i _ => n - (intOf i).toNat)
    case atStart => exact ⟨0, Nat.zero_le _, rfl, ⟨_, hown4, fun j hj => absurd hj (by omega)⟩, R4, hC4, hb4⟩
    case round =>
      obtain ⟨k, hk, rfl, ⟨xs, hown, hfil⟩, hR, hCr, hbw⟩ := hrel
      clear hown4 hb4 R4 hC4 hg4
      have hlen : xs.length = n := by simpa using hown.1
      by_cases hlt : k < n
      · have hfz := hown.frozenAt k
        obtain ⟨old, hold⟩ : ∃ old, wr.cell? ⟨w3.heap.size, k, none⟩ = some old := ⟨_, (hown.cellAt k (by omega)).trans (List.getElem?_eq_getElem (by omega))⟩
        have hst := hown.stored k (.int .u8 97)
        have S1 := filledA_set hfil (by omega)
        have S2 := hR.same (Below.heap_setCell wr ⟨w3.heap.size, k, none⟩ (.int .u8 97) w.heap.size (by simp; omega)) (by simp)
        have S3 := hC0.same hCr (w2 := wr.setCell ⟨w3.heap.size, k, none⟩ (.int .u8 97)) (fun j hj => Below.heap_setCell wr ⟨w3.heap.size, k, none⟩ (.int .u8 97) j (by simp at hj ⊢; omega))
        have S4 := hbw.setCell (p := ⟨w3.heap.size, k, none⟩) (by simp; omega) (.int .u8 97)
        clear hown hfil hR hCr hbw hlen hC0
        go_wp2
        go_roundw
        case rel => exact ⟨k + 1, by omega, by go_num, ⟨_, hst.1, S1⟩, S2, S3, S4⟩
        case measure => simp [intOf]; omega
      · have ek : k = n := by omega
        subst ek
        have hcv := conv_as k w3.heap.size wr (fun j hj => (hown.cellAt j (by omega)).trans (hfil j hj))
        have HS : Hid ((⟨(List.replicate k (97 : UInt8)).toArray⟩ : ByteArray).size ≤ 1000) := by show (List.replicate k (97 : UInt8)).toArray.size ≤ 1000; simp; omega
        generalize (⟨(List.replicate k (97 : UInt8)).toArray⟩ : ByteArray) = t at hcv HS
        clear hown hfil hlen hC0
        go_wp2_with fail
        refine (font_any (w.heap.size + 1) len cap (0 + 20 + 2 + 2) a _ (by omega) hCr).mono ?_
        rintro e w5 ⟨fa, fd, fn, fu, fb, rfl, hC5, hg5⟩
        have hb5 := hbw.grown hg5 (by have := hbw.size; omega) (fun j hj => by cases hj; omega)
        obtain ⟨r0, r1, r2, r3, r4, r5, r6, r7, r8, r9, r10⟩ := hR.grown hg5 (by omega)
        clear hC5 hCr hg5 hR hcv
        go_wp2
        refine bodyPost_ret (v := .tuple #[.agg #[.int .i64 fa, .int .i64 fd, .int .i64 fn, .int .i64 fu, .int .i64 fb], .string t]) (by simp [results, Tryd.results15, go_sem, *]) rfl ⟨_, _, _, _, _, _, rfl, HS.out, ?_⟩
        repeat (refine Below.setCell ?_ (by first | (simp; done) | (simp; omega)) _)
        exact hb5
  · go_wp2_with fail
    refine (font_any (w.heap.size + 1) len cap (0 + 20 + 2) a _ (by omega) hC2).mono ?_
    rintro e w4 ⟨fa, fd, fn, fu, fb, rfl, hC4, hg4⟩
    have hb4 := below_two (grown_trans G2 hg4)
    obtain ⟨r0, r1, r2, r3, r4, r5, r6, r7, r8, r9, r10⟩ := R2.grown hg4 (by omega)
    clear hC4 hC2 G2 hg4 R2 hC0
    have HS : Hid (s.size ≤ 1000) := by show _ ≤ _; omega
    go_wp2
    refine bodyPost_ret (v := .tuple #[.agg #[.int .i64 fa, .int .i64 fd, .int .i64 fn, .int .i64 fu, .int .i64 fb], .string s]) (by simp [results, Tryd.results15, go_sem, *]) rfl ⟨_, _, _, _, _, _, rfl, HS.out, ?_⟩
    repeat (refine Below.setCell ?_ (by first | (simp; done) | (simp; omega)) _)
    exact hb4
end Go.Proofs.YtllkbokkhdomoaaRDoor
