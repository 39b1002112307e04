/-
  The law FnLengths returns true and leaves all older memory alone, for every two byte slices that can be read, where the tables lie as they are laid.
-/
import Derived.Test.YtijondjiehoafaaDoorDraw2
import Derived.Test.YtijondjiehoafaaDoorJoinTop
import Derived.Test.YtijondjiehoafaaDoorTextTop
import Derived.Test.YtijondjiehoafaaDoorRead5
import Derived.Test.YtijondjiehoafaaDoorPct
import Derived.Test.YtijondjiehoafaaDoorRound2
import Derived.Test.YtijondjiehoafaaDoorLaid
namespace Go.Proofs.YtijondjiehoafaaDoor
open Go.ChangeShapes Go.WideShapes Go.ChangeAt Go.RowKit
set_option linter.unusedVariables false

theorem Quarters.below {w w' : World} (h : Quarters w) (hb : Below w.heap.size w w') : Quarters w' :=
  ⟨Nat.lt_of_lt_of_le h.1 hb.size, fun j hj => (hb.cell (cell_lt' (h.2 j hj))).trans (h.2 j hj)⟩
theorem pow_below {w w' : World} (h : Lib.TabIs Tryd.prog w "internal/strconv.uint64pow10" .u64 Lib.pow10Tab) (hb : Below w.heap.size w w') : Lib.TabIs Tryd.prog w' "internal/strconv.uint64pow10" .u64 Lib.pow10Tab :=
  var?_below hb gPow (cell_lt' (h.cell gPow 0 (by decide))) h
theorem below_step {w w1 w2 : World} (h : Below w.heap.size w w1) (k : Below w1.heap.size w1 w2) : Below w.heap.size w w2 := h.trans (k.mono h.size)
theorem quarter_size (j : Nat) : (quarter j).size ≤ 3 := by
  unfold quarter
  split <;> decide
theorem pix_size (n : Int) : (pixText n).size ≤ 1048576 := by
  unfold pixText
  split
  · rename_i h
    have g := of_decide_eq_true h
    have h1 := num_size (n.natAbs / 64) (by omega)
    have h2 := quarter_size (n.natAbs % 64 / 16)
    have h3 : (signText n).size ≤ 1 := by unfold signText; split <;> decide
    rw [ByteArray.size_append, ByteArray.size_append, ByteArray.size_append]
    have h4 : (⟨#[112, 120]⟩ : ByteArray).size = 2 := rfl
    omega
  · decide
theorem take_rev (zs : List Int) (k : Nat) (hk : k < zs.length) : ∃ z, zs.getD (zs.length - 1 - k) 0 = z ∧ zs.reverse.take (k + 1) = zs.reverse.take k ++ [z] := by
  refine ⟨_, rfl, ?_⟩
  rw [List.take_succ_eq_append_getElem (by simpa using hk), List.getElem_reverse, List.getD_eq_getElem?_getD, List.getElem?_eq_getElem (by omega)]
  rfl
theorem own_base {w : World} {B n : Nat} {v : Value} {xs : List Value} (h : w.ownsRow B 3 1 v n xs) (k : Nat) (hk : v.ownBlock = some k) : B ≤ k := by
  rcases h.2 with ⟨rfl, _⟩ | ⟨g, cap, cur, rfl, hb, _⟩
  · cases hk
  · have : g = k := Option.some.inj hk
    omega
theorem read_back (n : Int) (w : World) (h : pixB n = true) :
    Calls Tryd.prog 21 #[.string (pixText n)] w fun e w' => e = .returned (.tuple #[.int .i64 n, .bool true]) ∧ Below w.heap.size w w' := by
  obtain ⟨e1, e2⟩ := comes_back n h
  have R := impl_read (pixText n) w (pix_size n)
  rw [e1, e2] at R
  exact R.mono fun e w' k => ⟨k.1, by obtain ⟨q, rfl⟩ := k.2; exact below_drewN (Below.refl _ _) q⟩

set_option maxHeartbeats 8000000 in
set_option maxRecDepth 100000 in
theorem lengths_small (a0 a1 : Option Addr) (len0 cap0 len1 cap1 : Nat) (w : World) (h0 : RowB w a0 len0) (h1 : RowB w a1 len1) (hl : len0 + len1 ≤ 1048576) (hQ : Quarters w) (htab : Lib.TabIs Tryd.prog w "internal/strconv.uint64pow10" .u64 Lib.pow10Tab) :
    Calls Tryd.prog 7 #[.slice a0 len0 cap0, .slice a1 len1 cap1] w fun e w' => e = .returned (.bool true) ∧ Below w.heap.size w w' := by
  have D1 := drawPixels_any a0 len0 cap0 w (by omega) h0
  have T1 := fun (w1 : World) (hb : Below w.heap.size w w1) (n : Int) => implText_any n w1 (hQ.below hb) (pow_below htab hb)
  have D2 := fun (w1 : World) (hb : Below w.heap.size w w1) => drawJoin_any a1 len1 cap1 w1 (by omega) (h1.below hb)
  have D3 := fun (w1 : World) (hb : Below w.heap.size w w1) => drawPercent_any a1 len1 cap1 w1 (by omega) (h1.below hb)
  obtain ⟨i0, hi, hz0, hz1, hz2⟩ := info_parts Tryd.infoInt
  clear h0 h1 hQ htab
  go_enter Tryd.func7, Tryd.ntmps7
  go_wp2_with fail
  refine D1.mono ?_
  rintro e w1 ⟨n, rfl, b1⟩
  clear D1
  go_wp2_with fail
  refine (T1 _ b1 n).mono ?_
  rintro e w2 ⟨rfl, b2'⟩
  have b2 := below_step b1 b2'
  clear b1 b2' T1
  go_wp2_with fail
  refine (specText_any n _).mono ?_
  rintro e w3 ⟨rfl, b3'⟩
  have b3 := below_step b2 b3'
  clear b2 b3'
  have RB := fun w => read_back n w
  generalize pixText n = t at RB ⊢
  generalize pixB n = b at RB ⊢
  cases b with
  | false =>
    clear RB
    go_wp2_with fail
    refine (D2 _ b3).mono ?_
    rintro e w5 ⟨zs, a', cap', rfl, hz41, hrl, b5'⟩
    have b5 := below_step b3 b5'
    clear b3 b5' D2
    have I1 := fun (w' : World) (h : Row w' a' zs) => implJoin a' cap' zs w' h (by omega)
    have S1 := fun (w' : World) (h : Row w' a' zs) => specJoin a' cap' zs w' h (by omega)
    have I2' := fun (w' : World) (a'' : Option Addr) (cap'' : Nat) (h : Row w' a'' zs.reverse) => implJoin a'' cap'' zs.reverse w' h (by simp; omega)
    simp only [joinN_back, joinB_back, List.length_reverse] at I2'
    generalize joinN zs = jn at I1 S1 I2'
    generalize joinB zs = jb at I1 S1 I2'
    rcases hrl with hz | ⟨g, off, ha, hc⟩
    · subst hz
      have hrl : Row w5 a' [] := .inl rfl
      have hrb : Row w5 none [] := .inl rfl
      have I2 := fun (w' : World) (h : Row w' none []) => I2' w' none 0 h
      clear I2'
      simp only [List.length_nil] at I1 S1 I2 ⊢
      go_wp2_with fail
      refine wp_loop_rounds 1 ?_
      rw [rounds_succ]
      go_wp2_with fail
      refine (I1 _ hrl).mono ?_
      rintro e w6 ⟨rfl, b6'⟩
      have hrl6 := hrl.below b6'
      have hrb6 := hrb.below b6'
      have b6 := below_step b5 b6'
      clear b5 b6' hrl hrb
      go_wp2_with fail
      refine (I2 _ hrb6).mono ?_
      rintro e w7 ⟨rfl, b7'⟩
      have hrl7 := hrl6.below b7'
      have b7 := below_step b6 b7'
      clear b6 b7' hrl6 hrb6
      go_wp2_with fail
      refine (S1 _ hrl7).mono ?_
      rintro e w8 ⟨rfl, rfl⟩
      clear hrl7 I1 I2 S1
      go_wp2_with fail
      refine (D3 _ b7).mono ?_
      rintro e w9 ⟨u, v, rfl, b9'⟩
      have b9 := below_step b7 b9'
      clear b7 b9' D3
      go_wp2_with fail
      refine (impl_pct u v _).mono ?_
      rintro e w10 ⟨rfl, rfl⟩
      unfold pct
      go_wp2_with fail
      refine (spec_pct u v _).mono ?_
      rintro e w11 ⟨rfl, rfl⟩
      unfold pct
      have hbd := fun h => pct_bd (a := u) (p := v) h
      have hmo := fun h0 h1 h2 => pct_mono (a := u) (p := v) h0 h1 h2
      have IP := fun w => impl_pct u (v + 1) w
      unfold pct at IP
      generalize pctN u v = x at hmo ⊢
      generalize pctB u v = p1 at hmo hbd ⊢
      generalize pctN u (v + 1) = y at hmo IP
      generalize pctB u (v + 1) = p2 at hmo IP
      cases p1 with
      | false =>
        clear IP hmo hbd
        go_wp2
        go_ret
        exact ⟨rfl, b9⟩
      | true =>
        obtain ⟨v0, v1⟩ := hbd rfl
        clear hbd
        by_cases hu : u < 0
        · clear IP hmo
          go_wp2
          go_ret
          exact ⟨rfl, b9⟩
        · by_cases hv : v = 100000
          · have hv' : (v == 100000) = true := by simp [hv]
            clear IP hmo hv
            go_wp2
            go_ret
            exact ⟨rfl, b9⟩
          · have hv' : (v == 100000) = false := by simp [hv]
            have hv2 : v + 1 ≤ 100000 := by omega
            cases p2 with
            | false =>
              clear hmo hv
              go_wp2_with (go_at_call 26; refine (IP _).mono ?_; rintro e w12 ⟨rfl, rfl⟩)
              go_ret
              exact ⟨rfl, b9⟩
            | true =>
              have hxy := hmo (by omega) rfl rfl
              clear hmo hv
              go_wp2_with (go_at_call 26; refine (IP _).mono ?_; rintro e w12 ⟨rfl, rfl⟩)
              go_ret
              exact ⟨by first | rfl | simp, b9⟩
    · subst ha
      have hrl : Row w5 (some ⟨g, off, none⟩) zs := .inr ⟨g, off, rfl, hc⟩
      obtain ⟨n5, hn5⟩ : ∃ n5, n5 = zs.length := ⟨_, rfl⟩
      have hrev := fun k (hk : k < zs.length) => take_rev zs k hk
      have hown0 := World.ownsRow_nil w5 w5.heap.size 3 1
      rw [← hn5] at I1 S1 I2' hc hz41 hrev ⊢
      have HN5 : Hid (n5 = zs.length) := hn5
      clear hn5
      go_wp2_with fail
      go_loopw [13, 72] (fun l i wr => ∃ k : Nat, k ≤ n5 ∧ i = .int .i64 k ∧ wr.ownsRow w5.heap.size 3 1 l (zs.reverse.take k).length ((zs.reverse.take k).map (Value.int .i64)) ∧ Below w5.heap.size w5 wr) (fun _ i _ => n5 - (intOf i).toNat)
      case atStart => exact ⟨0, Nat.zero_le _, rfl, hown0, Below.refl _ _⟩
      case round =>
        obtain ⟨k, hk, rfl, hown, hbw⟩ := hrel
        by_cases hlt : k < n5
        · have hlen : (zs.reverse.take k).length = k := by have := HN5.out; simp; omega
          obtain ⟨z, hcz, hrz⟩ := hrev k hlt
          have hcx : wr.cell? ⟨g, off + (n5 - 1 - k), none⟩ = some (.int .i64 z) := by
            rw [← hcz]
            exact (hbw.cell (block_lt (hc (n5 - 1 - k) (by omega)))).trans (hc (n5 - 1 - k) (by omega))
          rw [hlen] at hown
          have q1 : (0 : Int) ≤ (n5 : Int) - 1 - (k : Int) := by omega
          have q2 : (n5 : Int) - 1 - (k : Int) < (n5 : Int) := by omega
          clear hc hrl I1 S1 I2' D3 hrev b5 hcz hlen
          go_wp2_with (at_builtin; refine wpList_append_own _ rfl (.tmp 75) (.tmp 84) 51 rfl w5.heap.size 3 i0 (.int .i64 0) 1 8 Tryd.underlying51 hi hz0 hz1 hz2 rfl (by decide) _ _ _ rfl (hown.alloc _) ⟨wr.heap.size, 0, none⟩ 1 1 [.int .i64 z] rfl rfl (cell_one_new _ _ _) (one_cell z) (by unfold maxLen; omega) (by omega) (by have := hbw.size; simp; omega) ?_)
          intro v' w6 hown6 hgrow6 _
          have R1 : w6.ownsRow w5.heap.size 3 1 v' (zs.reverse.take (k + 1)).length ((zs.reverse.take (k + 1)).map (Value.int .i64)) := by
            have e1 : (zs.reverse.take (k + 1)).length = k + 1 := by rw [hrz, List.length_append]; have := HN5.out; simp; omega
            rw [e1, hrz, List.map_append, List.map_take, List.map_reverse]
            exact hown6
          have R2 : Below w5.heap.size w5 w6 := (hbw.alloc hbw.size _).grown hgrow6 (by have := hbw.size; simp; omega) (fun j hj => own_base hown j hj)
          clear hown6 hgrow6 hown hbw hcx
          go_wp2
          go_roundw
          case rel => exact ⟨k + 1, by omega, by go_num, R1, R2⟩
          case measure => simp [intOf]; omega
        · have e : k = n5 := by omega
          subst e
          have el : zs.reverse.take k = zs.reverse := List.take_of_length_le (by have := HN5.out; simp; omega)
          rw [el] at hown
          obtain ⟨a'', cap'', hv0, hrb⟩ := row_of_own hown
          have hvk : ∀ l : Value, l = .slice a'' zs.reverse.length cap'' → l = .slice a'' k cap'' := fun l h => by rw [h, List.length_reverse, HN5.out]
          have hvv := hvk _ hv0
          have I2 := fun (w' : World) (h : Row w' a'' zs.reverse) => I2' w' a'' cap'' h
          have hrl' := hrl.below hbw
          have b5w := below_step b5 hbw
          clear hv0 hvk hown el hc hrev hbw b5 hrl I2'
          have hrl := hrl'
          have b5 := b5w
          clear hrl' b5w
          go_wp2_with fail
          refine (I1 _ hrl).mono ?_
          rintro e w6 ⟨rfl, b6'⟩
          have hrl6 := hrl.below b6'
          have hrb6 := hrb.below b6'
          have b6 := below_step b5 b6'
          clear b5 b6' hrl hrb
          go_wp2_with fail
          refine (I2 _ hrb6).mono ?_
          rintro e w7 ⟨rfl, b7'⟩
          have hrl7 := hrl6.below b7'
          have b7 := below_step b6 b7'
          clear b6 b7' hrl6 hrb6
          go_wp2_with fail
          refine (S1 _ hrl7).mono ?_
          rintro e w8 ⟨rfl, rfl⟩
          clear hrl7 I1 I2 S1
          go_wp2_with fail
          refine (D3 _ b7).mono ?_
          rintro e w9 ⟨u, v, rfl, b9'⟩
          have b9 := below_step b7 b9'
          clear b7 b9' D3
          go_wp2_with fail
          refine (impl_pct u v _).mono ?_
          rintro e w10 ⟨rfl, rfl⟩
          unfold pct
          go_wp2_with fail
          refine (spec_pct u v _).mono ?_
          rintro e w11 ⟨rfl, rfl⟩
          unfold pct
          have hbd := fun h => pct_bd (a := u) (p := v) h
          have hmo := fun h0 h1 h2 => pct_mono (a := u) (p := v) h0 h1 h2
          have IP := fun w => impl_pct u (v + 1) w
          unfold pct at IP
          generalize pctN u v = x at hmo ⊢
          generalize pctB u v = p1 at hmo hbd ⊢
          generalize pctN u (v + 1) = y at hmo IP
          generalize pctB u (v + 1) = p2 at hmo IP
          cases p1 with
          | false =>
            clear IP hmo hbd
            go_wp2
            go_ret
            exact ⟨rfl, b9⟩
          | true =>
            obtain ⟨v0, v1⟩ := hbd rfl
            clear hbd
            by_cases hu : u < 0
            · clear IP hmo
              go_wp2
              go_ret
              exact ⟨rfl, b9⟩
            · by_cases hv : v = 100000
              · have hv' : (v == 100000) = true := by simp [hv]
                clear IP hmo hv
                go_wp2
                go_ret
                exact ⟨rfl, b9⟩
              · have hv' : (v == 100000) = false := by simp [hv]
                have hv2 : v + 1 ≤ 100000 := by omega
                cases p2 with
                | false =>
                  clear hmo hv
                  go_wp2_with (go_at_call 26; refine (IP _).mono ?_; rintro e w12 ⟨rfl, rfl⟩)
                  go_ret
                  exact ⟨rfl, b9⟩
                | true =>
                  have hxy := hmo (by omega) rfl rfl
                  clear hmo hv
                  go_wp2_with (go_at_call 26; refine (IP _).mono ?_; rintro e w12 ⟨rfl, rfl⟩)
                  go_ret
                  exact ⟨by first | rfl | simp, b9⟩
  | true =>
    have R := fun w => RB w rfl
    clear RB
    go_wp2_with fail
    refine (R _).mono ?_
    rintro e w4 ⟨rfl, b4'⟩
    have b4 := below_step b3 b4'
    clear b3 b4' R
    have b3 := b4
    clear b4
    go_wp2_with fail
    refine (D2 _ b3).mono ?_
    rintro e w5 ⟨zs, a', cap', rfl, hz41, hrl, b5'⟩
    have b5 := below_step b3 b5'
    clear b3 b5' D2
    have I1 := fun (w' : World) (h : Row w' a' zs) => implJoin a' cap' zs w' h (by omega)
    have S1 := fun (w' : World) (h : Row w' a' zs) => specJoin a' cap' zs w' h (by omega)
    have I2' := fun (w' : World) (a'' : Option Addr) (cap'' : Nat) (h : Row w' a'' zs.reverse) => implJoin a'' cap'' zs.reverse w' h (by simp; omega)
    simp only [joinN_back, joinB_back, List.length_reverse] at I2'
    generalize joinN zs = jn at I1 S1 I2'
    generalize joinB zs = jb at I1 S1 I2'
    rcases hrl with hz | ⟨g, off, ha, hc⟩
    · subst hz
      have hrl : Row w5 a' [] := .inl rfl
      have hrb : Row w5 none [] := .inl rfl
      have I2 := fun (w' : World) (h : Row w' none []) => I2' w' none 0 h
      clear I2'
      simp only [List.length_nil] at I1 S1 I2 ⊢
      go_wp2_with fail
      refine wp_loop_rounds 1 ?_
      rw [rounds_succ]
      go_wp2_with fail
      refine (I1 _ hrl).mono ?_
      rintro e w6 ⟨rfl, b6'⟩
      have hrl6 := hrl.below b6'
      have hrb6 := hrb.below b6'
      have b6 := below_step b5 b6'
      clear b5 b6' hrl hrb
      go_wp2_with fail
      refine (I2 _ hrb6).mono ?_
      rintro e w7 ⟨rfl, b7'⟩
      have hrl7 := hrl6.below b7'
      have b7 := below_step b6 b7'
      clear b6 b7' hrl6 hrb6
      go_wp2_with fail
      refine (S1 _ hrl7).mono ?_
      rintro e w8 ⟨rfl, rfl⟩
      clear hrl7 I1 I2 S1
      go_wp2_with fail
      refine (D3 _ b7).mono ?_
      rintro e w9 ⟨u, v, rfl, b9'⟩
      have b9 := below_step b7 b9'
      clear b7 b9' D3
      go_wp2_with fail
      refine (impl_pct u v _).mono ?_
      rintro e w10 ⟨rfl, rfl⟩
      unfold pct
      go_wp2_with fail
      refine (spec_pct u v _).mono ?_
      rintro e w11 ⟨rfl, rfl⟩
      unfold pct
      have hbd := fun h => pct_bd (a := u) (p := v) h
      have hmo := fun h0 h1 h2 => pct_mono (a := u) (p := v) h0 h1 h2
      have IP := fun w => impl_pct u (v + 1) w
      unfold pct at IP
      generalize pctN u v = x at hmo ⊢
      generalize pctB u v = p1 at hmo hbd ⊢
      generalize pctN u (v + 1) = y at hmo IP
      generalize pctB u (v + 1) = p2 at hmo IP
      cases p1 with
      | false =>
        clear IP hmo hbd
        go_wp2
        go_ret
        exact ⟨rfl, b9⟩
      | true =>
        obtain ⟨v0, v1⟩ := hbd rfl
        clear hbd
        by_cases hu : u < 0
        · clear IP hmo
          go_wp2
          go_ret
          exact ⟨rfl, b9⟩
        · by_cases hv : v = 100000
          · have hv' : (v == 100000) = true := by simp [hv]
            clear IP hmo hv
            go_wp2
            go_ret
            exact ⟨rfl, b9⟩
          · have hv' : (v == 100000) = false := by simp [hv]
            have hv2 : v + 1 ≤ 100000 := by omega
            cases p2 with
            | false =>
              clear hmo hv
              go_wp2_with (go_at_call 26; refine (IP _).mono ?_; rintro e w12 ⟨rfl, rfl⟩)
              go_ret
              exact ⟨rfl, b9⟩
            | true =>
              have hxy := hmo (by omega) rfl rfl
              clear hmo hv
              go_wp2_with (go_at_call 26; refine (IP _).mono ?_; rintro e w12 ⟨rfl, rfl⟩)
              go_ret
              exact ⟨by first | rfl | simp, b9⟩
    · subst ha
      have hrl : Row w5 (some ⟨g, off, none⟩) zs := .inr ⟨g, off, rfl, hc⟩
      obtain ⟨n5, hn5⟩ : ∃ n5, n5 = zs.length := ⟨_, rfl⟩
      have hrev := fun k (hk : k < zs.length) => take_rev zs k hk
      have hown0 := World.ownsRow_nil w5 w5.heap.size 3 1
      rw [← hn5] at I1 S1 I2' hc hz41 hrev ⊢
      have HN5 : Hid (n5 = zs.length) := hn5
      clear hn5
      go_wp2_with fail
      go_loopw [13, 72] (fun l i wr => ∃ k : Nat, k ≤ n5 ∧ i = .int .i64 k ∧ wr.ownsRow w5.heap.size 3 1 l (zs.reverse.take k).length ((zs.reverse.take k).map (Value.int .i64)) ∧ Below w5.heap.size w5 wr) (fun _ i _ => n5 - (intOf i).toNat)
      case atStart => exact ⟨0, Nat.zero_le _, rfl, hown0, Below.refl _ _⟩
      case round =>
        obtain ⟨k, hk, rfl, hown, hbw⟩ := hrel
        by_cases hlt : k < n5
        · have hlen : (zs.reverse.take k).length = k := by have := HN5.out; simp; omega
          obtain ⟨z, hcz, hrz⟩ := hrev k hlt
          have hcx : wr.cell? ⟨g, off + (n5 - 1 - k), none⟩ = some (.int .i64 z) := by
            rw [← hcz]
            exact (hbw.cell (block_lt (hc (n5 - 1 - k) (by omega)))).trans (hc (n5 - 1 - k) (by omega))
          rw [hlen] at hown
          have q1 : (0 : Int) ≤ (n5 : Int) - 1 - (k : Int) := by omega
          have q2 : (n5 : Int) - 1 - (k : Int) < (n5 : Int) := by omega
          clear hc hrl I1 S1 I2' D3 hrev b5 hcz hlen
          go_wp2_with (at_builtin; refine wpList_append_own _ rfl (.tmp 75) (.tmp 84) 51 rfl w5.heap.size 3 i0 (.int .i64 0) 1 8 Tryd.underlying51 hi hz0 hz1 hz2 rfl (by decide) _ _ _ rfl (hown.alloc _) ⟨wr.heap.size, 0, none⟩ 1 1 [.int .i64 z] rfl rfl (cell_one_new _ _ _) (one_cell z) (by unfold maxLen; omega) (by omega) (by have := hbw.size; simp; omega) ?_)
          intro v' w6 hown6 hgrow6 _
          have R1 : w6.ownsRow w5.heap.size 3 1 v' (zs.reverse.take (k + 1)).length ((zs.reverse.take (k + 1)).map (Value.int .i64)) := by
            have e1 : (zs.reverse.take (k + 1)).length = k + 1 := by rw [hrz, List.length_append]; have := HN5.out; simp; omega
            rw [e1, hrz, List.map_append, List.map_take, List.map_reverse]
            exact hown6
          have R2 : Below w5.heap.size w5 w6 := (hbw.alloc hbw.size _).grown hgrow6 (by have := hbw.size; simp; omega) (fun j hj => own_base hown j hj)
          clear hown6 hgrow6 hown hbw hcx
          go_wp2
          go_roundw
          case rel => exact ⟨k + 1, by omega, by go_num, R1, R2⟩
          case measure => simp [intOf]; omega
        · have e : k = n5 := by omega
          subst e
          have el : zs.reverse.take k = zs.reverse := List.take_of_length_le (by have := HN5.out; simp; omega)
          rw [el] at hown
          obtain ⟨a'', cap'', hv0, hrb⟩ := row_of_own hown
          have hvk : ∀ l : Value, l = .slice a'' zs.reverse.length cap'' → l = .slice a'' k cap'' := fun l h => by rw [h, List.length_reverse, HN5.out]
          have hvv := hvk _ hv0
          have I2 := fun (w' : World) (h : Row w' a'' zs.reverse) => I2' w' a'' cap'' h
          have hrl' := hrl.below hbw
          have b5w := below_step b5 hbw
          clear hv0 hvk hown el hc hrev hbw b5 hrl I2'
          have hrl := hrl'
          have b5 := b5w
          clear hrl' b5w
          go_wp2_with fail
          refine (I1 _ hrl).mono ?_
          rintro e w6 ⟨rfl, b6'⟩
          have hrl6 := hrl.below b6'
          have hrb6 := hrb.below b6'
          have b6 := below_step b5 b6'
          clear b5 b6' hrl hrb
          go_wp2_with fail
          refine (I2 _ hrb6).mono ?_
          rintro e w7 ⟨rfl, b7'⟩
          have hrl7 := hrl6.below b7'
          have b7 := below_step b6 b7'
          clear b6 b7' hrl6 hrb6
          go_wp2_with fail
          refine (S1 _ hrl7).mono ?_
          rintro e w8 ⟨rfl, rfl⟩
          clear hrl7 I1 I2 S1
          go_wp2_with fail
          refine (D3 _ b7).mono ?_
          rintro e w9 ⟨u, v, rfl, b9'⟩
          have b9 := below_step b7 b9'
          clear b7 b9' D3
          go_wp2_with fail
          refine (impl_pct u v _).mono ?_
          rintro e w10 ⟨rfl, rfl⟩
          unfold pct
          go_wp2_with fail
          refine (spec_pct u v _).mono ?_
          rintro e w11 ⟨rfl, rfl⟩
          unfold pct
          have hbd := fun h => pct_bd (a := u) (p := v) h
          have hmo := fun h0 h1 h2 => pct_mono (a := u) (p := v) h0 h1 h2
          have IP := fun w => impl_pct u (v + 1) w
          unfold pct at IP
          generalize pctN u v = x at hmo ⊢
          generalize pctB u v = p1 at hmo hbd ⊢
          generalize pctN u (v + 1) = y at hmo IP
          generalize pctB u (v + 1) = p2 at hmo IP
          cases p1 with
          | false =>
            clear IP hmo hbd
            go_wp2
            go_ret
            exact ⟨rfl, b9⟩
          | true =>
            obtain ⟨v0, v1⟩ := hbd rfl
            clear hbd
            by_cases hu : u < 0
            · clear IP hmo
              go_wp2
              go_ret
              exact ⟨rfl, b9⟩
            · by_cases hv : v = 100000
              · have hv' : (v == 100000) = true := by simp [hv]
                clear IP hmo hv
                go_wp2
                go_ret
                exact ⟨rfl, b9⟩
              · have hv' : (v == 100000) = false := by simp [hv]
                have hv2 : v + 1 ≤ 100000 := by omega
                cases p2 with
                | false =>
                  clear hmo hv
                  go_wp2_with (go_at_call 26; refine (IP _).mono ?_; rintro e w12 ⟨rfl, rfl⟩)
                  go_ret
                  exact ⟨rfl, b9⟩
                | true =>
                  have hxy := hmo (by omega) rfl rfl
                  clear hmo hv
                  go_wp2_with (go_at_call 26; refine (IP _).mono ?_; rintro e w12 ⟨rfl, rfl⟩)
                  go_ret
                  exact ⟨by first | rfl | simp, b9⟩
end Go.Proofs.YtijondjiehoafaaDoor
