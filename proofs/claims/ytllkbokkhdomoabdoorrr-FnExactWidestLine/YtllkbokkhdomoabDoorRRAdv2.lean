/-
  Contracts of a plain text and of a text's width, of the program and of its model.
-/
import Derived.Test.YtllkbokkhdomoabDoorRRAdv
namespace Go.Proofs.YtllkbokkhdomoabDoorRR
open Go.ChangeShapes Go.WideShapes Go.ChangeAt Go.RowKit
set_option linter.unusedVariables false

theorem plainByte_any (z : Int) (w : World) : Calls Tryd.prog 28 #[.int .u8 z] w fun e w' => e = .returned (.bool (inB 32 126 z)) ∧ w' = w := by
  by_cases h1 : 32 ≤ z <;> by_cases h2 : z ≤ 126 <;>
  · go_enter Tryd.func28, Tryd.ntmps28
    go_wp2
    go_ret
    exact ⟨ret_bool (by simp [inB, h1, h2]), rfl⟩

set_option maxHeartbeats 2000000 in
theorem implPlain_any (s : ByteArray) (w : World) (hs : s.size ≤ maxLen) :
    Calls Tryd.prog 30 #[.string s, .int .i64 400] w fun e w' => e = .returned (.bool (decide (s.size ≤ 400) && plainB s)) ∧ w' = w := by
  unfold maxLen at hs
  by_cases h4 : s.size ≤ 400
  rotate_left
  · have h4' : (400 : Int) < (s.size : Int) := by omega
    have HN : Hid (false = (decide (s.size ≤ 400) && plainB s)) := by show _ = _; simp [h4]
    go_enter Tryd.func30, Tryd.ntmps30
    go_wp2
    go_ret
    exact ⟨ret_bool (by first | exact HN.out | (rw [← HN.out]; simp) | (rw [← HN.out]; simp [h4])), rfl⟩
  have h4' : (s.size : Int) ≤ 400 := by omega
  go_enter Tryd.func30, Tryd.ntmps30
  go_wp2
  go_loop [12] (fun i => ∃ k : Nat, k ≤ s.size ∧ i = .int .i64 k ∧ ∀ j, (hj : j < s.size) → j < k → 32 ≤ (s[j].toNat : Int) ∧ (s[j].toNat : Int) ≤ 126) (fun i => s.size - (intOf i).toNat)
  case atStart => exact ⟨0, Nat.zero_le _, rfl, fun j _ h => absurd h (by omega)⟩
  case round =>
    obtain ⟨k, hk, rfl, hall⟩ := hrel
    by_cases hlt : k < s.size
    · cases hB : inB 32 126 (s[k].toNat : Int)
      · have HN : Hid (false = plainB s) := plainB_not hlt (inB_no hB)
        clear hall
        go_wp2_with (go_at_call 28; refine (plainByte_any _ _).mono ?_; rintro e w' ⟨rfl, rfl⟩)
        go_ret
        exact ⟨ret_bool (by first | exact HN.out | (rw [← HN.out]; simp) | (rw [← HN.out]; simp [h4])), rfl⟩
      · have HA : Hid (∀ j, (hj : j < s.size) → j < k + 1 → 32 ≤ (s[j].toNat : Int) ∧ (s[j].toNat : Int) ≤ 126) := fun j hj hjk => by
          by_cases e : j = k
          · subst e; exact inB_yes hB
          · exact hall j hj (by omega)
        clear hall
        go_wp2_with (go_at_call 28; refine (plainByte_any _ _).mono ?_; rintro e w' ⟨rfl, rfl⟩)
        go_round
        case rel => exact ⟨k + 1, by omega, by go_num, HA.out⟩
        case measure => simp [intOf]; omega
    · have HN : Hid (true = plainB s) := plainB_mk hlt hall
      clear hall
      go_wp2
      go_ret
      exact ⟨ret_bool (by first | exact HN.out | (rw [← HN.out]; simp) | (rw [← HN.out]; simp [h4])), rfl⟩

theorem bcell {W w1 : World} (hb : Below W.heap.size W w1) : (∀ b o, b < W.heap.size → w1.cell? ⟨b, o, none⟩ = W.cell? ⟨b, o, none⟩) ∧ (∀ b o, b < W.heap.size → w1.frozen? ⟨b, o, none⟩ = W.frozen? ⟨b, o, none⟩) :=
  ⟨fun b o h => hb.cell (p := ⟨b, o, none⟩) h, fun b o h => hb.frozen (p := ⟨b, o, none⟩) h⟩
/-- What a font's box holds. -/
def BoxAt (w : World) (b : Nat) (fa fd fn fu fb : Int) : Prop :=
  b < w.heap.size ∧ w.cell? ⟨b, 0, none⟩ = some (.int .i64 fa) ∧ w.cell? ⟨b, 1, none⟩ = some (.int .i64 fd) ∧ w.cell? ⟨b, 2, none⟩ = some (.int .i64 fn) ∧ w.cell? ⟨b, 3, none⟩ = some (.int .i64 fu) ∧ w.cell? ⟨b, 4, none⟩ = some (.int .i64 fb)
theorem BoxAt.below {w w' : World} {b : Nat} {fa fd fn fu fb : Int} (h : BoxAt w b fa fd fn fu fb) (hb : Below w.heap.size w w') : BoxAt w' b fa fd fn fu fb := by
  obtain ⟨h0, h1, h2, h3, h4, h5⟩ := h
  exact ⟨Nat.lt_of_lt_of_le h0 hb.size, (hb.cell h0).trans h1, (hb.cell h0).trans h2, (hb.cell h0).trans h3, (hb.cell h0).trans h4, (hb.cell h0).trans h5⟩
theorem box_new (w : World) (fa fd fn fu fb : Int) : BoxAt (w.alloc (.cells #[.int .i64 fa, .int .i64 fd, .int .i64 fn, .int .i64 fu, .int .i64 fb] 26)) w.heap.size fa fd fn fu fb :=
  ⟨by simp, by simp, by simp, by simp, by simp, by simp⟩
theorem below_undrewN {B : Nat} {w w1 : World} {n : Nat} (h : Below B (w.drewN n) w1) : Below B w w1 := ⟨h.os, h.tape, h.output, h.size, h.block⟩
theorem below_undrew {B : Nat} {w w1 : World} (h : Below B w.drew w1) : Below B w w1 := ⟨h.os, h.tape, h.output, h.size, h.block⟩
theorem wrapI (x : Int) (h0 : -9223372036854775808 ≤ x) (h1 : x ≤ 9223372036854775807) : IntKind.i64.wrap x = x := by
  rw [IntKind.wrap_i64]; omega

set_option maxHeartbeats 4000000 in
theorem specAdv_any (fa fd fn fu fb : Int) (s : ByteArray) (w : World) (hs : s.size ≤ 400) (hf : 1 ≤ fn ∧ fn ≤ 6400 ∧ 1 ≤ fu ∧ fu ≤ 6400 ∧ 1 ≤ fb ∧ fb ≤ 6400) :
    Calls Tryd.prog 26 #[.agg #[.int .i64 fa, .int .i64 fd, .int .i64 fn, .int .i64 fu, .int .i64 fb], .string s] w fun e w' => e = .returned (.int .i64 (advK fn fu fb s s.size)) ∧ Below w.heap.size w w' := by
  go_enter Tryd.func26, Tryd.ntmps26
  go_wp2
  go_loopw [5, 6] (fun n i wr => ∃ k : Nat, k ≤ s.size ∧ i = .int .i64 k ∧ n = .int .i64 (advK fn fu fb s k) ∧ BoxAt wr w.heap.size fa fd fn fu fb ∧ Below w.heap.size w wr) (fun _ i _ => s.size - (intOf i).toNat)
  case atStart => exact ⟨0, Nat.zero_le _, rfl, rfl, box_new w fa fd fn fu fb, (Below.refl _ _).alloc (Nat.le_refl _) _⟩
  case round =>
    obtain ⟨k, hk, rfl, rfl, hB, hbel⟩ := hrel
    have hBk := hB
    obtain ⟨b0, b1, b2, b3, b4, b5⟩ := hB
    by_cases hlt : k < s.size
    · have hd := advK_bd hf s k
      have hw := wid_bd (s[k].toNat : Int) hf
      have F1 : IntKind.i64.wrap (advK fn fu fb s k + wid fn fu fb (s[k].toNat : Int)) = advK fn fu fb s k + wid fn fu fb (s[k].toNat : Int) := wrapI _ (by omega) (by omega)
      have HN : Hid (advK fn fu fb s (k + 1) = advK fn fu fb s k + wid fn fu fb (s[k].toNat : Int)) := advK_next fn fu fb s k hlt
      go_wp2
      go_region_with (go_at_call 37; go_fit (specOne_any _ _ _ _ _ _ _); rintro e w1 ⟨rfl, hb⟩)
      all_goals
        go_wp2
        go_roundw
        case rel => exact ⟨k + 1, by omega, by go_num, by rw [HN.out], hBk.below ⟨hb.os, hb.tape, hb.output, hb.size, hb.block⟩, hbel.trans (Below.mono (B := wr.heap.size) ⟨hb.os, hb.tape, hb.output, hb.size, hb.block⟩ hbel.size)⟩
        case measure => simp [intOf]; omega
    · have e : k = s.size := by omega
      subst e
      go_wp2
      go_ret
      exact ⟨rfl, hbel⟩

/-- What AdvanceOf answers. -/
def advB (fa fd fn fu fb : Int) (s : ByteArray) : Bool := fontB fa fd fn fu fb && (decide (s.size ≤ 400) && plainB s)
def advN (fa fd fn fu fb : Int) (s : ByteArray) : Int := if advB fa fd fn fu fb s then advK fn fu fb s s.size else 0
theorem adv_no {fa fd fn fu fb : Int} {s : ByteArray} (h : advB fa fd fn fu fb s = false) : Value.tuple #[.int .i64 0, .bool false] = .tuple #[.int .i64 (advN fa fd fn fu fb s), .bool (advB fa fd fn fu fb s)] := by simp [advN, h]
theorem adv_yes {fa fd fn fu fb : Int} {s : ByteArray} (h : advB fa fd fn fu fb s = true) : Value.tuple #[.int .i64 (advK fn fu fb s s.size), .bool true] = .tuple #[.int .i64 (advN fa fd fn fu fb s), .bool (advB fa fd fn fu fb s)] := by simp [advN, h]

end Go.Proofs.YtllkbokkhdomoabDoorRR
