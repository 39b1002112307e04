/-
  Contracts of a drawn text: the cursor's of and plain answer a short text, turn nothing but their cursor, and leave it good.
-/
import Derived.Test.YtllkbokkhdomoaaRDoorDrawFont
namespace Go.Proofs.YtllkbokkhdomoaaRDoor
open Go.ChangeShapes Go.WideShapes Go.ChangeAt Go.RowKit
set_option linter.unusedVariables false

set_option maxHeartbeats 1000000 in
/-- One of some short texts, in a row that is not the cursor's. -/
theorem of_any (b len cap m lb n lc : Nat) (a : Option Addr) (w : World) (hm : m ≤ 100000000000000) (hC : CurOk w b a len cap m) (n1 : 1 ≤ n) (n2 : n ≤ 1000000) (hne : lb ≠ b)
    (hc : ∀ i, i < n → ∃ z : ByteArray, z.size ≤ 10 ∧ w.cell? ⟨lb, i, none⟩ = some (.string z)) :
    Calls Tryd.prog 30 #[.pointer (some ⟨b, 0, none⟩), .slice (some ⟨lb, 0, none⟩) n lc] w fun e w' => ∃ v : ByteArray, e = .returned (.string v) ∧ v.size ≤ 10 ∧ CurOk w' b a len cap (m + 2) ∧ w.grownBy w' (some b) := by
  have P := pick_any b len cap m a n w hm hC (by omega) (by omega)
  clear hC
  have P' := P.mono (R' := fun e w' => ∃ j : Nat, e = .returned (.int .i64 (j : Int)) ∧ j < n ∧ (∃ z : ByteArray, z.size ≤ 10 ∧ w'.cell? ⟨lb, j, none⟩ = some (.string z)) ∧ CurOk w' b a len cap (m + 2) ∧ w.grownBy w' (some b)) (fun e w' h => by
    obtain ⟨v, rfl, v0, v1, hC1, hg1⟩ := h
    obtain ⟨z, hzs, hz⟩ := hc v.toNat (by omega)
    have hb : w'.heap[lb]? = w.heap[lb]? := hg1.block lb (cell_lt' hz) (by simpa using hne)
    exact ⟨v.toNat, by rw [show ((v.toNat : Nat) : Int) = v by omega], by omega, ⟨z, hzs, (World.cell?_of_block (a := ⟨lb, v.toNat, none⟩) hb).trans hz⟩, hC1, hg1⟩)
  clear P hc
  go_enter Tryd.func30, Tryd.ntmps30
  go_wp2_with (go_at_call 16; refine P'.mono ?_; rintro e w1 ⟨j, rfl, j1, ⟨z, hzs, hz⟩, hC1, hg1⟩)
  go_ret
  exact ⟨_, rfl, hzs, hC1, hg1⟩

/-- Nine short texts in a row. -/
theorem texts_new (w : World) (l : List ByteArray) (hl : ∀ z ∈ l, z.size ≤ 10) (i : Nat) (hi : i < l.length) :
    ∃ z : ByteArray, z.size ≤ 10 ∧ (w.alloc (.cells (l.map Value.string).toArray 9)).cell? ⟨w.heap.size, i, none⟩ = some (.string z) := by
  refine ⟨l[i], hl _ (List.getElem_mem hi), ?_⟩
  simp [hi]

/-- The drawn words. -/
def nine : List ByteArray := [⟨#[119, 111, 114, 100]⟩, ⟨#[97]⟩, ⟨#[109, 105, 108, 108]⟩, ⟨#[119, 111, 119]⟩, ⟨#[73]⟩, ⟨#[120, 44]⟩, ⟨#[32, 32]⟩, ⟨#[32]⟩, ⟨#[108, 111, 110, 103, 45, 119, 111, 114, 100, 115]⟩]
theorem nine_small : ∀ z ∈ nine, z.size ≤ 10 := by decide

set_option maxHeartbeats 2000000 in
theorem plain_any (b len cap m : Nat) (a : Option Addr) (w : World) (hm : m ≤ 1000000000000) (hC : CurOk w b a len cap m) :
    Calls Tryd.prog 29 #[.pointer (some ⟨b, 0, none⟩)] w fun e w' => ∃ s : ByteArray, e = .returned (.string s) ∧ s.size ≤ 60 ∧ CurOk w' b a len cap (m + 20) ∧ w.grownBy w' (some b) := by
  have hlt := hC.lt
  have P := pick_any b len cap m a 7 w (by omega) hC (by omega) (by omega)
  go_enter Tryd.func29, Tryd.ntmps29
  go_wp2_with fail
  refine P.mono ?_
  rintro e w1 ⟨x, rfl, x0, x1, hC1, hg1⟩
  clear P
  go_wp2_with fail
  go_loopw [3, 4] (fun t n wr => ∃ (k : Nat) (s : ByteArray), k ≤ 6 ∧ s.size + 10 * k ≤ 60 ∧ n = .int .i64 k ∧ t = .string s ∧ CurOk wr b a len cap (m + 2 + 2 * (6 - k)) ∧ w.grownBy wr (some b)) (fun _ n _ => (intOf n).toNat)
  case atStart => exact ⟨x.toNat, ByteArray.empty, by omega, by simp; omega, by rw [show ((x.toNat : Nat) : Int) = x by omega], rfl, hC1.more (by omega), hg1⟩
  case round =>
    obtain ⟨k, s, hk, hs, rfl, rfl, hCr, hgr⟩ := hrel
    clear hC1 hg1
    by_cases hp : 0 < k
    · have hltr := hCr.lt
      have hbl := (Below.refl wr.heap.size wr).alloc (Nat.le_refl _) (.cells (nine.map Value.string).toArray 9)
      have OF := of_any b len cap (m + 2 + 2 * (6 - k)) wr.heap.size 9 9 a _ (by omega) (hCr.grown hbl) (by omega) (by omega) (by omega) (texts_new wr nine nine_small)
      have hgb := grown_of_below b hbl
      simp only [nine, List.map_cons, List.map_nil] at OF hgb
      clear hbl hCr
      go_wp2_with fail
      refine OF.mono ?_
      rintro e w2 ⟨t, rfl, ht, hC2, hg2⟩
      have hst : (s ++ t).size = s.size + t.size := ByteArray.size_append
      have HS : Hid ((s ++ t).size + 10 * (k - 1) ≤ 60) := by show _ ≤ _; omega
      have hsum : s.size + t.size ≤ 60 := by omega
      clear OF hst
      go_wp2
      go_roundw
      case rel => exact ⟨k - 1, s ++ t, by omega, HS.out, by go_num, rfl, hC2.more (by omega), grown_trans hgr (grown_trans hgb hg2)⟩
      case measure => simp [intOf]; omega
    · have ek : k = 0 := by omega
      subst ek
      go_wp2
      go_ret
      exact ⟨_, rfl, by omega, hCr.more (by omega), hgr⟩
end Go.Proofs.YtllkbokkhdomoaaRDoor
