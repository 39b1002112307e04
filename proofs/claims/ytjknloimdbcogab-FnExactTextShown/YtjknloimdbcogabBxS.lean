/-
  TextShown, of the model and of the program, for every row of boxes.
-/
import Derived.Test.YtjknloimdbcogabBldX
import Derived.Test.YtjknloimdbcogabShelf
namespace Go.Proofs.Ytjknloimdbcogab
open Go.ChangeShapes Go.WideShapes Go.ChangeAt Go.RowKit
set_option linter.unusedVariables false

theorem bldX_below {B b : Nat} {bs : List Value} {w w' : World} (h : Lib.IsBuilder 38 5 B b bs w) (hb : Below w.heap.size w w') : Lib.IsBuilder 38 5 B b bs w' := by
  have at_ : ∀ p, Lib.BuilderAt 38 5 B b p bs w → Lib.BuilderAt 38 5 B b p bs w' := fun p ⟨hB, v, hk, hown, hne⟩ =>
    ⟨hB, v, below_lies hb hk (lies_lt hk), hown.kept (row := none) ⟨hb.os, hb.tape, hb.output, hb.size, fun k hk _ => hb.block k hk⟩ (by cases h : v.ownBlock <;> simp), hne⟩
  rcases h with h | h
  · exact .inl (at_ _ h)
  · exact .inr (at_ _ h)
theorem bldX_lt {B b : Nat} {bs : List Value} {w : World} (h : Lib.IsBuilder 38 5 B b bs w) : b < w.heap.size := by
  rcases h with h | h
  · exact h.lt
  · exact h.lt
theorem strX_app (a b : ByteArray) : Lib.strCells a ++ Lib.strCells b = Lib.strCells (a ++ b) := by simp [Lib.strCells]
/-- The texts of the lines among the first so many boxes. -/
def shT (bs : List Bx) : Nat → ByteArray
  | 0 => ⟨#[]⟩
  | i + 1 => if (bs.getD i bx0).kd = 2 then shT bs i ++ (bs.getD i bx0).tx else shT bs i
def shB (bs : List Bx) : Bool := decide (bs.length ≤ 80)
def shR (bs : List Bx) : ByteArray := if shB bs then shT bs bs.length else ⟨#[]⟩
theorem bx_getD {bs : List Bx} {i : Nat} {x : Bx} (h : bs[i]? = some x) : bs.getD i bx0 = x := by rw [List.getD_eq_getElem?_getD, h]; rfl
set_option maxRecDepth 100000 in
theorem shT_size {bs : List Bx} (hs : ∀ (i : Nat) (x : Bx), bs[i]? = some x → x.tx.size ≤ 1048576) : ∀ i, i ≤ bs.length → (shT bs i).size ≤ i * 1048576
  | 0, _ => by rw [shT, show (⟨#[]⟩ : ByteArray).size = 0 from rfl]; exact Nat.zero_le _
  | i + 1, h => by
    have h1 := shT_size hs i (by omega)
    obtain ⟨x, hx⟩ : ∃ x, bs[i]? = some x := ⟨_, List.getElem?_eq_getElem (by omega)⟩
    have h2 := hs i x hx
    rw [shT, bx_getD hx]
    split
    · rw [ByteArray.size_append, Nat.succ_mul]; exact Nat.add_le_add h1 h2
    · exact Nat.le_trans h1 (Nat.mul_le_mul_right _ (Nat.le_succ i))
theorem shT_yes {bs : List Bx} {i : Nat} {x : Bx} (h : bs[i]? = some x) (hk : x.kd = 2) : shT bs (i + 1) = shT bs i ++ x.tx := by rw [shT, bx_getD h, if_pos hk]
theorem shT_no {bs : List Bx} {i : Nat} {x : Bx} (h : bs[i]? = some x) (hk : ¬ x.kd = 2) : shT bs (i + 1) = shT bs i := by rw [shT, bx_getD h, if_neg hk]
theorem bxS_some {w : World} {a : Option Addr} {bs : List Bx} (hr : BxRow w a bs) {i : Nat} {x : Bx} (h : bs[i]? = some x) : ∃ b off, a = some ⟨b, off, none⟩ ∧ ∀ i n, bs[i]? = some n → w.rangeAt b (off + i * 4) (bxL n) := by
  rcases hr with h' | h'
  · rw [h'] at h; simp at h
  · exact h'
set_option maxHeartbeats 4000000 in
theorem specShownT_any (a : Option Addr) (n cap : Nat) (bs : List Bx) (w : World) (hn : n = bs.length) (hr : BxRow w a bs) (hl : n ≤ 1048576) (hs : ∀ (i : Nat) (x : Bx), bs[i]? = some x → x.tx.size ≤ 1048576) :
    Calls Try.prog 5 #[.slice a n cap] w fun e w' => e = .returned (.tuple #[.string (shR bs), .bool (shB bs)]) ∧ Below w.heap.size w w' := by
  have HN : Hid (n = bs.length) := hn
  have HR : Hid (BxRow w a bs) := hr
  have HS : Hid (∀ (i : Nat) (x : Bx), bs[i]? = some x → x.tx.size ≤ 1048576) := hs
  clear hn hr hs
  by_cases h80 : n ≤ 80
  rotate_left
  · have h81 : (80 : Int) < (n : Int) := by omega
    have e1 : shB bs = false := by have := HN.out; simp [shB]; omega
    have e2 : shR bs = ⟨#[]⟩ := by rw [shR, e1]; rfl
    rw [e1, e2]
    clear e1 e2
    go_enter Try.func5, Try.ntmps5
    go_wp2
    go_ret2
    exact ⟨rfl, Below.refl _ _⟩
  have h80' : (n : Int) ≤ 80 := by omega
  have e1 : shB bs = true := by have := HN.out; simp [shB]; omega
  have e2 : shR bs = shT bs n := by rw [shR, e1, HN.out]; rfl
  rw [e1, e2]
  clear e1 e2
  go_enter Try.func5, Try.ntmps5
  go_wp2_with fail
  go_loopw [4, 12] (fun v i wr => ∃ j : Nat, j ≤ n ∧ i = .int .i64 j ∧ v = .string (shT bs j) ∧ Below w.heap.size w wr) (fun _ i _ => n - (intOf i).toNat)
  case atStart => exact ⟨0, Nat.zero_le _, rfl, rfl, Below.refl _ _⟩
  case round =>
    obtain ⟨j, hj, rfl, rfl, hbw⟩ := hrel
    by_cases hlt : j < n
    rotate_left
    · have e : j = n := by omega
      subst e
      go_wp2
      go_ret2
      exact ⟨rfl, hbw⟩
    obtain ⟨x, hx⟩ : ∃ x, bs[j]? = some x := ⟨_, List.getElem?_eq_getElem (by have := HN.out; omega)⟩
    obtain ⟨b, off, rfl, hc⟩ := bxS_some HR.out hx
    have hr := bx_below (hc j x hx) hbw (bx_lt (hc j x hx))
    obtain ⟨q0, q1, q2, q3⟩ := bx_cells hr
    have z1 := shT_size HS.out j (by rw [← HN.out]; exact hj)
    have z2 := HS.out j x hx
    have HB3 : Hid (Below w.heap.size w (wr.alloc (.cells #[.int .i64 x.kd, .int .i64 x.nd, .int .i64 x.up, .string x.tx] 33 (0, 0)))) := hbw.alloc hbw.size _
    have HX : Hid (bs[j]? = some x) := hx
    clear hc hx hr
    by_cases hk : x.kd = 2
    · have HT : Hid (shT bs (j + 1) = shT bs j ++ x.tx) := shT_yes HX.out hk
      generalize shT bs j = t at z1 HT
      have HB4 : Hid (Below w.heap.size w (wr.alloc (.cells #[.int .i64 2, .int .i64 x.nd, .int .i64 x.up, .string x.tx] 33 (0, 0)))) := hbw.alloc hbw.size _
      go_wp2
      go_roundw
      case rel => exact ⟨j + 1, by omega, by go_num, by rw [HT.out], HB4.out⟩
      case measure => simp [intOf]; omega
    · have HT : Hid (shT bs (j + 1) = shT bs j) := shT_no HX.out hk
      generalize shT bs j = t at z1 HT
      go_wp2
      go_roundw
      case rel => exact ⟨j + 1, by omega, by go_num, by rw [HT.out], HB3.out⟩
      case measure => simp [intOf]; omega
set_option maxHeartbeats 4000000 in
theorem implShownT_any (a : Option Addr) (n cap : Nat) (bs : List Bx) (w : World) (hn : n = bs.length) (hr : BxRow w a bs) (hl : n ≤ 1048576) (hs : ∀ (i : Nat) (x : Bx), bs[i]? = some x → x.tx.size ≤ 1048576) :
    Calls Try.prog 7 #[.slice a n cap] w fun e w' => e = .returned (.tuple #[.string (shR bs), .bool (shB bs)]) ∧ Below w.heap.size w w' := by
  have HN : Hid (n = bs.length) := hn
  have HR : Hid (BxRow w a bs) := hr
  have HS : Hid (∀ (i : Nat) (x : Bx), bs[i]? = some x → x.tx.size ≤ 1048576) := hs
  clear hn hr hs
  by_cases h80 : n ≤ 80
  rotate_left
  · have h81 : (80 : Int) < (n : Int) := by omega
    have e1 : shB bs = false := by have := HN.out; simp [shB]; omega
    have e2 : shR bs = ⟨#[]⟩ := by rw [shR, e1]; rfl
    rw [e1, e2]
    clear e1 e2
    go_enter Try.func7, Try.ntmps7
    go_wp2
    go_ret2
    exact ⟨rfl, Below.refl _ _⟩
  have h80' : (n : Int) ≤ 80 := by omega
  have e1 : shB bs = true := by have := HN.out; simp [shB]; omega
  have e2 : shR bs = shT bs n := by rw [shR, e1, HN.out]; rfl
  rw [e1, e2]
  clear e1 e2
  go_enter Try.func7, Try.ntmps7
  go_wp2_with fail
  go_loopw [12] (fun i wr => ∃ j : Nat, j ≤ n ∧ i = .int .i64 j ∧ Lib.IsBuilder 38 5 w.heap.size w.heap.size (Lib.strCells (shT bs j)) wr ∧ Below w.heap.size w wr) (fun i _ => n - (intOf i).toNat)
  case atStart => exact ⟨0, Nat.zero_le _, rfl, Lib.fresh_isBuilder 38 5 w, (Below.refl _ _).alloc (Nat.le_refl _) _⟩
  case round =>
    obtain ⟨j, hj, rfl, hbd, hbw⟩ := hrel
    by_cases hlt : j < n
    rotate_left
    · have e : j = n := by omega
      subst e
      have ST := Try.Builder_String_any w.heap.size w.heap.size (shT bs j).data.toList wr (by rw [← Lib.strCells_eq]; exact hbd) (Nat.le_of_lt (bldX_lt hbd))
      have e3 : (⟨(shT bs j).data.toList.toArray⟩ : ByteArray) = shT bs j := rfl
      rw [e3] at ST
      clear hbd e3
      go_wp2_with fail
      refine ST.mono ?_
      rintro e w2 ⟨rfl, hb2⟩
      have b2 := hbw.trans hb2
      clear hb2 hbw ST
      go_wp2
      go_ret2
      exact ⟨rfl, b2⟩
    obtain ⟨x, hx⟩ : ∃ x, bs[j]? = some x := ⟨_, List.getElem?_eq_getElem (by have := HN.out; omega)⟩
    obtain ⟨b, off, rfl, hc⟩ := bxS_some HR.out hx
    have hr := bx_below (hc j x hx) hbw (bx_lt (hc j x hx))
    obtain ⟨q0, q1, q2, q3⟩ := bx_cells hr
    have z1 := shT_size HS.out j (by rw [← HN.out]; exact hj)
    have z2 := HS.out j x hx
    have HX : Hid (bs[j]? = some x) := hx
    clear hc hx hr
    by_cases hk : x.kd = 2
    · have HT : Hid (shT bs (j + 1) = shT bs j ++ x.tx) := shT_yes HX.out hk
      have hb3 : Below w.heap.size w (wr.alloc (.cells #[.int .i64 2, .int .i64 x.nd, .int .i64 x.up, .string x.tx] 33 (0, 0))) := hbw.alloc hbw.size _
      have HB3 : Hid (Below w.heap.size w (wr.alloc (.cells #[.int .i64 2, .int .i64 x.nd, .int .i64 x.up, .string x.tx] 33 (0, 0)))) := hb3
      have WR := write_any w.heap.size w.heap.size (Lib.strCells (shT bs j)) x.tx (wr.alloc (.cells #[.int .i64 2, .int .i64 x.nd, .int .i64 x.up, .string x.tx] 33 (0, 0))) (bldX_below hbd ((Below.refl _ _).alloc (Nat.le_refl _) _)) (by rw [Lib.strCells_length]; omega) hb3.size
      clear hbd hb3 hbw
      go_wp2_with fail
      refine WR.mono ?_
      rintro e w4 ⟨rfl, hB4, hb4, _⟩
      have b4 := HB3.out.trans hb4
      rw [strX_app, ← HT.out] at hB4
      clear hb4 HB3 WR q0 q1 q2 q3
      go_wp2
      go_roundw
      case rel => exact ⟨j + 1, by omega, by go_num, .inr hB4, b4⟩
      case measure => simp [intOf]; omega
    · have HT : Hid (shT bs (j + 1) = shT bs j) := shT_no HX.out hk
      have B3 := bldX_below hbd ((Below.refl _ _).alloc (Nat.le_refl _) (.cells #[.int .i64 x.kd, .int .i64 x.nd, .int .i64 x.up, .string x.tx] 33 (0, 0)))
      have b3 : Below w.heap.size w (wr.alloc (.cells #[.int .i64 x.kd, .int .i64 x.nd, .int .i64 x.up, .string x.tx] 33 (0, 0))) := hbw.alloc hbw.size _
      rw [← HT.out] at B3
      have HB : Hid (_ ∧ _) := And.intro B3 b3
      clear hbd hbw B3 b3
      go_wp2
      go_roundw
      case rel => exact ⟨j + 1, by omega, by go_num, HB.out.1, HB.out.2⟩
      case measure => simp [intOf]; omega
end Go.Proofs.Ytjknloimdbcogab
