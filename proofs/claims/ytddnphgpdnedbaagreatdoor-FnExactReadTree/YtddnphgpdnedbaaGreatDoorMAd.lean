/-
  Contracts of a font's small functions, of the program and of its model: a number between two, a good font, the law's own copy of a font; for every five ints.
  The plain mathematics of a text's width: the kind of a letter, its width, the sum over a list of letters, and how many letters fit.
  Contracts of a letter's width and of a plain text, of the program and of its model.
  Contracts of a plain text and of a text's width, of the program and of its model.
-/
import Derived.Test.YtddnphgpdnedbaaGreatDoorRows
import Derived.WalkKit
import Derived.ProofKit
import Derived.OpenShut
import Derived.WalkSpells
import Derived.WalkLawsBesides
import Derived.Deep.QuietTactic
import Derived.BigQuiet
import Derived.Deep.RegionWith
import Derived.Deep.DeepFit
namespace Go.Proofs.YtddnphgpdnedbaaGreatDoor
open Go.ChangeShapes Go.WideShapes Go.ChangeAt Go.RowKit
set_option linter.unusedVariables false

/-- Between two numbers, both of them too. -/
def inB (lo hi n : Int) : Bool := decide (lo ≤ n ∧ n ≤ hi)
theorem inB_yes {lo hi n : Int} (h : inB lo hi n = true) : lo ≤ n ∧ n ≤ hi := of_decide_eq_true h
theorem inB_no {lo hi n : Int} (h : inB lo hi n = false) : ¬ (lo ≤ n ∧ n ≤ hi) := of_decide_eq_false h
theorem below_drewN {B : Nat} {a w : World} (h : Below B a w) (n : Nat) : Below B a (w.drewN n) := ⟨h.os, h.tape, h.output, h.size, h.block⟩
theorem ret_bool {a b : Bool} (h : a = b) : Ending.returned (.bool a) = .returned (.bool b) := by rw [h]

theorem l1In_any (n lo hi : Int) (w : World) : Calls Tryz.prog 44 #[.int .i64 n, .int .i64 lo, .int .i64 hi] w fun e w' => e = .returned (.bool (inB lo hi n)) ∧ w' = w := by
  by_cases h1 : lo ≤ n <;> by_cases h2 : n ≤ hi <;>
  · go_enter Tryz.func44, Tryz.ntmps44
    go_wp2
    go_ret
    exact ⟨ret_bool (by simp [inB, h1, h2]), rfl⟩

/-- A good font. -/
def fontB (fa fd fn fu fb : Int) : Bool := decide (0 ≤ fa ∧ fa ≤ 6400 ∧ 0 ≤ fd ∧ fd ≤ 6400 ∧ 1 ≤ fn ∧ fn ≤ 6400 ∧ 1 ≤ fu ∧ fu ≤ 6400 ∧ 1 ≤ fb ∧ fb ≤ 6400)
theorem fontB_yes {fa fd fn fu fb : Int} (h : fontB fa fd fn fu fb = true) : 0 ≤ fa ∧ fa ≤ 6400 ∧ 0 ≤ fd ∧ fd ≤ 6400 ∧ 1 ≤ fn ∧ fn ≤ 6400 ∧ 1 ≤ fu ∧ fu ≤ 6400 ∧ 1 ≤ fb ∧ fb ≤ 6400 := of_decide_eq_true h
theorem fontB_mk {fa fd fn fu fb : Int} (h : 0 ≤ fa ∧ fa ≤ 6400 ∧ 0 ≤ fd ∧ fd ≤ 6400 ∧ 1 ≤ fn ∧ fn ≤ 6400 ∧ 1 ≤ fu ∧ fu ≤ 6400 ∧ 1 ≤ fb ∧ fb ≤ 6400) : true = fontB fa fd fn fu fb := (decide_eq_true h).symm
theorem fontB_not {fa fd fn fu fb : Int} (h : ¬ (0 ≤ fa ∧ fa ≤ 6400 ∧ 0 ≤ fd ∧ fd ≤ 6400 ∧ 1 ≤ fn ∧ fn ≤ 6400 ∧ 1 ≤ fu ∧ fu ≤ 6400 ∧ 1 ≤ fb ∧ fb ≤ 6400)) : false = fontB fa fd fn fu fb := (decide_eq_false h).symm
theorem good_cond (fa fd fn fu fb : Int) : (inB 0 6400 fa && inB 0 6400 fd && inB 1 6400 fn && inB 1 6400 fu && inB 1 6400 fb) = fontB fa fd fn fu fb := by
  rw [Bool.eq_iff_iff]
  simp only [Bool.and_eq_true, inB, fontB, decide_eq_true_eq]
  omega

/-- The first k of a font's parts lie between 0 and 6400. -/
def partsOk (fa fd fn fu fb : Int) (k : Nat) : Prop := (0 < k → 0 ≤ fa ∧ fa ≤ 6400) ∧ (1 < k → 0 ≤ fd ∧ fd ≤ 6400) ∧ (2 < k → 0 ≤ fn ∧ fn ≤ 6400) ∧ (3 < k → 0 ≤ fu ∧ fu ≤ 6400) ∧ (4 < k → 0 ≤ fb ∧ fb ≤ 6400)

end Go.Proofs.YtddnphgpdnedbaaGreatDoor

namespace Go.Proofs.YtddnphgpdnedbaaGreatDoor
open Go.ChangeShapes Go.WideShapes Go.ChangeAt Go.RowKit

/-- The kind of a letter: 1 narrow, 2 broad, 0 usual. -/
def kindOf (z : Int) : Int :=
  if z = 32 ∨ z = 33 ∨ z = 39 ∨ z = 44 ∨ z = 46 ∨ z = 58 ∨ z = 59 ∨ z = 105 ∨ z = 106 ∨ z = 108 ∨ z = 124 then 1
  else if z = 109 ∨ z = 119 ∨ z = 77 ∨ z = 87 ∨ z = 64 then 2 else 0
theorem kindOf_three (z : Int) : kindOf z = 0 ∨ kindOf z = 1 ∨ kindOf z = 2 := by
  unfold kindOf; split
  · exact .inr (.inl rfl)
  · split
    · exact .inr (.inr rfl)
    · exact .inl rfl
/-- The width of a letter. -/
def wid (fn fu fb z : Int) : Int := if kindOf z = 1 then fn else if kindOf z = 2 then fb else fu
theorem wid_0 {fn fu fb z : Int} (h : kindOf z = 0) : fu = wid fn fu fb z := by simp [wid, h]
theorem wid_1 {fn fu fb z : Int} (h : kindOf z = 1) : fn = wid fn fu fb z := by simp [wid, h]
theorem wid_2 {fn fu fb z : Int} (h : kindOf z = 2) : fb = wid fn fu fb z := by simp [wid, h]
theorem wid_bd {fn fu fb : Int} (z : Int) (h : 1 ≤ fn ∧ fn ≤ 6400 ∧ 1 ≤ fu ∧ fu ≤ 6400 ∧ 1 ≤ fb ∧ fb ≤ 6400) : 1 ≤ wid fn fu fb z ∧ wid fn fu fb z ≤ 6400 := by
  unfold wid; split
  · omega
  · split <;> omega

/-- The width of a row of letters. -/
def adv (fn fu fb : Int) (l : List UInt8) : Int := (l.map fun c => wid fn fu fb (c.toNat : Int)).sum
theorem adv_snoc (fn fu fb : Int) (l : List UInt8) (c : UInt8) : adv fn fu fb (l ++ [c]) = adv fn fu fb l + wid fn fu fb (c.toNat : Int) := by
  simp [adv]
theorem adv_bd {fn fu fb : Int} (h : 1 ≤ fn ∧ fn ≤ 6400 ∧ 1 ≤ fu ∧ fu ≤ 6400 ∧ 1 ≤ fb ∧ fb ≤ 6400) (l : List UInt8) : 0 ≤ adv fn fu fb l ∧ adv fn fu fb l ≤ 6400 * (l.length : Int) := by
  induction l with
  | nil => simp [adv]
  | cons c r ih =>
    have e : adv fn fu fb (c :: r) = wid fn fu fb (c.toNat : Int) + adv fn fu fb r := by simp [adv]
    have w := wid_bd (c.toNat : Int) h
    rw [e, List.length_cons]
    omega
theorem take_snoc (s : ByteArray) (k : Nat) (h : k < s.size) : s.data.toList.take (k + 1) = s.data.toList.take k ++ [s[k]] := by
  rw [List.take_succ_eq_append_getElem (by simpa using h)]; rfl
/-- The width of a text's first k letters. -/
def advK (fn fu fb : Int) (s : ByteArray) (k : Nat) : Int := adv fn fu fb (s.data.toList.take k)
theorem advK_zero (fn fu fb : Int) (s : ByteArray) : advK fn fu fb s 0 = 0 := rfl
theorem advK_next (fn fu fb : Int) (s : ByteArray) (k : Nat) (h : k < s.size) : advK fn fu fb s (k + 1) = advK fn fu fb s k + wid fn fu fb (s[k].toNat : Int) := by
  unfold advK; rw [take_snoc s k h, adv_snoc]
theorem advK_bd {fn fu fb : Int} (h : 1 ≤ fn ∧ fn ≤ 6400 ∧ 1 ≤ fu ∧ fu ≤ 6400 ∧ 1 ≤ fb ∧ fb ≤ 6400) (s : ByteArray) (k : Nat) : 0 ≤ advK fn fu fb s k ∧ advK fn fu fb s k ≤ 6400 * (k : Int) := by
  have b := adv_bd h (s.data.toList.take k)
  have l := List.length_take_le k s.data.toList
  unfold advK
  omega

/-- A text of plain letters. -/
def plainB (s : ByteArray) : Bool := decide (∀ j, (h : j < s.size) → 32 ≤ (s[j].toNat : Int) ∧ (s[j].toNat : Int) ≤ 126)
theorem plainB_at {s : ByteArray} (h : plainB s = true) (j : Nat) (hj : j < s.size) : 32 ≤ (s[j].toNat : Int) ∧ (s[j].toNat : Int) ≤ 126 := of_decide_eq_true h j hj
theorem plainB_mk {s : ByteArray} {k : Nat} (hk : ¬ k < s.size) (h : ∀ j, (hj : j < s.size) → j < k → 32 ≤ (s[j].toNat : Int) ∧ (s[j].toNat : Int) ≤ 126) : true = plainB s :=
  (decide_eq_true (fun j hj => h j hj (by omega))).symm
theorem plainB_not {s : ByteArray} {k : Nat} (hk : k < s.size) (h : ¬ (32 ≤ (s[k].toNat : Int) ∧ (s[k].toNat : Int) ≤ 126)) : false = plainB s :=
  (decide_eq_false (fun g => h (g k hk))).symm

/-- How many letters fit: each row of letters up to n does, and the next, where there is one, does not. -/
def FitsAt (fn fu fb : Int) (s : ByteArray) (room : Int) (n : Nat) : Prop :=
  n ≤ s.size ∧ (∀ j, j < n → advK fn fu fb s (j + 1) ≤ room) ∧ (n < s.size → room < advK fn fu fb s (n + 1))
theorem FitsAt.one {fn fu fb : Int} {s : ByteArray} {room : Int} {n m : Nat} (h : FitsAt fn fu fb s room n) (k : FitsAt fn fu fb s room m) : n = m := by
  obtain ⟨h1, h2, h3⟩ := h
  obtain ⟨k1, k2, k3⟩ := k
  by_cases a : n < m
  · have := k2 n a; have := h3 (by omega); omega
  · by_cases b : m < n
    · have := h2 m b; have := k3 (by omega); omega
    · omega
end Go.Proofs.YtddnphgpdnedbaaGreatDoor

namespace Go.Proofs.YtddnphgpdnedbaaGreatDoor
open Go.ChangeShapes Go.WideShapes Go.ChangeAt Go.RowKit
set_option linter.unusedVariables false

theorem ret_i {a b : Int} (h : a = b) : Ending.returned (.int .i64 a) = .returned (.int .i64 b) := by rw [h]

end Go.Proofs.YtddnphgpdnedbaaGreatDoor

namespace Go.Proofs.YtddnphgpdnedbaaGreatDoor
open Go.ChangeShapes Go.WideShapes Go.ChangeAt Go.RowKit
set_option linter.unusedVariables false

theorem plainByte_any (z : Int) (w : World) : Calls Tryz.prog 109 #[.int .u8 z] w fun e w' => e = .returned (.bool (inB 32 126 z)) ∧ w' = w := by
  by_cases h1 : 32 ≤ z <;> by_cases h2 : z ≤ 126 <;>
  · go_enter Tryz.func109, Tryz.ntmps109
    go_wp2
    go_ret
    exact ⟨ret_bool (by simp [inB, h1, h2]), rfl⟩

theorem bcellA {W w1 : World} (hb : Below W.heap.size W w1) : (∀ b o, b < W.heap.size → w1.cell? ⟨b, o, none⟩ = W.cell? ⟨b, o, none⟩) ∧ (∀ b o, b < W.heap.size → w1.frozen? ⟨b, o, none⟩ = W.frozen? ⟨b, o, none⟩) :=
  ⟨fun b o h => hb.cell (p := ⟨b, o, none⟩) h, fun b o h => hb.frozen (p := ⟨b, o, none⟩) h⟩
/-- What a font's box holds. -/
def BoxAt (w : World) (b : Nat) (fa fd fn fu fb : Int) : Prop :=
  b < w.heap.size ∧ w.cell? ⟨b, 0, none⟩ = some (.int .i64 fa) ∧ w.cell? ⟨b, 1, none⟩ = some (.int .i64 fd) ∧ w.cell? ⟨b, 2, none⟩ = some (.int .i64 fn) ∧ w.cell? ⟨b, 3, none⟩ = some (.int .i64 fu) ∧ w.cell? ⟨b, 4, none⟩ = some (.int .i64 fb)
theorem BoxAt.below {w w' : World} {b : Nat} {fa fd fn fu fb : Int} (h : BoxAt w b fa fd fn fu fb) (hb : Below w.heap.size w w') : BoxAt w' b fa fd fn fu fb := by
  obtain ⟨h0, h1, h2, h3, h4, h5⟩ := h
  exact ⟨Nat.lt_of_lt_of_le h0 hb.size, (hb.cell h0).trans h1, (hb.cell h0).trans h2, (hb.cell h0).trans h3, (hb.cell h0).trans h4, (hb.cell h0).trans h5⟩
theorem below_undrewN {B : Nat} {w w1 : World} {n : Nat} (h : Below B (w.drewN n) w1) : Below B w w1 := ⟨h.os, h.tape, h.output, h.size, h.block⟩
theorem below_undrewA {B : Nat} {w w1 : World} (h : Below B w.drew w1) : Below B w w1 := ⟨h.os, h.tape, h.output, h.size, h.block⟩
theorem wrapIA (x : Int) (h0 : -9223372036854775808 ≤ x) (h1 : x ≤ 9223372036854775807) : IntKind.i64.wrap x = x := by
  rw [IntKind.wrap_i64]; omega

/-- What AdvanceOf answers. -/
def advB (fa fd fn fu fb : Int) (s : ByteArray) : Bool := fontB fa fd fn fu fb && (decide (s.size ≤ 400) && plainB s)
def advN (fa fd fn fu fb : Int) (s : ByteArray) : Int := if advB fa fd fn fu fb s then advK fn fu fb s s.size else 0
theorem adv_no {fa fd fn fu fb : Int} {s : ByteArray} (h : advB fa fd fn fu fb s = false) : Value.tuple #[.int .i64 0, .bool false] = .tuple #[.int .i64 (advN fa fd fn fu fb s), .bool (advB fa fd fn fu fb s)] := by simp [advN, h]
theorem adv_yes {fa fd fn fu fb : Int} {s : ByteArray} (h : advB fa fd fn fu fb s = true) : Value.tuple #[.int .i64 (advK fn fu fb s s.size), .bool true] = .tuple #[.int .i64 (advN fa fd fn fu fb s), .bool (advB fa fd fn fu fb s)] := by simp [advN, h]

end Go.Proofs.YtddnphgpdnedbaaGreatDoor
