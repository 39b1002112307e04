/-
  The program's tellLength and tellSize: a value's text, or a fault.
-/
import Derived.Test.YtddnphgpdnedbaaDoorTextTop
import Derived.Test.YtddnphgpdnedbaaDoorStyN
namespace Go.Proofs.YtddnphgpdnedbaaDoor
open Go.ChangeShapes Go.WideShapes Go.ChangeAt Go.RowKit
set_option linter.unusedVariables false

def numI (n : Int) : ByteArray := ⟨(Lib.itoa n).toArray⟩
def toldB (a p : Bool) (n : Int) : Bool := if a then true else if p then decide (n.tmod 100 = 0) else pixB n
def toldT (a p : Bool) (n : Int) : ByteArray := if a then ⟨#[97, 117, 116, 111]⟩ else if p then numI (n.tdiv 100) ++ ⟨#[37]⟩ else pixText n

/-- What the program reads beside its arguments: the table of quarters, the library's table of powers, the two sentinel errors. -/
structure Env (w : World) : Prop where
  q : Quarters w
  t : Lib.TabIs Tryd.prog w "internal/strconv.uint64pow10" .u64 Lib.pow10Tab
  e : ∃ et ev, w.cell? ⟨2, 0, none⟩ = some (.iface et ev)
  b : ∃ et ev, w.cell? ⟨0, 0, none⟩ = some (.iface et ev)
theorem gPow : Tryd.prog.globalNamed "internal/strconv.uint64pow10" = some 4 := by kernel_rfl
theorem cell_lt {w : World} {b o : Nat} {v : Value} (h : w.cell? ⟨b, o, none⟩ = some v) : b < w.heap.size := World.block_lt_of_cell? _ ⟨b, o, none⟩ h
theorem Env.below {w w' : World} {B : Nat} (E : Env w) (hb : Below B w w') (hB : w.heap.size ≤ B) : Env w' := by
  have hb := hb.mono hB
  obtain ⟨et, ev, he⟩ := E.e
  obtain ⟨bt, bv, hbb⟩ := E.b
  exact ⟨⟨Nat.lt_of_lt_of_le E.q.1 hb.size, fun j hj => (hb.cell (cell_lt (E.q.2 j hj))).trans (E.q.2 j hj)⟩, var?_below hb gPow (cell_lt (E.t.cell gPow 0 (by decide))) E.t, ⟨et, ev, (hb.cell (p := ⟨2, 0, none⟩) (cell_lt he)).trans he⟩, ⟨bt, bv, (hb.cell (p := ⟨0, 0, none⟩) (cell_lt hbb)).trans hbb⟩⟩

/-- A text and no fault, or no text and a fault. -/
def Told (ok : Bool) (t : ByteArray) (e : Ending) : Prop := (ok = true ∧ e = .returned (.tuple #[.string t, .nilIface])) ∨ (ok = false ∧ ∃ x v, e = .returned (.tuple #[.string ⟨#[]⟩, .iface x v]))

set_option maxHeartbeats 2000000 in
theorem tellLength_any (n : Int) (w : World) (E : Env w) :
    Calls Tryd.prog 77 #[.int .i64 n] w fun e w' => Told (pixB n) (pixText n) e ∧ Below w.heap.size w w' := by
  have I := implText_any n w E.q E.t
  obtain ⟨et, ev, he⟩ := E.e
  have lte := cell_lt he
  cases h : pixB n
  · rw [h] at I
    generalize pixText n = t at I ⊢
    have HE : Hid (w.cell? ⟨2, 0, none⟩ = some (.iface et ev)) := he
    clear E he
    go_enter Tryd.func77, Tryd.ntmps77
    go_wp2_with (go_at_call 81; refine I.mono ?_; rintro e w1 ⟨rfl, hb⟩; have c1 : w1.cell? ⟨2, 0, none⟩ = some (.iface et ev) := (hb.cell (p := ⟨2, 0, none⟩) lte).trans HE.out)
    go_quiet (fail)
    all_goals
      go_wp2
      go_ret2
      exact ⟨.inr ⟨rfl, _, _, rfl⟩, below_drewN hb _⟩
  · rw [h] at I
    generalize pixText n = t at I ⊢
    clear E he
    go_enter Tryd.func77, Tryd.ntmps77
    go_wp2_with (go_at_call 81; refine I.mono ?_; rintro e w1 ⟨rfl, hb⟩)
    go_ret2
    exact ⟨.inl ⟨rfl, rfl⟩, hb⟩
end Go.Proofs.YtddnphgpdnedbaaDoor
