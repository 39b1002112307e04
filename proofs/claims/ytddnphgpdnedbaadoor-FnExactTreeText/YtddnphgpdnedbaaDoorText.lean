/-
  Contracts of PixelsText and of its model: both answer pixText of the length, for every int; the program's reads the table of quarters and the library's table of powers, as they are laid.
-/
import Derived.Test.YtddnphgpdnedbaaDoorNum
import Derived.Test.YtddnphgpdnedbaaDoorShelf
import Derived.Lib.LaidTab
import Derived.Lib.ItoaMem
namespace Go.Proofs.YtddnphgpdnedbaaDoor
open Go.ChangeShapes Go.WideShapes Go.ChangeAt Go.RowKit
set_option linter.unusedVariables false

theorem below_grow (w : World) (q : Nat) (os : Array Obj) : Below w.heap.size w (Sort.grow (w.drewN q) os) :=
  ⟨rfl, rfl, rfl, by show w.heap.size ≤ (w.heap ++ os).size; simp, fun k hk => by show (w.heap ++ os)[k]? = w.heap[k]?; rw [Array.getElem?_append_left hk]⟩
theorem itoa_any (n : Nat) (h : n < 1000000000000000000) (w : World) (htab : Lib.TabIs Tryd.prog w "internal/strconv.uint64pow10" .u64 Lib.pow10Tab) :
    Calls Tryd.prog 80 #[.int .i64 n] w fun e w' => e = .returned (.string (num n)) ∧ Below w.heap.size w w' := by
  refine (Tryd.strconv_Itoa n (by omega) (by omega) w htab).mono ?_
  rintro e w' ⟨rfl, k, os, rfl⟩
  exact ⟨by rw [Lib.itoa_nonneg]; rfl, below_grow w k os⟩

/-- The text of a quarter's part. -/
def quarter (j : Nat) : ByteArray := match j with
  | 0 => ⟨#[]⟩
  | 1 => ⟨#[46, 50, 53]⟩
  | 2 => ⟨#[46, 53]⟩
  | _ => ⟨#[46, 55, 53]⟩
def signText (n : Int) : ByteArray := if n < 0 then ⟨#[45]⟩ else ⟨#[]⟩
def pixB (n : Int) : Bool := decide (-1000000 ≤ n ∧ n ≤ 1000000 ∧ n.tmod 16 = 0)
/-- The text of a length. -/
def pixText (n : Int) : ByteArray := if pixB n then signText n ++ num (n.natAbs / 64) ++ quarter (n.natAbs % 64 / 16) ++ ⟨#[112, 120]⟩ else ⟨#[]⟩
end Go.Proofs.YtddnphgpdnedbaaDoor
