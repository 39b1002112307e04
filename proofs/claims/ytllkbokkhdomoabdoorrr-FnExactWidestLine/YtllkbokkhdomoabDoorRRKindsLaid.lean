/-
  What the listed variable gives: the table of letters holds each letter's kind.
-/
import Derived.Test.YtllkbokkhdomoabDoorRRAdv
import Derived.Lib.LaidTab
import Derived.LaidSub
namespace Go.Proofs.YtllkbokkhdomoabDoorRR
open Go.ChangeShapes Go.WideShapes Go.ChangeAt Go.RowKit

/-- The kinds of the letters 0 .. 126. -/
def kindsL : List Int := (List.range 127).map fun j : Nat => kindOf (j : Int)
theorem kindsL_at (j : Nat) (h : j < 127) : kindsL.getD j 0 = kindOf (j : Int) := by
  simp [kindsL, List.getD, h]
theorem gKinds : Tryd.prog.globalNamed "loop.example/g00164/impl.letterKinds" = some 0 := by kernel_rfl
theorem gKindsType : (Tryd.prog.globals[0]?).map (·.type) = some 59 := by kernel_rfl
theorem cellsKinds : Tryd.prog.cellsOf 59 = 127 := by kernel_rfl
theorem cellsU8 : Tryd.prog.cellsOf 5 = 1 := by kernel_rfl
theorem kinds_of {L : List (String × DataW Unit)} {W : World} (e : L.filter (fun x => x.1 == "loop.example/g00164/impl.letterKinds") = [("loop.example/g00164/impl.letterKinds", Lib.tabData .u8 kindsL)])
    (h : laidMetH Tryd.prog L W) : Kinds W := by
  have h1 := laidMetH.filter (fun x => x.1 == "loop.example/g00164/impl.letterKinds") h
  rw [e] at h1
  have hT := Lib.tabIs_of_head (rest := []) gKinds gKindsType Tryd.underlying59 Tryd.underlying5 cellsU8 cellsKinds h1
  have c : ∀ j : Nat, j < 127 → W.cell? ⟨0, j, none⟩ = some (.int .u8 (kindOf j)) := fun j hj => by
    rw [← kindsL_at j hj]
    exact hT.cell gKinds j (by simpa [kindsL] using hj)
  exact ⟨World.block_lt_of_cell? _ ⟨0, 0, none⟩ (c 0 (by omega)), c⟩
end Go.Proofs.YtllkbokkhdomoabDoorRR
