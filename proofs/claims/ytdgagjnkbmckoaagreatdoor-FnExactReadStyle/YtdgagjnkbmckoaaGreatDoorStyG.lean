/-
  The program's GoodStyle, for every style; its eighteen things are good just where the model's tests are met.
-/
import Derived.Test.YtdgagjnkbmckoaaGreatDoorStyC
namespace Go.Proofs.YtdgagjnkbmckoaaGreatDoor
open Go.ChangeShapes Go.WideShapes Go.ChangeAt Go.RowKit
set_option linter.unusedVariables false

theorem szT_len (a p : Bool) (n : Int) : szT (-1000000) 1000000 false a p n = szB a p n := by
  rw [Bool.eq_iff_iff]
  cases a <;> cases p <;> simp [szT, szB, inB] <;> omega
theorem szT_width (a p : Bool) (n : Int) : szT 0 1000000 false a p n = (szB a p n && !decide (n < 0)) := by
  rw [Bool.eq_iff_iff]
  cases a <;> cases p <;> simp [szT, szB, inB] <;> omega
theorem szT_height (a p : Bool) (n : Int) : szT 0 1000000 true a p n = (szB a p n && !decide (n < 0) && !p) := by
  rw [Bool.eq_iff_iff]
  cases a <;> cases p <;> simp [szT, szB, inB] <;> omega
theorem allT_eq (s : St) : allT s = styleB s := by
  have e : allT s = (goodT s 0 && (goodT s 1 && (goodT s 2 && (goodT s 3 && (goodT s 4 && (goodT s 5 && (goodT s 6 && (goodT s 7 && (goodT s 8 && (goodT s 9 && (goodT s 10 && (goodT s 11 && (goodT s 12 && (goodT s 13 && (goodT s 14 && (goodT s 15 && (goodT s 16 && (goodT s 17 && true)))))))))))))))))) := rfl
  rw [e]
  simp only [goodT, List.getD_cons_zero, List.getD_cons_succ]
  rw [szT_len, szT_len, szT_width, szT_height]
  unfold styleB gA gB gC gD gE
  rw [Bool.eq_iff_iff]
  simp only [Bool.and_eq_true]
  constructor
  · rintro ⟨h0, h1, h2, ⟨h3, h3'⟩, ⟨⟨h4, h4'⟩, h4''⟩, h5, h6, h7, h8, h9, h10, h11, h12, h13, h14, h15, h16, h17, _⟩
    exact ⟨⟨⟨⟨⟨⟨⟨⟨h0, h1⟩, h2⟩, h13⟩, h14⟩, ⟨⟨h3, h4⟩, h10⟩, h8⟩, ⟨⟨⟨h3', h4'⟩, h4''⟩, h5⟩, h6⟩, ⟨⟨h7, h9⟩, h16⟩, h17⟩, ⟨h11, h12⟩, h15⟩
  · rintro ⟨⟨⟨⟨⟨⟨⟨⟨h0, h1⟩, h2⟩, h13⟩, h14⟩, ⟨⟨h3, h4⟩, h10⟩, h8⟩, ⟨⟨⟨h3', h4'⟩, h4''⟩, h5⟩, h6⟩, ⟨⟨h7, h9⟩, h16⟩, h17⟩, ⟨h11, h12⟩, h15⟩
    exact ⟨h0, h1, h2, ⟨h3, h3'⟩, ⟨⟨h4, h4'⟩, h4''⟩, h5, h6, h7, h8, h9, h10, h11, h12, h13, h14, h15, h16, h17, trivial⟩

end Go.Proofs.YtdgagjnkbmckoaaGreatDoor
