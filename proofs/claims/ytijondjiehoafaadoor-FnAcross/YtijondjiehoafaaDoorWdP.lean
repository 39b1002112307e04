/-
  Chapter 6 as plain mathematics: a size in what is around, the width of a block and of a float, its left margin.
-/
import Derived.Test.YtijondjiehoafaaDoorStyM
import Derived.Test.YtijondjiehoafaaDoorPct
namespace Go.Proofs.YtijondjiehoafaaDoor
open Go.ChangeShapes Go.WideShapes Go.ChangeAt Go.RowKit
set_option linter.unusedVariables false

/-- A size in what is around. -/
def szN (p : Bool) (n b : Int) : Int := if p then down (b * n) 10000 else n
def sinB (a p : Bool) (n b : Int) : Bool := szB a p n && !a && inB 0 1000000 b && inB (-1000000) 1000000 (szN p n b)
def sinN (a p : Bool) (n b : Int) : Int := if sinB a p n b then szN p n b else 0
/-- What SizeIn answers. -/
def sinV (a p : Bool) (n b : Int) : Value := .tuple #[.int .i64 (sinN a p n b), .bool (sinB a p n b)]
theorem sin_no {a p : Bool} {n b : Int} (h : sinB a p n b = false) : Value.tuple #[.int .i64 0, .bool false] = sinV a p n b := by simp [sinV, sinN, h]
theorem sin_yes {a p : Bool} {n b m : Int} (h : sinB a p n b = true) (hm : m = szN p n b) : Value.tuple #[.int .i64 m, .bool true] = sinV a p n b := by simp [sinV, sinN, h, hm]
theorem sin_pct {n b : Int} (h : inB 0 1000000 b = true) : pct b n = sinV false true n b := by
  have hb := inB_yes h
  have e : pctB b n = sinB false true n b := by
    rw [Bool.eq_iff_iff]
    simp [pctB, sinB, szB, szN, inB]
    omega
  simp [pct, sinV, sinN, pctN, e, szN]
theorem szB_bd {a p : Bool} {n : Int} (h : szB a p n = true) : -1000000 ≤ n ∧ n ≤ 1000000 := by
  cases a <;> cases p <;> simp [szB, inB] at h <;> omega
theorem szB_pc {a : Bool} {n : Int} (h : szB a true n = true) : a = false ∧ -100000 ≤ n ∧ n ≤ 100000 := by
  cases a <;> simp [szB, inB] at h
  exact ⟨rfl, h⟩
theorem szB_au {p : Bool} {n : Int} (h : szB true p n = true) : p = false ∧ n = 0 := by
  cases p <;> simp [szB] at h
  exact ⟨rfl, h⟩
theorem szN_au {p : Bool} {n b : Int} (h : szB true p n = true) : szN p n b = 0 := by
  obtain ⟨rfl, rfl⟩ := szB_au h
  rfl

def clZ (n lo hi : Int) : Int := max (if 0 ≤ hi then min n hi else n) lo
theorem clZ_bd {n lo hi : Int} (h1 : -10000000 ≤ n) (h2 : n ≤ 10000000) (h3 : 0 ≤ lo) (h4 : lo ≤ 1000000) : 0 ≤ clZ n lo hi ∧ clZ n lo hi ≤ 10000000 := by
  unfold clZ
  split <;> omega

def eg (s : St) : Int := 2 * (s.bo + s.pa)
/-- A margin or a width, as it is told. -/
def mlN (s : St) (b : Int) : Int := szN s.ml.p s.ml.n b
def mrN (s : St) (b : Int) : Int := szN s.mr.p s.mr.n b
def wdN (s : St) (b : Int) : Int := szN s.w.p s.w.n b
def okA (s : St) (b : Int) : Bool := styleB s && inB 0 1000000 b && inB (-1000000) 1000000 (mlN s b) && inB (-1000000) 1000000 (mrN s b) && inB (-1000000) 1000000 (wdN s b)

/-- The width ahead of its cut. -/
def w0 (s : St) (b : Int) : Int := if s.w.a then max (b - eg s - mlN s b - mrN s b) 0 else wdN s b
def blW (s : St) (b : Int) : Int := clZ (w0 s b) s.mn s.mx
def blL (s : St) (b : Int) : Int :=
  if s.w.a = true ∧ blW s b = w0 s b then mlN s b
  else if s.ml.a = true ∧ s.mr.a = true ∧ 0 ≤ b - eg s - blW s b then down (b - eg s - blW s b) 2
  else if s.ml.a = true ∧ s.mr.a = false ∧ mrN s b ≤ b - eg s - blW s b then b - eg s - blW s b - mrN s b
  else mlN s b
def blR (s : St) (b : Int) : Int := b - eg s - blW s b - blL s b
def acV (l w r : Int) : Value := .agg #[.int .i64 l, .int .i64 w, .int .i64 r]
def blV (s : St) (b : Int) : Value := .tuple #[if okA s b then acV (blL s b) (blW s b) (blR s b) else acV 0 0 0, .bool (okA s b)]

def flW0 (s : St) (b nr wi : Int) : Int := if s.w.a then min wi (max nr (b - eg s - mlN s b - mrN s b)) else wdN s b
def flW (s : St) (b nr wi : Int) : Int := clZ (flW0 s b nr wi) s.mn s.mx
def okF (s : St) (b nr wi : Int) : Bool := okA s b && inB 0 1000000 nr && inB 0 1000000 wi
def flV (s : St) (b nr wi : Int) : Value := .tuple #[if okF s b nr wi then acV (mlN s b) (flW s b nr wi) (mrN s b) else acV 0 0 0, .bool (okF s b nr wi)]

def okR (s : St) (b l w r : Int) : Bool := styleB s && inB 0 1000000 b && inB (-1000000) 1000000 l && inB (-1000000) 1000000 w && inB (-1000000) 1000000 r
def rsV (s : St) (b l w r : Int) : Value := .tuple #[.int .i64 (if okR s b l w r then b - eg s - l - w - r else 0), .bool (okR s b l w r)]

theorem style_sz {s : St} (h : styleB s = true) : szB s.ml.a s.ml.p s.ml.n = true ∧ szB s.mr.a s.mr.p s.mr.n = true ∧ szB s.w.a s.w.p s.w.n = true := by
  simp only [styleB, gB, Bool.and_eq_true] at h
  exact ⟨h.1.1.1.2.1.2, h.1.1.1.2.2, h.1.1.1.2.1.1.1⟩
theorem style_bd {s : St} (h : styleB s = true) : 0 ≤ s.bo ∧ s.bo ≤ 64000 ∧ 0 ≤ s.pa ∧ s.pa ≤ 64000 ∧ 0 ≤ s.mn ∧ s.mn ≤ 1000000 ∧ -1 ≤ s.mx ∧ s.mx ≤ 1000000 := by
  simp only [styleB, gE, gC, Bool.and_eq_true] at h
  have a := inB_yes h.2.1.1
  have b := inB_yes h.2.1.2
  have c := inB_yes h.1.1.2.1.2
  have d := inB_yes h.1.1.2.2
  omega
theorem down2 (a : Int) : down a 2 = a / 2 := by
  have h1 := Int.mul_tdiv_add_tmod a 2
  have h2 := Int.tmod_lt_of_pos a (show (0 : Int) < 2 by omega)
  have h3 : -2 < a.tmod 2 := Int.lt_tmod_of_pos a (show (0 : Int) < 2 by omega)
  unfold down
  split <;> omega
end Go.Proofs.YtijondjiehoafaaDoor
