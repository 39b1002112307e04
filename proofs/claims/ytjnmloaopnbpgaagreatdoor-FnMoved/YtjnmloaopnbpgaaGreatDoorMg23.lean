/-
 The law's own copies of a row of places.
 The sizes of a page's rows, as the law asks them one behind the other.
 A slice of lines of the law's own type that came in: what it holds.
 A slice of floats of the law's own type that came in: what it holds.
 The law's own comparison of a row of places with another of the same places.
 A page that came in, copied and compared by the law.
 Two pages of the same data compared by the law.
 The first of a row that is such, as a number; -1 where there is none.
 PlaceOf, for every page and every number.
-/
import Derived.Test.YtjnmloaopnbpgaaGreatDoorMg16
namespace Go.Proofs.YtjnmloaopnbpgaaGreatDoor
open Go.ChangeShapes Go.WideShapes Go.ChangeAt Go.RowKit
set_option linter.unusedVariables false
/-- A page as plain data: where its rows lie, and what they hold. -/
structure Pg where
 ba:Option Addr
 bc:Nat
 bs:List Bx
 pa:Option Addr
 pc:Nat
 ps:List Plc
 la:Option Addr
 lc:Nat
 ls:List Ln
 fa:Option Addr
 fc:Nat
 fs:List Asd
 hi:Int
structure PgRow (w:World) (p:Pg):Prop where
 rb:BxRow w p.ba p.bs
 rp:PlRow w p.pa p.ps
 rl:LnRow w p.la p.ls
 rf:AsRow w p.fa p.fs
structure PgLen (p:Pg) (m:Nat):Prop where
 lb:p.bs.length ≤ m
 lp:p.ps.length ≤ m
 ll:p.ls.length ≤ m
 lf:p.fs.length ≤ m
theorem PgRow.below {w w':World} {p:Pg} (h:PgRow w p) (hb:Below w.heap.size w w'):PgRow w' p:=⟨h.rb.below hb,h.rp.below hb,h.rl.below hb,h.rf.below hb⟩
theorem pl_cells {w:World} {b o:Nat} {x:Plc} (h:w.rangeAt b o (plL x)):w.cell? ⟨b,o,none⟩ = some (.int .i64 x.x) ∧ w.cell? ⟨b,o + 1,none⟩ = some (.int .i64 x.y) ∧ w.cell? ⟨b,o + 2,none⟩ = some (.int .i64 x.w) ∧ w.cell? ⟨b,o + 3,none⟩ = some (.int .i64 x.h) :=
 ⟨h 0 _ rfl,h 1 _ rfl,h 2 _ rfl,h 3 _ rfl⟩
theorem stepG {α:Type} {p:α → Bool} {q:Bool} {l:List α} {k:Nat} {x:α} (hx:l[k]? = some x) (h:p x = q) (hp:∀ (i:Nat) (x:α),i < k → l[i]? = some x → p x = q) (i:Nat) (y:α) (hi:i < k + 1) (hy:l[i]? = some y):p y = q:=by
 by_cases e:i = k
 ·subst e
  obtain rfl:=Option.some.inj (hx.symm.trans hy)
  exact h
 ·exact hp i y (by omega) hy
theorem pl_some {w:World} {a:Option Addr} {l:List Plc} (hr:PlRow w a l) {i:Nat} {x:Plc} (h:l[i]? = some x):∃ b off,a = some ⟨b,off,none⟩ ∧ ∀ i n,l[i]? = some n → w.rangeAt b (off + i * 4) (plL n):=by
 rcases hr with h' | h'
 ·rw [h'] at h;simp at h
 ·exact h'
def pgOk (P:Pg):Bool:=decide (P.ps.length = P.bs.length) && decide (P.bs.length ≤ 80)
theorem pgOk_no {P:Pg} (h:¬ (P.ps.length = P.bs.length ∧ P.bs.length ≤ 80)):pgOk P = false:=by
 unfold pgOk
 by_cases h1:P.ps.length = P.bs.length
 ·rw [decide_eq_false (p:=P.bs.length ≤ 80) (fun h2=>h ⟨h1,h2⟩)];simp
 ·rw [decide_eq_false h1];rfl
theorem pgOk_yes {P:Pg} (h1:P.ps.length = P.bs.length) (h2:P.bs.length ≤ 80):pgOk P = true:=by
 unfold pgOk
 rw [decide_eq_true h1,decide_eq_true h2]
 rfl
set_option maxRecDepth 100000 in
set_option maxHeartbeats 8000000 in
theorem isPlaced_any (ba pa la fa:Option Addr) (nb bc np pc nl lc nf fc:Nat) (hi:Int) (w:World) (hlb:nb ≤ 1048576) (hlp:np ≤ 1048576) :
  Calls Tryz.prog 22 #[.agg #[.slice ba nb bc,.slice pa np pc,.slice la nl lc,.slice fa nf fc,.int .i64 hi]] w fun e w'=>e = .returned (.bool (decide (np = nb) && decide (nb ≤ 80))) ∧ Below w.heap.size w w':=by
 have HX:Hid ((decide (np = nb) && decide (nb ≤ 80)) = (decide (np = nb) && decide (nb ≤ 80))):=rfl
 generalize hr0:(decide (np = nb) && decide (nb ≤ 80)) = r
 replace HX:Hid (r = (decide (np = nb) && decide (nb ≤ 80))):=hr0.symm
 clear hr0
 have b0:Below w.heap.size w (w.alloc (.cells #[.slice ba nb bc,.slice pa np pc,.slice la nl lc,.slice fa nf fc,.int .i64 hi] 29)):=(Below.refl _ _).alloc (Nat.le_refl _) _
 by_cases h1:nb ≤ 80
 rotate_left
 ·have h1':¬ ((nb:Int) ≤ 80):=by omega
  obtain rfl:r = false:=by rw [HX.out,decide_eq_false h1];simp
  clear HX
  go_enter Tryz.func22,Tryz.ntmps22
  go_wp2
  go_ret
  exact ⟨rfl,b0⟩
 have h1':(nb:Int) ≤ 80:=by omega
 by_cases h2:np = nb
 rotate_left
 ·have h2':((np:Int) == (nb:Int)) = false:=beq_eq_false_iff_ne.2 (by omega)
  obtain rfl:r = false:=by rw [HX.out,decide_eq_false h2];rfl
  clear HX
  go_enter Tryz.func22,Tryz.ntmps22
  go_wp2
  go_ret
  exact ⟨rfl,b0⟩
 obtain rfl:r = true:=by rw [HX.out,decide_eq_true h1,decide_eq_true h2];rfl
 clear HX
 subst h2
 go_enter Tryz.func22,Tryz.ntmps22
 go_wp2
 go_ret
 exact ⟨rfl,b0⟩
end Go.Proofs.YtjnmloaopnbpgaaGreatDoor
