/-
  PlaceOf, for every page and every number.
-/
import Derived.Test.YtfgnpjlekcbicaaFst
namespace Go.Proofs.Ytfgnpjlekcbicaa
open Go.ChangeShapes Go.WideShapes Go.ChangeAt Go.RowKit
set_option linter.unusedVariables false

def ofB (node : Int) (b : Bx) : Bool := decide (b.nd = node) && !(decide (b.kd = 2))
def pgOk (P : Pg) : Bool := decide (P.ps.length = P.bs.length) && decide (P.bs.length ≤ 80)
def poI (P : Pg) (node : Int) : Int := if pgOk P = true then firstG (ofB node) P.bs else -1
def poV (P : Pg) (node : Int) : Plc := if 0 ≤ poI P node then P.ps.getD (poI P node).toNat pl0 else pl0
def poB (P : Pg) (node : Int) : Bool := decide (0 ≤ poI P node)
theorem po_none {P : Pg} {node : Int} (h : poI P node = -1) : poV P node = pl0 ∧ poB P node = false := by
  unfold poV poB
  rw [h]
  exact ⟨rfl, rfl⟩
theorem po_some {P : Pg} {node : Int} {k : Nat} {q : Plc} (h : poI P node = (k : Int)) (hq : P.ps[k]? = some q) : poV P node = q ∧ poB P node = true := by
  unfold poV poB
  rw [h]
  refine ⟨?_, decide_eq_true (by omega)⟩
  rw [if_pos (by omega), Int.toNat_natCast, List.getD_eq_getElem?_getD, hq]
  rfl
theorem pgOk_no {P : Pg} (h : ¬ (P.ps.length = P.bs.length ∧ P.bs.length ≤ 80)) : pgOk P = false := by
  unfold pgOk
  by_cases h1 : P.ps.length = P.bs.length
  · rw [decide_eq_false (p := P.bs.length ≤ 80) (fun h2 => h ⟨h1, h2⟩)]; simp
  · rw [decide_eq_false h1]; rfl
theorem pgOk_yes {P : Pg} (h1 : P.ps.length = P.bs.length) (h2 : P.bs.length ≤ 80) : pgOk P = true := by
  unfold pgOk
  rw [decide_eq_true h1, decide_eq_true h2]
  rfl
theorem poI_no {P : Pg} {node : Int} (h : pgOk P = false) : poI P node = -1 := by
  unfold poI
  rw [h]
  rfl
theorem poI_yes {P : Pg} {node : Int} (h : pgOk P = true) : poI P node = firstG (ofB node) P.bs := by
  unfold poI
  rw [if_pos h]
set_option maxRecDepth 100000 in
set_option maxHeartbeats 8000000 in
theorem specPlaceOf_any (P : Pg) (node : Int) (w : World) (hr : PgRow w P) (hl : PgLen P 1048576) :
    Calls Try.prog 13 #[.agg #[.slice P.ba P.bs.length P.bc, .slice P.pa P.ps.length P.pc, .slice P.la P.ls.length P.lc, .slice P.fa P.fs.length P.fc, .int .i64 P.hi], .int .i64 node] w fun e w' => e = .returned (.tuple #[.agg (plC (poV P node)), .bool (poB P node)]) ∧ Below w.heap.size w w' := by
  have HR : Hid (BxRow w P.ba P.bs) := hr.rb
  have HS : Hid (PlRow w P.pa P.ps) := hr.rp
  have HX : Hid (P = P) := rfl
  obtain ⟨ba, bc, bs, pa, pc, ps, la, lc, ls, fa, fc, fs, hi⟩ := P
  obtain ⟨nb, hnb⟩ : ∃ n, n = bs.length := ⟨_, rfl⟩
  obtain ⟨np, hnp⟩ : ∃ n, n = ps.length := ⟨_, rfl⟩
  have hlb : nb ≤ 1048576 := by rw [hnb]; exact hl.lb
  have H1 : Hid (nb = bs.length) := hnb
  have H2 : Hid (np = ps.length) := hnp
  obtain ⟨PP, hP⟩ : ∃ Q : Pg, Q = ⟨ba, bc, bs, pa, pc, ps, la, lc, ls, fa, fc, fs, hi⟩ := ⟨_, rfl⟩
  have HPb : Hid (PP.bs = bs) := by show PP.bs = bs; rw [hP]
  have HPp : Hid (PP.ps = ps) := by show PP.ps = ps; rw [hP]
  dsimp only at HR HS ⊢
  rw [← hP, ← hnb, ← hnp]
  generalize ls.length = nl
  generalize fs.length = nf
  clear hP hnb hnp hl hr HX
  have l0 : ((w.alloc (.cells #[.slice ba nb bc, .slice pa np pc, .slice la nl lc, .slice fa nf fc, .int .i64 hi] 47)).alloc (.cells #[.int .i64 0, .int .i64 0, .int .i64 0, .int .i64 0] 39)).heap[w.heap.size]? = some (.cells #[.slice ba nb bc, .slice pa np pc, .slice la nl lc, .slice fa nf fc, .int .i64 hi] 47 (0, 0)) := heap_in (heap_at _ _ _ rfl)
  have l1 : ((w.alloc (.cells #[.slice ba nb bc, .slice pa np pc, .slice la nl lc, .slice fa nf fc, .int .i64 hi] 47)).alloc (.cells #[.int .i64 0, .int .i64 0, .int .i64 0, .int .i64 0] 39)).heap[w.heap.size + 1]? = some (.cells #[.int .i64 0, .int .i64 0, .int .i64 0, .int .i64 0] 39 (0, 0)) := heap_at _ _ _ (by simp)
  have b0 : Below w.heap.size w ((w.alloc (.cells #[.slice ba nb bc, .slice pa np pc, .slice la nl lc, .slice fa nf fc, .int .i64 hi] 47)).alloc (.cells #[.int .i64 0, .int .i64 0, .int .i64 0, .int .i64 0] 39)) := ((Below.refl _ _).alloc (Nat.le_refl _) _).alloc (by simp) _
  by_cases hne : np = nb
  rotate_left
  · have HZ : Hid (poV PP node = pl0 ∧ poB PP node = false) := po_none (poI_no (pgOk_no (by rw [HPb.out, HPp.out, ← H1.out, ← H2.out]; omega)))
    have hne' : ¬ ((np : Int) = (nb : Int)) := by omega
    go_enter Try.func13, Try.ntmps13
    go_wp2_with (first | ((with_reducible show wpList _ _ _ (⟨none, Op.store 39 (Operand.tmp 4) _, _, _, _, _⟩ :: _) _ _); refine wpList_putA rfl _ _ _ rfl rfl _ 0 4 [.int .i64 0, .int .i64 0, .int .i64 0, .int .i64 0] _ _ rfl (by first | rfl | go_simp) l1 rfl (by kernel_rfl) (by kernel_rfl) (by kernel_rfl) ?_; intro w9 p9 l9 n9) | fail)
    exact bodyPost_ret (v := .tuple #[.agg (plC pl0), .bool false]) (results_row_tmpP Try.results13 _ _ _ _ (plC pl0) _ _ _ rfl (l9.trans (congrArg (fun c => some (Obj.cells c 39 (0, 0))) (show _ = plC pl0 from rfl))) Try.underlying39 rfl (by kernel_rfl) rfl) rfl ⟨ret_tupV (by rw [HZ.out.1]) (by rw [HZ.out.2]), p9.below b0 (by omega)⟩

  by_cases hbig : nb ≤ 80
  rotate_left
  · have HZ : Hid (poV PP node = pl0 ∧ poB PP node = false) := po_none (poI_no (pgOk_no (by rw [HPb.out, HPp.out, ← H1.out, ← H2.out]; omega)))
    have hbig' : (80 : Int) < (nb : Int) := by omega
    subst hne
    go_enter Try.func13, Try.ntmps13
    go_wp2_with (first | ((with_reducible show wpList _ _ _ (⟨none, Op.store 39 (Operand.tmp 4) _, _, _, _, _⟩ :: _) _ _); refine wpList_putA rfl _ _ _ rfl rfl _ 0 4 [.int .i64 0, .int .i64 0, .int .i64 0, .int .i64 0] _ _ rfl (by first | rfl | go_simp) l1 rfl (by kernel_rfl) (by kernel_rfl) (by kernel_rfl) ?_; intro w9 p9 l9 n9) | fail)
    exact bodyPost_ret (v := .tuple #[.agg (plC pl0), .bool false]) (results_row_tmpP Try.results13 _ _ _ _ (plC pl0) _ _ _ rfl (l9.trans (congrArg (fun c => some (Obj.cells c 39 (0, 0))) (show _ = plC pl0 from rfl))) Try.underlying39 rfl (by kernel_rfl) rfl) rfl ⟨ret_tupV (by rw [HZ.out.1]) (by rw [HZ.out.2]), p9.below b0 (by omega)⟩

  have hbig' : ¬ ((80 : Int) < (nb : Int)) := by omega
  have HI : Hid (poI PP node = firstG (ofB node) bs) := by show poI PP node = _; rw [poI_yes (pgOk_yes (by rw [HPb.out, HPp.out, ← H1.out, ← H2.out]; exact hne) (by rw [HPb.out, ← H1.out]; exact hbig)), HPb.out]
  subst hne
  go_enter Try.func13, Try.ntmps13
  go_wp2_with fail
  go_loopw [25] (fun i wr => ∃ k : Nat, k ≤ np ∧ i = .int .i64 k ∧ (∀ (i : Nat) (y : Bx), i < k → bs[i]? = some y → ofB node y = false) ∧ wr.heap[w.heap.size]? = some (.cells #[.slice ba np bc, .slice pa np pc, .slice la nl lc, .slice fa nf fc, .int .i64 hi] 47 (0, 0)) ∧ wr.heap[w.heap.size + 1]? = some (.cells #[.int .i64 0, .int .i64 0, .int .i64 0, .int .i64 0] 39 (0, 0)) ∧ Below w.heap.size w wr) (fun i _ => np - (intOf i).toNat)
  case atStart => exact ⟨0, Nat.zero_le _, rfl, fun i x hi => absurd hi (by omega), l0, l1, b0⟩
  case round =>
    clear l0 l1 b0
    obtain ⟨k, hk, rfl, hp, l0, l1, hbw⟩ := hrel
    have HP : Hid (∀ (i : Nat) (y : Bx), i < k → bs[i]? = some y → ofB node y = false) := hp
    clear hp
    by_cases hlt : k < np
    rotate_left
    · have HZ : Hid (poV PP node = pl0 ∧ poB PP node = false) := po_none (by rw [HI.out]; exact firstG_no fun i y hi hy => HP.out i y (by have := H1.out; omega) hy)
      go_wp2_with (first | ((with_reducible show wpList _ _ _ (⟨none, Op.store 39 (Operand.tmp 4) _, _, _, _, _⟩ :: _) _ _); refine wpList_putA rfl _ _ _ rfl rfl _ 0 4 [.int .i64 0, .int .i64 0, .int .i64 0, .int .i64 0] _ _ rfl (by first | rfl | go_simp) l1 rfl (by kernel_rfl) (by kernel_rfl) (by kernel_rfl) ?_; intro w9 p9 l9 n9) | fail)
      exact bodyPost_ret (v := .tuple #[.agg (plC pl0), .bool false]) (results_row_tmpP Try.results13 _ _ _ _ (plC pl0) _ _ _ rfl (l9.trans (congrArg (fun c => some (Obj.cells c 39 (0, 0))) (show _ = plC pl0 from rfl))) Try.underlying39 rfl (by kernel_rfl) rfl) rfl ⟨ret_tupV (by rw [HZ.out.1]) (by rw [HZ.out.2]), p9.below hbw (by omega)⟩

    obtain ⟨⟨xk, xn, xu, xt⟩, hx⟩ : ∃ x, bs[k]? = some x := ⟨_, List.getElem?_eq_getElem (by have := H1.out; omega)⟩
    obtain ⟨z, hz⟩ : ∃ z, ps[k]? = some z := ⟨_, List.getElem?_eq_getElem (by have := H2.out; omega)⟩
    obtain ⟨b, off, rfl, hc⟩ := bx_some HR.out hx
    obtain ⟨b', off', rfl, hc'⟩ := pl_some HS.out hz
    have hr := bx_below (hc k _ hx) hbw (bx_lt (hc k _ hx))
    have hr' := pl_below (hc' k z hz) hbw (pl_lt (hc' k z hz))
    have hsz := lies_lt l0
    obtain ⟨q0, q1, q2, q3⟩ := bx_cells hr
    dsimp only at q0 q1 q2 q3
    obtain ⟨r0, r1, r2, r3⟩ := pl_cells (pl_below hr' ((Below.refl wr.heap.size wr).alloc (Nat.le_refl _) (.cells #[.int .i64 xk, .int .i64 xn, .int .i64 xu, .string xt] 66)) (pl_lt hr'))
    have HX : Hid (bs[k]? = some ⟨xk, xn, xu, xt⟩) := hx
    have HZ2 : Hid (ps[k]? = some z) := hz
    have m0 := heap_in (o := .cells #[.int .i64 xk, .int .i64 xn, .int .i64 xu, .string xt] 66) l0
    have m1 := heap_in (o := .cells #[.int .i64 xk, .int .i64 xn, .int .i64 xu, .string xt] 66) l1
    have b2 : Below w.heap.size w (wr.alloc (.cells #[.int .i64 xk, .int .i64 xn, .int .i64 xu, .string xt] 66)) := hbw.alloc hbw.size _
    have p0 : (wr.alloc (.cells #[.int .i64 xk, .int .i64 xn, .int .i64 xu, .string xt] 66)).cell? ⟨w.heap.size, 1, none⟩ = some (.slice (some ⟨b', off', none⟩) np pc) := (lies_cell m0 1).trans rfl
    have HO : Hid (ofB node ⟨xk, xn, xu, xt⟩ = (decide (xn = node) && !(decide (xk = 2)))) := rfl
    clear hc hc' hx hz hr hr' hbw
    by_cases hn : xn = node
    rotate_left
    · have HF : Hid (ofB node ⟨xk, xn, xu, xt⟩ = false) := by show ofB node ⟨xk, xn, xu, xt⟩ = false; rw [HO.out, decide_eq_false hn]; rfl
      go_wp2
      go_roundw
      case rel => exact ⟨k + 1, by omega, by go_num, stepG HX.out HF.out HP.out, m0, m1, b2⟩
      case measure => simp [intOf]; omega
    by_cases hkd : xk = 2
    · have HF : Hid (ofB node ⟨xk, xn, xu, xt⟩ = false) := by show ofB node ⟨xk, xn, xu, xt⟩ = false; rw [HO.out, decide_eq_true hkd]; simp
      subst hkd
      subst hn
      go_wp2
      go_roundw
      case rel => exact ⟨k + 1, by omega, by go_num, stepG HX.out HF.out HP.out, m0, m1, b2⟩
      case measure => simp [intOf]; omega
    have HZ : Hid (poV PP node = z ∧ poB PP node = true) := po_some (k := k) (by rw [HI.out]; exact firstG_yes HX.out (by rw [HO.out, decide_eq_true hn, decide_eq_false hkd]; rfl) HP.out) (by rw [HPp.out]; exact HZ2.out)
    subst hn
    go_wp2_with (first | ((with_reducible show wpList _ _ _ (⟨none, Op.store 39 (Operand.tmp 4) _, _, _, _, _⟩ :: _) _ _); refine wpList_putA rfl _ _ _ rfl rfl _ 0 4 [.int .i64 z.x, .int .i64 z.y, .int .i64 z.w, .int .i64 z.h] _ _ rfl (by first | rfl | go_simp) m1 rfl (by kernel_rfl) (by kernel_rfl) (by kernel_rfl) ?_; intro w9 p9 l9 n9) | fail)
    exact bodyPost_ret (v := .tuple #[.agg (plC z), .bool true]) (results_row_tmpP Try.results13 _ _ _ _ (plC z) _ _ _ rfl (l9.trans (congrArg (fun c => some (Obj.cells c 39 (0, 0))) (show _ = plC z from rfl))) Try.underlying39 rfl (by kernel_rfl) rfl) rfl ⟨ret_tupV (by rw [HZ.out.1]) (by rw [HZ.out.2]), p9.below b2 (by omega)⟩

set_option maxRecDepth 100000 in
set_option maxHeartbeats 8000000 in
theorem isPlaced_any (ba pa la fa : Option Addr) (nb bc np pc nl lc nf fc : Nat) (hi : Int) (w : World) (hlb : nb ≤ 1048576) (hlp : np ≤ 1048576) :
    Calls Try.prog 37 #[.agg #[.slice ba nb bc, .slice pa np pc, .slice la nl lc, .slice fa nf fc, .int .i64 hi]] w fun e w' => e = .returned (.bool (decide (np = nb) && decide (nb ≤ 80))) ∧ Below w.heap.size w w' := by
  have HX : Hid ((decide (np = nb) && decide (nb ≤ 80)) = (decide (np = nb) && decide (nb ≤ 80))) := rfl
  generalize hr0 : (decide (np = nb) && decide (nb ≤ 80)) = r
  replace HX : Hid (r = (decide (np = nb) && decide (nb ≤ 80))) := hr0.symm
  clear hr0
  have b0 : Below w.heap.size w (w.alloc (.cells #[.slice ba nb bc, .slice pa np pc, .slice la nl lc, .slice fa nf fc, .int .i64 hi] 47)) := (Below.refl _ _).alloc (Nat.le_refl _) _
  by_cases h1 : nb ≤ 80
  rotate_left
  · have h1' : ¬ ((nb : Int) ≤ 80) := by omega
    obtain rfl : r = false := by rw [HX.out, decide_eq_false h1]; simp
    clear HX
    go_enter Try.func37, Try.ntmps37
    go_wp2
    go_ret
    exact ⟨rfl, b0⟩
  have h1' : (nb : Int) ≤ 80 := by omega
  by_cases h2 : np = nb
  rotate_left
  · have h2' : ((np : Int) == (nb : Int)) = false := beq_eq_false_iff_ne.2 (by omega)
    obtain rfl : r = false := by rw [HX.out, decide_eq_false h2]; rfl
    clear HX
    go_enter Try.func37, Try.ntmps37
    go_wp2
    go_ret
    exact ⟨rfl, b0⟩
  obtain rfl : r = true := by rw [HX.out, decide_eq_true h1, decide_eq_true h2]; rfl
  clear HX
  subst h2
  go_enter Try.func37, Try.ntmps37
  go_wp2
  go_ret
  exact ⟨rfl, b0⟩
set_option maxRecDepth 100000 in
set_option maxHeartbeats 8000000 in
theorem implPlaceOf_any (P : Pg) (node : Int) (w : World) (hr : PgRow w P) (hl : PgLen P 1048576) :
    Calls Try.prog 15 #[.agg #[.slice P.ba P.bs.length P.bc, .slice P.pa P.ps.length P.pc, .slice P.la P.ls.length P.lc, .slice P.fa P.fs.length P.fc, .int .i64 P.hi], .int .i64 node] w fun e w' => e = .returned (.tuple #[.agg (plC (poV P node)), .bool (poB P node)]) ∧ Below w.heap.size w w' := by
  have HR : Hid (BxRow w P.ba P.bs) := hr.rb
  have HS : Hid (PlRow w P.pa P.ps) := hr.rp
  have HX : Hid (P = P) := rfl
  obtain ⟨ba, bc, bs, pa, pc, ps, la, lc, ls, fa, fc, fs, hi⟩ := P
  obtain ⟨nb, hnb⟩ : ∃ n, n = bs.length := ⟨_, rfl⟩
  obtain ⟨np, hnp⟩ : ∃ n, n = ps.length := ⟨_, rfl⟩
  have hlb : nb ≤ 1048576 := by rw [hnb]; exact hl.lb
  have hlp : np ≤ 1048576 := by rw [hnp]; exact hl.lp
  have H1 : Hid (nb = bs.length) := hnb
  have H2 : Hid (np = ps.length) := hnp
  obtain ⟨PP, hP⟩ : ∃ Q : Pg, Q = ⟨ba, bc, bs, pa, pc, ps, la, lc, ls, fa, fc, fs, hi⟩ := ⟨_, rfl⟩
  have HPb : Hid (PP.bs = bs) := by show PP.bs = bs; rw [hP]
  have HPp : Hid (PP.ps = ps) := by show PP.ps = ps; rw [hP]
  dsimp only at HR HS ⊢
  rw [← hP, ← hnb, ← hnp]
  generalize ls.length = nl
  generalize fs.length = nf
  clear hP hnb hnp hl hr HX
  have l0 : ((w.alloc (.cells #[.slice ba nb bc, .slice pa np pc, .slice la nl lc, .slice fa nf fc, .int .i64 hi] 47)).alloc (.cells #[.int .i64 0, .int .i64 0, .int .i64 0, .int .i64 0] 39)).heap[w.heap.size]? = some (.cells #[.slice ba nb bc, .slice pa np pc, .slice la nl lc, .slice fa nf fc, .int .i64 hi] 47 (0, 0)) := heap_in (heap_at _ _ _ rfl)
  have l1 : ((w.alloc (.cells #[.slice ba nb bc, .slice pa np pc, .slice la nl lc, .slice fa nf fc, .int .i64 hi] 47)).alloc (.cells #[.int .i64 0, .int .i64 0, .int .i64 0, .int .i64 0] 39)).heap[w.heap.size + 1]? = some (.cells #[.int .i64 0, .int .i64 0, .int .i64 0, .int .i64 0] 39 (0, 0)) := heap_at _ _ _ (by simp)
  have b0 : Below w.heap.size w ((w.alloc (.cells #[.slice ba nb bc, .slice pa np pc, .slice la nl lc, .slice fa nf fc, .int .i64 hi] 47)).alloc (.cells #[.int .i64 0, .int .i64 0, .int .i64 0, .int .i64 0] 39)) := ((Below.refl _ _).alloc (Nat.le_refl _) _).alloc (by simp) _
  have IP := isPlaced_any ba pa la fa nb bc np pc nl lc nf fc hi (((w.alloc (.cells #[.slice ba nb bc, .slice pa np pc, .slice la nl lc, .slice fa nf fc, .int .i64 hi] 47)).alloc (.cells #[.int .i64 0, .int .i64 0, .int .i64 0, .int .i64 0] 39))) hlb hlp
  have HK : Hid (pgOk PP = (decide (np = nb) && decide (nb ≤ 80))) := by show pgOk PP = _; unfold pgOk; rw [HPb.out, HPp.out, ← H1.out, ← H2.out]
  rw [← HK.out] at IP
  cases hok : pgOk PP
  · rw [hok] at IP
    have HZ : Hid (poV PP node = pl0 ∧ poB PP node = false) := po_none (poI_no hok)
    clear hok HK
    go_enter Try.func15, Try.ntmps15
    go_wp2_with fail
    refine IP.mono ?_
    rintro e w1 ⟨rfl, c⟩
    replace b0 := b0.trans (c.mono b0.size)
    replace l0 := below_lies c l0 (lies_lt l0)
    replace l1 := below_lies c l1 (lies_lt l1)
    clear c IP
    go_wp2_with (first | ((with_reducible show wpList _ _ _ (⟨none, Op.store 39 (Operand.tmp 4) _, _, _, _, _⟩ :: _) _ _); refine wpList_putA rfl _ _ _ rfl rfl _ 0 4 [.int .i64 0, .int .i64 0, .int .i64 0, .int .i64 0] _ _ rfl (by first | rfl | go_simp) l1 rfl (by kernel_rfl) (by kernel_rfl) (by kernel_rfl) ?_; intro w9 p9 l9 n9) | fail)
    exact bodyPost_ret (v := .tuple #[.agg (plC pl0), .bool false]) (results_row_tmpP Try.results15 _ _ _ _ (plC pl0) _ _ _ rfl (l9.trans (congrArg (fun c => some (Obj.cells c 39 (0, 0))) (show _ = plC pl0 from rfl))) Try.underlying39 rfl (by kernel_rfl) rfl) rfl ⟨ret_tupV (by rw [HZ.out.1]) (by rw [HZ.out.2]), p9.below b0 (by omega)⟩
  have HI : Hid (poI PP node = firstG (ofB node) bs) := by show poI PP node = _; rw [poI_yes hok, HPb.out]
  have hne : np = nb := by have h := HK.out; rw [hok] at h; by_cases e : np = nb; exact e; rw [decide_eq_false e] at h; cases h
  rw [hok] at IP
  clear hok HK
  subst hne
  go_enter Try.func15, Try.ntmps15
  go_wp2_with fail
  refine IP.mono ?_
  rintro e w1 ⟨rfl, c⟩
  replace b0 := b0.trans (c.mono b0.size)
  replace l0 := below_lies c l0 (lies_lt l0)
  replace l1 := below_lies c l1 (lies_lt l1)
  clear c IP
  have p0 : w1.cell? ⟨w.heap.size, 0, none⟩ = some (.slice ba np bc) := (lies_cell l0 0).trans rfl
  go_wp2_with fail
  go_loopw [15] (fun i wr => ∃ k : Nat, k ≤ np ∧ i = .int .i64 k ∧ (∀ (i : Nat) (y : Bx), i < k → bs[i]? = some y → ofB node y = false) ∧ wr.heap[w.heap.size]? = some (.cells #[.slice ba np bc, .slice pa np pc, .slice la nl lc, .slice fa nf fc, .int .i64 hi] 47 (0, 0)) ∧ wr.heap[w.heap.size + 1]? = some (.cells #[.int .i64 0, .int .i64 0, .int .i64 0, .int .i64 0] 39 (0, 0)) ∧ Below w.heap.size w wr) (fun i _ => np - (intOf i).toNat)
  case atStart => exact ⟨0, Nat.zero_le _, rfl, fun i x hi => absurd hi (by omega), l0, l1, b0⟩
  case round =>
    clear l0 l1 b0 p0
    obtain ⟨k, hk, rfl, hp, l0, l1, hbw⟩ := hrel
    have HP : Hid (∀ (i : Nat) (y : Bx), i < k → bs[i]? = some y → ofB node y = false) := hp
    clear hp
    by_cases hlt : k < np
    rotate_left
    · have HZ : Hid (poV PP node = pl0 ∧ poB PP node = false) := po_none (by rw [HI.out]; exact firstG_no fun i y hi hy => HP.out i y (by have := H1.out; omega) hy)
      go_wp2_with (first | ((with_reducible show wpList _ _ _ (⟨none, Op.store 39 (Operand.tmp 4) _, _, _, _, _⟩ :: _) _ _); refine wpList_putA rfl _ _ _ rfl rfl _ 0 4 [.int .i64 0, .int .i64 0, .int .i64 0, .int .i64 0] _ _ rfl (by first | rfl | go_simp) l1 rfl (by kernel_rfl) (by kernel_rfl) (by kernel_rfl) ?_; intro w9 p9 l9 n9) | fail)
      exact bodyPost_ret (v := .tuple #[.agg (plC pl0), .bool false]) (results_row_tmpP Try.results15 _ _ _ _ (plC pl0) _ _ _ rfl (l9.trans (congrArg (fun c => some (Obj.cells c 39 (0, 0))) (show _ = plC pl0 from rfl))) Try.underlying39 rfl (by kernel_rfl) rfl) rfl ⟨ret_tupV (by rw [HZ.out.1]) (by rw [HZ.out.2]), p9.below hbw (by omega)⟩

    obtain ⟨⟨xk, xn, xu, xt⟩, hx⟩ : ∃ x, bs[k]? = some x := ⟨_, List.getElem?_eq_getElem (by have := H1.out; omega)⟩
    obtain ⟨z, hz⟩ : ∃ z, ps[k]? = some z := ⟨_, List.getElem?_eq_getElem (by have := H2.out; omega)⟩
    obtain ⟨b, off, rfl, hc⟩ := bx_some HR.out hx
    obtain ⟨b', off', rfl, hc'⟩ := pl_some HS.out hz
    have hr := bx_below (hc k _ hx) hbw (bx_lt (hc k _ hx))
    have hr' := pl_below (hc' k z hz) hbw (pl_lt (hc' k z hz))
    have hsz := lies_lt l0
    obtain ⟨q0, q1, q2, q3⟩ := bx_cells hr
    dsimp only at q0 q1 q2 q3
    obtain ⟨r0, r1, r2, r3⟩ := pl_cells (pl_below hr' ((Below.refl wr.heap.size wr).alloc (Nat.le_refl _) (.cells #[.int .i64 xk, .int .i64 xn, .int .i64 xu, .string xt] 66)) (pl_lt hr'))
    have HX : Hid (bs[k]? = some ⟨xk, xn, xu, xt⟩) := hx
    have HZ2 : Hid (ps[k]? = some z) := hz
    have m0 := heap_in (o := .cells #[.int .i64 xk, .int .i64 xn, .int .i64 xu, .string xt] 66) l0
    have m1 := heap_in (o := .cells #[.int .i64 xk, .int .i64 xn, .int .i64 xu, .string xt] 66) l1
    have b2 : Below w.heap.size w (wr.alloc (.cells #[.int .i64 xk, .int .i64 xn, .int .i64 xu, .string xt] 66)) := hbw.alloc hbw.size _
    have p0 : (wr.alloc (.cells #[.int .i64 xk, .int .i64 xn, .int .i64 xu, .string xt] 66)).cell? ⟨w.heap.size, 1, none⟩ = some (.slice (some ⟨b', off', none⟩) np pc) := (lies_cell m0 1).trans rfl
    have HO : Hid (ofB node ⟨xk, xn, xu, xt⟩ = (decide (xn = node) && !(decide (xk = 2)))) := rfl
    clear hc hc' hx hz hr hr' hbw
    by_cases hkd : xk = 2
    · have HF : Hid (ofB node ⟨xk, xn, xu, xt⟩ = false) := by show ofB node ⟨xk, xn, xu, xt⟩ = false; rw [HO.out, decide_eq_true hkd]; simp
      subst hkd
      go_wp2
      go_roundw
      case rel => exact ⟨k + 1, by omega, by go_num, stepG HX.out HF.out HP.out, m0, m1, b2⟩
      case measure => simp [intOf]; omega
    by_cases hn : xn = node
    rotate_left
    · have HF : Hid (ofB node ⟨xk, xn, xu, xt⟩ = false) := by show ofB node ⟨xk, xn, xu, xt⟩ = false; rw [HO.out, decide_eq_false hn]; rfl
      have hn' : (xn == node) = false := beq_eq_false_iff_ne.2 hn
      go_wp2
      go_roundw
      case rel => exact ⟨k + 1, by omega, by go_num, stepG HX.out HF.out HP.out, m0, m1, b2⟩
      case measure => simp [intOf]; omega
    have HZ : Hid (poV PP node = z ∧ poB PP node = true) := po_some (k := k) (by rw [HI.out]; exact firstG_yes HX.out (by rw [HO.out, decide_eq_true hn, decide_eq_false hkd]; rfl) HP.out) (by rw [HPp.out]; exact HZ2.out)
    subst hn
    go_wp2_with (first | ((with_reducible show wpList _ _ _ (⟨none, Op.store 39 (Operand.tmp 4) _, _, _, _, _⟩ :: _) _ _); refine wpList_putA rfl _ _ _ rfl rfl _ 0 4 [.int .i64 z.x, .int .i64 z.y, .int .i64 z.w, .int .i64 z.h] _ _ rfl (by first | rfl | go_simp) m1 rfl (by kernel_rfl) (by kernel_rfl) (by kernel_rfl) ?_; intro w9 p9 l9 n9) | fail)
    exact bodyPost_ret (v := .tuple #[.agg (plC z), .bool true]) (results_row_tmpP Try.results15 _ _ _ _ (plC z) _ _ _ rfl (l9.trans (congrArg (fun c => some (Obj.cells c 39 (0, 0))) (show _ = plC z from rfl))) Try.underlying39 rfl (by kernel_rfl) rfl) rfl ⟨ret_tupV (by rw [HZ.out.1]) (by rw [HZ.out.2]), p9.below b2 (by omega)⟩

end Go.Proofs.Ytfgnpjlekcbicaa
