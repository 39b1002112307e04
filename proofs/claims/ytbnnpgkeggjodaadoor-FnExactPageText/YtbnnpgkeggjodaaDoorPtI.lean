/-
  The program's text of a page.
-/
import Derived.Test.YtbnnpgkeggjodaaDoorPtO
import Derived.Test.YtbnnpgkeggjodaaDoorPwE
import Derived.Test.YtbnnpgkeggjodaaDoorBldX
import Derived.Deep.RegionHeld3
namespace Go.Proofs.YtbnnpgkeggjodaaDoor
open Go.ChangeShapes Go.WideShapes Go.ChangeAt Go.RowKit
set_option linter.unusedVariables false

theorem bldP_below {B b : Nat} {bs : List Value} {w w' : World} (h : Lib.IsBuilder 53 5 B b bs w) (hb : Below w.heap.size w w') : Lib.IsBuilder 53 5 B b bs w' := by
  have at_ : ∀ p, Lib.BuilderAt 53 5 B b p bs w → Lib.BuilderAt 53 5 B b p bs w' := fun p ⟨hB, v, hk, hown, hne⟩ =>
    ⟨hB, v, below_lies hb hk (lies_lt hk), hown.kept (row := none) ⟨hb.os, hb.tape, hb.output, hb.size, fun k hk _ => hb.block k hk⟩ (by cases h : v.ownBlock <;> simp), hne⟩
  rcases h with h | h
  · exact .inl (at_ _ h)
  · exact .inr (at_ _ h)
theorem bldP_lt {B b : Nat} {bs : List Value} {w : World} (h : Lib.IsBuilder 53 5 B b bs w) : b < w.heap.size := by
  rcases h with h | h
  · exact h.lt
  · exact h.lt
theorem strP_app (a b : ByteArray) : Lib.strCells a ++ Lib.strCells b = Lib.strCells (a ++ b) := by simp [Lib.strCells]
theorem nmb5 (g : Nat) (a b c d e : Int) (t : TypeId) (fr : Nat × Nat) (W : World) (hg : W.heap[g]? = some (.cells #[.int .i64 a, .int .i64 b, .int .i64 c, .int .i64 d, .int .i64 e] t fr)) (ha : inI a) (hb : inI b) (hc : inI c) (hd : inI d) (he : inI e) (hp : Pow W) :
    Calls Tryd.prog 20 #[.slice (some ⟨g, 0, none⟩) 5 5] W fun e' w' => e' = .returned (.string (nsT [a, b, c, d, e] 5)) ∧ Below W.heap.size W w' :=
  numbers_any g 0 5 5 [a, b, c, d, e] W rfl (by omega) (fun i hi => by
    rw [Nat.zero_add]
    refine (lies_cell hg i).trans ?_
    match i, hi with
    | 0, _ => rfl
    | 1, _ => rfl
    | 2, _ => rfl
    | 3, _ => rfl
    | 4, _ => rfl) (in5 ha hb hc hd he) hp
theorem nmb4 (g : Nat) (a b c d : Int) (t : TypeId) (fr : Nat × Nat) (W : World) (hg : W.heap[g]? = some (.cells #[.int .i64 a, .int .i64 b, .int .i64 c, .int .i64 d] t fr)) (ha : inI a) (hb : inI b) (hc : inI c) (hd : inI d) (hp : Pow W) :
    Calls Tryd.prog 20 #[.slice (some ⟨g, 0, none⟩) 4 4] W fun e' w' => e' = .returned (.string (nsT [a, b, c, d] 4)) ∧ Below W.heap.size W w' :=
  numbers_any g 0 4 4 [a, b, c, d] W rfl (by omega) (fun i hi => by
    rw [Nat.zero_add]
    refine (lies_cell hg i).trans ?_
    match i, hi with
    | 0, _ => rfl
    | 1, _ => rfl
    | 2, _ => rfl
    | 3, _ => rfl) (in4 ha hb hc hd) hp
theorem nmb1 (g : Nat) (a : Int) (t : TypeId) (fr : Nat × Nat) (W : World) (hg : W.heap[g]? = some (.cells #[.int .i64 a] t fr)) (ha : inI a) (hp : Pow W) :
    Calls Tryd.prog 20 #[.slice (some ⟨g, 0, none⟩) 1 1] W fun e' w' => e' = .returned (.string (nsT [a] 1)) ∧ Below W.heap.size W w' :=
  numbers_any g 0 1 1 [a] W rfl (by omega) (fun i hi => by
    rw [Nat.zero_add]
    refine (lies_cell hg i).trans ?_
    match i, hi with
    | 0, _ => rfl) (in1 ha) hp
set_option maxRecDepth 100000 in
set_option maxHeartbeats 8000000 in
theorem isPlaced_any (ba pa la fa : Option Addr) (nb bc np pc nl lc nf fc : Nat) (hi : Int) (w : World) (hlb : nb ≤ 1048576) (hlp : np ≤ 1048576) :
    Calls Tryd.prog 18 #[.agg #[.slice ba nb bc, .slice pa np pc, .slice la nl lc, .slice fa nf fc, .int .i64 hi]] w fun e w' => e = .returned (.bool (decide (np = nb) && decide (nb ≤ 80))) ∧ Below w.heap.size w w' := by
  have HX : Hid ((decide (np = nb) && decide (nb ≤ 80)) = (decide (np = nb) && decide (nb ≤ 80))) := rfl
  generalize hr0 : (decide (np = nb) && decide (nb ≤ 80)) = r
  replace HX : Hid (r = (decide (np = nb) && decide (nb ≤ 80))) := hr0.symm
  clear hr0
  have b0 : Below w.heap.size w (w.alloc (.cells #[.slice ba nb bc, .slice pa np pc, .slice la nl lc, .slice fa nf fc, .int .i64 hi] 36)) := (Below.refl _ _).alloc (Nat.le_refl _) _
  by_cases h1 : nb ≤ 80
  rotate_left
  · have h1' : ¬ ((nb : Int) ≤ 80) := by omega
    obtain rfl : r = false := by rw [HX.out, decide_eq_false h1]; simp
    clear HX
    go_enter Tryd.func18, Tryd.ntmps18
    go_wp2
    go_ret
    exact ⟨rfl, b0⟩
  have h1' : (nb : Int) ≤ 80 := by omega
  by_cases h2 : np = nb
  rotate_left
  · have h2' : ((np : Int) == (nb : Int)) = false := beq_eq_false_iff_ne.2 (by omega)
    obtain rfl : r = false := by rw [HX.out, decide_eq_false h2]; rfl
    clear HX
    go_enter Tryd.func18, Tryd.ntmps18
    go_wp2
    go_ret
    exact ⟨rfl, b0⟩
  obtain rfl : r = true := by rw [HX.out, decide_eq_true h1, decide_eq_true h2]; rfl
  clear HX
  subst h2
  go_enter Tryd.func18, Tryd.ntmps18
  go_wp2
  go_ret
  exact ⟨rfl, b0⟩

/-- The line's cells that are read. -/
theorem lineC {B g : Nat} {W W' : World} {kb kx ky kw kh : Int} {kt : ByteArray} (c : Below B W W') (h : W.heap[g]? = some (.cells #[.int .i64 kb, .int .i64 kx, .int .i64 ky, .int .i64 kw, .int .i64 kh, .string kt] 64 (0, 0))) (hg : g < B) :
    W'.cell? ⟨g, 0, none⟩ = some (.int .i64 kb) ∧ W'.cell? ⟨g, 1, none⟩ = some (.int .i64 kx) ∧ W'.cell? ⟨g, 2, none⟩ = some (.int .i64 ky) ∧ W'.cell? ⟨g, 3, none⟩ = some (.int .i64 kw) ∧ W'.cell? ⟨g, 5, none⟩ = some (.string kt) :=
  have l := below_lies c h hg
  ⟨(lies_cell l 0).trans rfl, (lies_cell l 1).trans rfl, (lies_cell l 2).trans rfl, (lies_cell l 3).trans rfl, (lies_cell l 5).trans rfl⟩
set_option maxRecDepth 100000 in
set_option maxHeartbeats 8000000 in
theorem implPageText_any (P : Pg) (w : World) (hr : PgRow w P) (hl : PgLen P 1048576) (hin : PgIn P) (hs : ∀ (i : Nat) (x : Ln), P.ls[i]? = some x → x.tx.size ≤ 1048576) (hp : Pow w) :
    Calls Tryd.prog 7 #[.agg #[.slice P.ba P.bs.length P.bc, .slice P.pa P.ps.length P.pc, .slice P.la P.ls.length P.lc, .slice P.fa P.fs.length P.fc, .int .i64 P.hi]] w fun e w' => e = .returned (.tuple #[.string (ptT P), .bool (ptB P)]) ∧ Below w.heap.size w w' := by
  have HR : Hid (BxRow w P.ba P.bs) := hr.rb
  have HS : Hid (PlRow w P.pa P.ps) := hr.rp
  have HL : Hid (LnRow w P.la P.ls) := hr.rl
  have HP : Hid (Pow w) := hp
  have HN := pt_no (P := P)
  have HY := pt_yes (P := P)
  have HT : pgT P = lnsT (bxsT P.bs P.ps P.bs.length) P.ls P.ls.length ++ ⟨#[104, 105, 103, 104]⟩ ++ nsT [P.hi] 1 ++ ⟨#[10]⟩ := by rw [pgT]
  have g1 := hl.lb
  have g2 := hl.lp
  have g3 := hl.ll
  generalize ptB P = pb at HN HY ⊢
  generalize ptT P = pt at HN HY ⊢
  generalize pgT P = pg at HY HT
  obtain ⟨ba, bc, bs, pa, pc, ps, la, lc, ls, fa, fc, fs, hi⟩ := P
  obtain ⟨ib, ip, il, ih⟩ := hin
  dsimp only at HR HS HL ib ip il ih hs g1 g2 g3 HN HY HT ⊢
  obtain ⟨nb, hnb⟩ : ∃ n, n = bs.length := ⟨_, rfl⟩
  obtain ⟨np, hnp⟩ : ∃ n, n = ps.length := ⟨_, rfl⟩
  obtain ⟨nl, hnl⟩ : ∃ n, n = ls.length := ⟨_, rfl⟩
  have HIB : Hid (∀ (i : Nat) (x : Bx), bs[i]? = some x → inI x.nd) := ib
  have HIP : Hid (∀ (i : Nat) (x : Plc), ps[i]? = some x → inI x.x ∧ inI x.y ∧ inI x.w ∧ inI x.h) := ip
  have HIL : Hid (∀ (i : Nat) (x : Ln), ls[i]? = some x → inI x.bx ∧ inI x.x ∧ inI x.y ∧ inI x.w) := il
  have HIH : Hid (inI hi) := ih
  have HZ1 : Hid (ps.length = bs.length → ∀ i, i ≤ bs.length → (bxsT bs ps i).size ≤ 109 * i) := fun h => bxs_size ib ip h
  have HZ2 : Hid (∀ (u : ByteArray) (i : Nat), i ≤ ls.length → (lnsT u ls i).size ≤ u.size + 1048666 * i) := fun u i h => lns_size il hs i h
  have HTS : Hid (∀ (i : Nat) (x : Ln), ls[i]? = some x → x.tx.size ≤ 1048576) := hs
  have H1 : Hid (nb = bs.length) := hnb
  have H2 : Hid (np = ps.length) := hnp
  have H3 : Hid (nl = ls.length) := hnl
  rw [← hnb, ← hnp, ← hnl]
  rw [← hnb, ← hnl] at HT
  rw [← hnb] at g1
  rw [← hnp] at g2
  rw [← hnl] at g3
  rw [← hnb, ← hnp, ← hnl] at HN HY
  have HT' : Hid (pg = lnsT (bxsT bs ps nb) ls nl ++ ⟨#[104, 105, 103, 104]⟩ ++ nsT [hi] 1 ++ ⟨#[10]⟩) := HT
  have HN' : Hid (¬ (np = nb ∧ nb ≤ 80 ∧ nl ≤ 400) → pb = false ∧ pt = ⟨#[]⟩) := HN
  have HY' : Hid (np = nb → nb ≤ 80 → nl ≤ 400 → pb = true ∧ pt = pg) := HY
  generalize fs.length = nf
  clear hnb hnp hnl hs hr ib ip il ih HT HN HY hl hp
  have IP := isPlaced_any ba pa la fa nb bc np pc nl lc nf fc hi (w.alloc (.cells #[.slice ba nb bc, .slice pa np pc, .slice la nl lc, .slice fa nf fc, .int .i64 hi] 36)) g1 g2
  have b0 : Below w.heap.size w (w.alloc (.cells #[.slice ba nb bc, .slice pa np pc, .slice la nl lc, .slice fa nf fc, .int .i64 hi] 36)) := (Below.refl _ _).alloc (Nat.le_refl _) _
  have l0 : (w.alloc (.cells #[.slice ba nb bc, .slice pa np pc, .slice la nl lc, .slice fa nf fc, .int .i64 hi] 36)).heap[w.heap.size]? = some (.cells #[.slice ba nb bc, .slice pa np pc, .slice la nl lc, .slice fa nf fc, .int .i64 hi] 36 (0, 0)) := heap_at _ _ _ rfl
  by_cases h12 : np = nb ∧ nb ≤ 80
  rotate_left
  · have e : (decide (np = nb) && decide (nb ≤ 80)) = false := by
      by_cases h : np = nb
      · rw [decide_eq_false (p := nb ≤ 80) (fun h' => h12 ⟨h, h'⟩)]; simp
      · rw [decide_eq_false h]; rfl
    rw [e] at IP
    obtain ⟨rfl, rfl⟩ := HN'.out (fun h => h12 ⟨h.1, h.2.1⟩)
    clear e h12 HN' HY' l0
    go_enter Tryd.func7, Tryd.ntmps7
    go_wp2_with fail
    refine IP.mono ?_
    rintro e w1 ⟨rfl, c⟩
    replace b0 := b0.trans (c.mono b0.size)
    clear c IP
    go_wp2
    go_ret2
    exact ⟨rfl, b0⟩
  obtain ⟨h1, h2⟩ := h12
  have e : (decide (np = nb) && decide (nb ≤ 80)) = true := by rw [decide_eq_true h1, decide_eq_true h2]; rfl
  rw [e] at IP
  clear e
  by_cases h3 : nl ≤ 400
  rotate_left
  · obtain ⟨rfl, rfl⟩ := HN'.out (fun h => h3 h.2.2)
    have h3' : (400 : Int) < (nl : Int) := by omega
    clear HN' HY' h1 h2
    go_enter Tryd.func7, Tryd.ntmps7
    go_wp2_with fail
    refine IP.mono ?_
    rintro e w1 ⟨rfl, c⟩
    replace l0 := below_lies c l0 (lies_lt l0)
    replace b0 := b0.trans (c.mono b0.size)
    have p2 : w1.cell? ⟨w.heap.size, 2, none⟩ = some (.slice la nl lc) := (lies_cell l0 2).trans rfl
    clear c IP l0
    go_wp2
    go_ret2
    exact ⟨rfl, b0⟩
  have h3' : ¬ ((400 : Int) < (nl : Int)) := by omega
  obtain ⟨rfl, rfl⟩ := HY'.out h1 h2 h3
  clear HN' HY'
  subst h1
  replace HZ1 : Hid (∀ i, i ≤ bs.length → (bxsT bs ps i).size ≤ 109 * i) := HZ1.out (H2.out.symm.trans H1.out)
  go_enter Tryd.func7, Tryd.ntmps7
  go_wp2_with fail
  refine IP.mono ?_
  rintro e w1 ⟨rfl, c⟩
  replace l0 := below_lies c l0 (lies_lt l0)
  replace b0 := b0.trans (c.mono b0.size)
  have hq1 : w.heap.size < w1.heap.size := lies_lt l0
  have p2 : w1.cell? ⟨w.heap.size, 2, none⟩ = some (.slice la nl lc) := (lies_cell l0 2).trans rfl
  have p0 : (w1.alloc (.cells #[.pointer none, .slice none 0 0] 53)).cell? ⟨w.heap.size, 0, none⟩ = some (.slice ba np bc) := (lies_cell (heap_in l0) 0).trans rfl
  clear c IP
  go_wp2_with fail
  clear p0 p2
  go_loopw [22] (fun i wr => ∃ k : Nat, k ≤ np ∧ i = .int .i64 k ∧ Lib.IsBuilder 53 5 w1.heap.size w1.heap.size (Lib.strCells (bxsT bs ps k)) wr ∧ wr.heap[w.heap.size]? = some (.cells #[.slice ba np bc, .slice pa np pc, .slice la nl lc, .slice fa nf fc, .int .i64 hi] 36 (0, 0)) ∧ Below w.heap.size w wr) (fun i _ => np - (intOf i).toNat)
  case atStart => exact ⟨0, Nat.zero_le _, rfl, Lib.fresh_isBuilder 53 5 w1, heap_in l0, b0.alloc b0.size _⟩
  case round =>
    clear l0 b0
    obtain ⟨k, hk, rfl, hbd, l0, hbw⟩ := hrel
    have HBD : Hid (Lib.IsBuilder 53 5 w1.heap.size w1.heap.size (Lib.strCells (bxsT bs ps k)) wr) := hbd
    clear hbd
    by_cases hlt : k < np
    · obtain ⟨⟨xk, xn, xu, xt⟩, hx⟩ : ∃ x, bs[k]? = some x := ⟨_, List.getElem?_eq_getElem (by have := H1.out; omega)⟩
      obtain ⟨⟨qx, qy, qw, qh⟩, hq⟩ : ∃ x, ps[k]? = some x := ⟨_, List.getElem?_eq_getElem (by have := H2.out; omega)⟩
      obtain ⟨b, off, rfl, hc⟩ := bx_some HR.out hx
      obtain ⟨b', off', rfl, hc'⟩ := pl_some HS.out hq
      have hr := bx_below (hc k _ hx) hbw (bx_lt (hc k _ hx))
      have hr' := pl_below (hc' k _ hq) hbw (pl_lt (hc' k _ hq))
      obtain ⟨q0, q1, q2, q3⟩ := bx_cells hr
      dsimp only at q0 q1 q2 q3
      obtain ⟨r0, r1, r2, r3⟩ := pl_cells (pl_below hr' ((Below.refl wr.heap.size wr).alloc (Nat.le_refl _) (.cells #[.int .i64 xk, .int .i64 xn, .int .i64 xu, .string xt] 55)) (pl_lt hr'))
      dsimp only at r0 r1 r2 r3
      have m0 := heap_in (o := .cells #[.int .i64 xk, .int .i64 xn, .int .i64 xu, .string xt] 55) l0
      have m1 := heap_in (o := .cells #[.int .i64 qx, .int .i64 qy, .int .i64 qw, .int .i64 qh] 57) m0
      have b2 : Below w.heap.size w (wr.alloc (.cells #[.int .i64 xk, .int .i64 xn, .int .i64 xu, .string xt] 55)) := hbw.alloc hbw.size _
      have b3 : Below w.heap.size w ((wr.alloc (.cells #[.int .i64 xk, .int .i64 xn, .int .i64 xu, .string xt] 55)).alloc (.cells #[.int .i64 qx, .int .i64 qy, .int .i64 qw, .int .i64 qh] 57)) := b2.alloc b2.size _
      have p1 : (wr.alloc (.cells #[.int .i64 xk, .int .i64 xn, .int .i64 xu, .string xt] 55)).cell? ⟨w.heap.size, 1, none⟩ = some (.slice (some ⟨b', off', none⟩) np pc) := (lies_cell m0 1).trans rfl
      have HX : Hid (bs[k]? = some ⟨xk, xn, xu, xt⟩) := hx
      have HQ : Hid (ps[k]? = some ⟨qx, qy, qw, qh⟩) := hq
      have hIn := HIB.out k _ hx
      obtain ⟨i1, i2, i3, i4⟩ := HIP.out k _ hq
      have z1 := HZ1.out k (by have := H1.out; omega)
      clear hc hc' hx hq hr hr'
      by_cases hkd : xk = 2
      · have HF : Hid (bxsT bs ps (k + 1) = bxsT bs ps k) := bxs_no HX.out hkd
        clear hIn i1 i2 i3 i4 r0 r1 r2 r3 b3 m1 p1
        have B3 := bldP_below HBD.out ((Below.refl _ _).alloc (Nat.le_refl _) (.cells #[.int .i64 xk, .int .i64 xn, .int .i64 xu, .string xt] 55))
        subst hkd
        rw [← HF.out] at B3
        have HB3 : Hid (_ ∧ _ ∧ _) := And.intro B3 (And.intro m0 b2)
        clear B3 m0 b2
        go_wp2
        go_roundw
        case rel => exact ⟨k + 1, by omega, by go_num, HB3.out.1, HB3.out.2.1, HB3.out.2.2⟩
        case measure => simp [intOf]; omega
      · have hkd' : ¬ (xk == 2) = true := by simpa using hkd
        have HF : Hid (bxsT bs ps (k + 1) = bxsT bs ps k ++ (⟨#[98, 111, 120]⟩ ++ nsT [xn, qx, qy, qw, qh] 5 ++ ⟨#[10]⟩)) := bxs_yes5 HX.out HQ.out hkd
        have z2 := nsT_size (in5 hIn i1 i2 i3 i4) 5 (by simp)
        have C := fun W h hp => nmb5 (wr.heap.size + 1 + 1) xn qx qy qw qh 3 (0, 0) W h hIn i1 i2 i3 i4 hp
        have m2 := heap_in (o := .cells #[.int .i64 xn, .int .i64 qx, .int .i64 qy, .int .i64 qw, .int .i64 qh] 3) m1
        have b4 : Below w.heap.size w (((wr.alloc (.cells #[.int .i64 xk, .int .i64 xn, .int .i64 xu, .string xt] 55)).alloc (.cells #[.int .i64 qx, .int .i64 qy, .int .i64 qw, .int .i64 qh] 57)).alloc (.cells #[.int .i64 xn, .int .i64 qx, .int .i64 qy, .int .i64 qw, .int .i64 qh] 3)) := b3.alloc b3.size _
        have bb : Below wr.heap.size wr (((wr.alloc (.cells #[.int .i64 xk, .int .i64 xn, .int .i64 xu, .string xt] 55)).alloc (.cells #[.int .i64 qx, .int .i64 qy, .int .i64 qw, .int .i64 qh] 57)).alloc (.cells #[.int .i64 xn, .int .i64 qx, .int .i64 qy, .int .i64 qw, .int .i64 qh] 3)) := (((Below.refl _ _).alloc (Nat.le_refl _) _).alloc (by simp) _).alloc (by simp; omega) _
        clear hIn i1 i2 i3 i4
        generalize nsT [xn, qx, qy, qw, qh] 5 = u at z2 HF C
        generalize ht : bxsT bs ps k = t at z1 HF HBD
        clear ht
        go_wp2_with fail
        refine (C _ (heap_at _ _ _ (by simp)) (HP.out.below b4 (Nat.le_refl _))).mono ?_
        rintro e v1 ⟨rfl, c⟩
        replace m2 := below_lies c m2 (lies_lt m2)
        replace b4 := b4.trans (c.mono b4.size)
        replace bb := bb.trans (c.mono bb.size)
        have WR := write_any w1.heap.size w1.heap.size (Lib.strCells t) (⟨#[98, 111, 120]⟩ ++ u ++ ⟨#[10]⟩) v1 (bldP_below HBD.out bb) (by rw [Lib.strCells_length, ByteArray.size_append, ByteArray.size_append, size3, one_size]; omega) (Nat.le_trans (Nat.le_of_lt (bldP_lt HBD.out)) bb.size)
        have HM2 : Hid (_ ∧ _) := And.intro m2 b4
        clear c C m0 m1 b2 b3 p1 q0 q1 q2 q3 r0 r1 r2 r3 l0 hbw m2 b4 bb
        go_wp2_with fail
        refine WR.mono ?_
        rintro e v2 ⟨rfl, hB4, hb4, _⟩
        have m3 := below_lies hb4 HM2.out.1 hq1
        have b5 := HM2.out.2.trans (hb4.mono (Nat.le_of_lt hq1))
        rw [strP_app, ← HF.out] at hB4
        clear hb4 HM2 WR
        go_wp2
        go_roundw
        case rel => exact ⟨k + 1, by omega, by go_num, .inr hB4, m3, b5⟩
        case measure => simp [intOf]; omega
    obtain rfl : k = np := by omega
    have zu := HZ1.out k (by have := H1.out; omega)
    generalize bxsT bs ps k = u at zu HT' HBD
    have p2 : wr.cell? ⟨w.heap.size, 2, none⟩ = some (.slice la nl lc) := (lies_cell l0 2).trans rfl
    have HB0 : Hid (_ ∧ _) := And.intro l0 hbw
    clear HZ1 HR HS HIB HIP H1 H2 hlt hk l0 hbw
    go_wp2_with fail
    clear p2
    go_loopw [54] (fun i wq => ∃ j : Nat, j ≤ nl ∧ i = .int .i64 j ∧ Lib.IsBuilder 53 5 w1.heap.size w1.heap.size (Lib.strCells (lnsT u ls j)) wq ∧ wq.heap[w.heap.size]? = some (.cells #[.slice ba k bc, .slice pa k pc, .slice la nl lc, .slice fa nf fc, .int .i64 hi] 36 (0, 0)) ∧ Below w.heap.size w wq) (fun i _ => nl - (intOf i).toNat)
    case atStart => exact ⟨0, Nat.zero_le _, rfl, HBD.out, HB0.out.1, HB0.out.2⟩
    case round =>
      clear HB0 HBD
      obtain ⟨j, hj, rfl, hbd, l0, hbw⟩ := hrel
      have HBD : Hid (Lib.IsBuilder 53 5 w1.heap.size w1.heap.size (Lib.strCells (lnsT u ls j)) wr) := hbd
      clear hbd
      have z1 := HZ2.out u j (by have := H3.out; omega)
      by_cases hlt : j < nl
      rotate_left
      · obtain rfl : j = nl := by omega
        generalize lnsT u ls j = t at z1 HT' HBD
        have p4 : wr.cell? ⟨w.heap.size, 4, none⟩ = some (.int .i64 hi) := (lies_cell l0 4).trans rfl
        have z2 := nsT_size (in1 HIH.out) 1 (by simp)
        have C := fun W h hp => nmb1 wr.heap.size hi 3 (0, 0) W h HIH.out hp
        have b4 : Below w.heap.size w (wr.alloc (.cells #[.int .i64 hi] 3)) := hbw.alloc hbw.size _
        have bb : Below wr.heap.size wr (wr.alloc (.cells #[.int .i64 hi] 3)) := (Below.refl _ _).alloc (Nat.le_refl _) _
        generalize nsT [hi] 1 = v at z2 HT' C
        go_wp2_with fail
        refine (C _ (heap_at _ _ _ rfl) (HP.out.below b4 (Nat.le_refl _))).mono ?_
        rintro e v1 ⟨rfl, c⟩
        replace b4 := b4.trans (c.mono b4.size)
        replace bb := bb.trans (c.mono bb.size)
        have WR := write_any w1.heap.size w1.heap.size (Lib.strCells t) (⟨#[104, 105, 103, 104]⟩ ++ v ++ ⟨#[10]⟩) v1 (bldP_below HBD.out bb) (by rw [Lib.strCells_length, ByteArray.size_append, ByteArray.size_append, size4, one_size]; omega) (Nat.le_trans (Nat.le_of_lt (bldP_lt HBD.out)) bb.size)
        clear c C p4 l0 hbw bb
        go_wp2_with fail
        refine WR.mono ?_
        rintro e v2 ⟨rfl, hB4, hb4, _⟩
        have b5 := b4.trans (hb4.mono (Nat.le_of_lt hq1))
        have e9 : t ++ (⟨#[104, 105, 103, 104]⟩ ++ v ++ ⟨#[10]⟩) = pt := by rw [HT'.out, ByteArray.append_assoc, ByteArray.append_assoc, ByteArray.append_assoc]
        rw [strP_app, e9] at hB4
        have ST := Tryd.Builder_String_any w1.heap.size w1.heap.size pt.data.toList v2 (by rw [← Lib.strCells_eq]; exact .inr hB4) (Nat.le_of_lt (bldP_lt (.inr hB4)))
        have e3 : (⟨pt.data.toList.toArray⟩ : ByteArray) = pt := rfl
        rw [e3] at ST
        clear hb4 WR hB4 e3 e9 b4
        go_wp2_with fail
        refine ST.mono ?_
        rintro e v3 ⟨rfl, hb3⟩
        have b6 := b5.trans (hb3.mono (Nat.le_of_lt hq1))
        clear ST hb3 b5
        go_wp2
        go_ret2
        exact ⟨rfl, b6⟩
      obtain ⟨⟨kb, kx, ky, kw, kh, kt⟩, hx⟩ : ∃ x, ls[j]? = some x := ⟨_, List.getElem?_eq_getElem (by have := H3.out; omega)⟩
      obtain ⟨b, off, rfl, hc⟩ := lnsR HL.out hx
      have hr := ln_below (hc j _ hx) hbw (ln_lt (hc j _ hx))
      obtain ⟨q0, q1, q2, q3, q4, q5⟩ := ln_cells hr
      dsimp only at q0 q1 q2 q3 q4 q5
      obtain ⟨i1, i2, i3, i4⟩ := HIL.out j _ hx
      have z3 : kt.size ≤ 1048576 := HTS.out j _ hx
      have HF : Hid (lnsT u ls (j + 1) = lnsT u ls j ++ (⟨#[108, 105, 110, 101]⟩ ++ nsT [kb, kx, ky, kw] 4 ++ ⟨#[32]⟩) ++ slT kt kt.size ++ ⟨#[10]⟩) := lns_step6 hx
      have z2 := nsT_size (in4 i1 i2 i3 i4) 4 (by simp)
      have z4 := slT_size kt kt.size
      have C := fun W h hp => nmb4 (wr.heap.size + 1) kb kx ky kw 3 (0, 0) W h i1 i2 i3 i4 hp
      have OL := fun W => onOneLine_any kt W z3
      have m0 : (wr.alloc (.cells #[.int .i64 kb, .int .i64 kx, .int .i64 ky, .int .i64 kw, .int .i64 kh, .string kt] 64)).heap[wr.heap.size]? = some (.cells #[.int .i64 kb, .int .i64 kx, .int .i64 ky, .int .i64 kw, .int .i64 kh, .string kt] 64 (0, 0)) := heap_at _ _ _ rfl
      have m1 := heap_in (o := .cells #[.int .i64 kb, .int .i64 kx, .int .i64 ky, .int .i64 kw] 3) (heap_in (o := .cells #[.int .i64 kb, .int .i64 kx, .int .i64 ky, .int .i64 kw, .int .i64 kh, .string kt] 64) l0)
      have m2 : ((wr.alloc (.cells #[.int .i64 kb, .int .i64 kx, .int .i64 ky, .int .i64 kw, .int .i64 kh, .string kt] 64)).alloc (.cells #[.int .i64 kb, .int .i64 kx, .int .i64 ky, .int .i64 kw] 3)).heap[wr.heap.size]? = some (.cells #[.int .i64 kb, .int .i64 kx, .int .i64 ky, .int .i64 kw, .int .i64 kh, .string kt] 64 (0, 0)) := heap_in (heap_at _ _ _ rfl)
      have b4 : Below w.heap.size w ((wr.alloc (.cells #[.int .i64 kb, .int .i64 kx, .int .i64 ky, .int .i64 kw, .int .i64 kh, .string kt] 64)).alloc (.cells #[.int .i64 kb, .int .i64 kx, .int .i64 ky, .int .i64 kw] 3)) := (hbw.alloc hbw.size _).alloc (Nat.le_trans hbw.size (by simp)) _
      have bb : Below wr.heap.size wr ((wr.alloc (.cells #[.int .i64 kb, .int .i64 kx, .int .i64 ky, .int .i64 kw, .int .i64 kh, .string kt] 64)).alloc (.cells #[.int .i64 kb, .int .i64 kx, .int .i64 ky, .int .i64 kw] 3)) := ((Below.refl _ _).alloc (Nat.le_refl _) _).alloc (by simp) _
      have k0 := lineC (Below.refl (wr.heap.size + 1) _) m0 (by omega)
      have kj := lineC (Below.refl (wr.heap.size + 1) _) m2 (by omega)
      have HB0 : Hid (_ ∧ _) := And.intro m1 b4
      clear hc hx hr i1 i2 i3 i4 l0 hbw m1 b4
      generalize nsT [kb, kx, ky, kw] 4 = v at z2 HF C
      generalize slT kt kt.size = r at z4 HF OL
      generalize lnsT u ls j = t at z1 HF HBD
      have WR := fun W h hb => write_any w1.heap.size w1.heap.size (Lib.strCells t) (⟨#[108, 105, 110, 101]⟩ ++ v ++ ⟨#[32]⟩ ++ r ++ ⟨#[10]⟩) W h (by rw [Lib.strCells_length, ByteArray.size_append, ByteArray.size_append, ByteArray.size_append, ByteArray.size_append, size4, one_size, one_size]; omega) hb
      have HB1 := bldP_lt HBD.out
      have C0 := C (((wr.alloc (.cells #[.int .i64 kb, .int .i64 kx, .int .i64 ky, .int .i64 kw, .int .i64 kh, .string kt] 64)).alloc (.cells #[.int .i64 kb, .int .i64 kx, .int .i64 ky, .int .i64 kw] 3)).drew) (show ((wr.alloc (.cells #[.int .i64 kb, .int .i64 kx, .int .i64 ky, .int .i64 kw, .int .i64 kh, .string kt] 64)).alloc (.cells #[.int .i64 kb, .int .i64 kx, .int .i64 ky, .int .i64 kw] 3)).heap[wr.heap.size + 1]? = _ from heap_at _ _ _ (by simp)) (HP.out.below (B := w.heap.size) ⟨HB0.out.2.os, HB0.out.2.tape, HB0.out.2.output, HB0.out.2.size, HB0.out.2.block⟩ (Nat.le_refl _))
      clear C
      have x1 : ¬ (9223372036854775807 < 4 + v.size) := by omega
      have x2 : ¬ (9223372036854775807 < 4 + v.size + 1) := by omega
      have x3 : ¬ (9223372036854775807 < 4 + v.size + 1 + r.size) := by omega
      have x4 : ¬ (9223372036854775807 < 4 + v.size + 1 + r.size + 1) := by omega
      have HZ : Hid (_ ∧ _ ∧ _) := And.intro z1 (And.intro z2 z4)
      clear z1 z2 z4
      go_wp2_with fail
      go_region_held3 (fun w' => w'.cell? ⟨wr.heap.size, 0, none⟩ = some (.int .i64 kb) ∧ w'.cell? ⟨wr.heap.size, 1, none⟩ = some (.int .i64 kx) ∧ w'.cell? ⟨wr.heap.size, 2, none⟩ = some (.int .i64 ky) ∧ w'.cell? ⟨wr.heap.size, 3, none⟩ = some (.int .i64 kw) ∧ w'.cell? ⟨wr.heap.size, 5, none⟩ = some (.string kt))
        (first | go_keep | exact k3 | exact k2 | exact k1 | exact kj | exact k0)
        ((first
          | (go_at_call 20; refine C0.mono ?_; rintro e v1 ⟨rfl, c⟩; have c' : Below (wr.heap.size + 1 + 1) ((wr.alloc (.cells #[.int .i64 kb, .int .i64 kx, .int .i64 ky, .int .i64 kw, .int .i64 kh, .string kt] 64)).alloc (.cells #[.int .i64 kb, .int .i64 kx, .int .i64 ky, .int .i64 kw] 3)) v1 := ⟨c.os, c.tape, c.output, (by have := c.size; simp at this; exact Nat.le_trans (by simp) this), (fun k hk => c.block k (by simpa using hk))⟩; have k1 := lineC c' m2 (by omega))
          | (go_at_call 21; refine (OL _).mono ?_; rintro e v2 ⟨rfl, c2⟩; have d2 : Below v1.heap.size v1 v2 := ⟨c2.os, c2.tape, c2.output, c2.size, c2.block⟩; have d3 : Below (wr.heap.size + 1 + 1) ((wr.alloc (.cells #[.int .i64 kb, .int .i64 kx, .int .i64 ky, .int .i64 kw, .int .i64 kh, .string kt] 64)).alloc (.cells #[.int .i64 kb, .int .i64 kx, .int .i64 ky, .int .i64 kw] 3)) v2 := c'.trans (d2.mono (by have := c'.size; simp at this; omega)); have k2 := lineC d3 m2 (by omega))
          | (go_at_call 19; have d4 : Below wr.heap.size wr v2 := bb.trans (d3.mono (by omega)); refine (WR _ (show Lib.IsBuilder 53 5 w1.heap.size w1.heap.size (Lib.strCells t) _ from bldP_below HBD.out d4) (Nat.le_trans (Nat.le_of_lt HB1) d4.size)).mono ?_; rintro e v3 ⟨rfl, hB4, hb4, ho4⟩; have k3 := lineC (Below.refl (wr.heap.size + 1) _) (ho4 wr.heap.size _ _ _ (by omega) (by decide) (below_lies d3 m2 (by omega))) (by omega))
          | fail))
      all_goals
        have m3 := below_lies hb4 (below_lies d3 HB0.out.1 (by omega)) hq1
        have b5 : Below w.heap.size w v3 := (HB0.out.2.trans (d3.mono (by omega))).trans (hb4.mono (Nat.le_of_lt hq1))
        have e9 : t ++ (⟨#[108, 105, 110, 101]⟩ ++ v ++ ⟨#[32]⟩ ++ r ++ ⟨#[10]⟩) = lnsT u ls (j + 1) := by rw [HF.out]; simp only [ByteArray.append_assoc]
        rw [strP_app, e9] at hB4
        clear k0 kj k1 k2 k3 c c' c2 d2 d3 d4 hb4 ho4 HB0 C0 OL WR e9 bb m0 m2 q0 q1 q2 q3 q4 q5
        go_wp2
        go_roundw
        case rel => exact ⟨j + 1, by omega, by go_num, .inr hB4, m3, b5⟩
        case measure => simp [intOf]; omega
end Go.Proofs.YtbnnpgkeggjodaaDoor
