/-
  The sizes of a page's rows, as the law asks them one behind the other.
-/
import Derived.Test.YtbnnpgkeggjodaaDoorBxF
import Derived.Test.YtbnnpgkeggjodaaDoorPlF
import Derived.Test.YtbnnpgkeggjodaaDoorLnF
import Derived.Test.YtbnnpgkeggjodaaDoorAfF
namespace Go.Proofs.YtbnnpgkeggjodaaDoor
open Go.ChangeShapes Go.WideShapes Go.ChangeAt Go.RowKit
set_option linter.unusedVariables false

set_option maxRecDepth 100000 in
set_option maxHeartbeats 2000000 in
theorem szBoxesG_any (a : Option Addr) (n cap : Nat) (ns : List Bx) (left : Int) (w : World) (hq0 : 0 ≤ left) (hq1 : left ≤ 1048576) (hn : ns.length = n) (hr : BxRow w a ns) (hl : n ≤ maxLen) (hs : ∀ x ∈ ns, x.tx.size ≤ maxLen) :
    Calls Tryd.prog 9 #[.slice a n cap, .int .i64 left] w fun e w' => (∃ z : Int, e = .returned (.int .i64 z) ∧ (z = -1 ∨ 0 ≤ z ∧ z ≤ left ∧ ns.length ≤ 1048576 ∧ ∀ (i : Nat) (x : Bx), ns[i]? = some x → x.tx.size ≤ 1048576)) ∧ Below w.heap.size w w' := by
  unfold maxLen at hl
  by_cases hbig : left < (n : Int)
  · have hq : left - (n : Int) < 0 := by omega
    clear hr
    go_enter Tryd.func9, Tryd.ntmps9
    go_wp2
    go_ret
    exact ⟨⟨_, rfl, Or.inl rfl⟩, Below.refl _ _⟩
  have hq : ¬ (left - (n : Int) < 0) := by omega
  have HR : Hid (BxRow w a ns) := hr
  have HS : Hid (∀ x ∈ ns, x.tx.size ≤ maxLen) := hs
  clear hr hs
  go_enter Tryd.func9, Tryd.ntmps9
  go_wp2_with fail
  clear hq
  go_loopw [1, 5] (fun z i wr => ∃ (k : Nat) (l : Int), k ≤ n ∧ i = .int .i64 k ∧ z = .int .i64 l ∧ 0 ≤ l ∧ l ≤ left ∧ (∀ j x, j < k → ns[j]? = some x → x.tx.size ≤ 1048576) ∧ Below w.heap.size w wr) (fun _ i _ => n - (intOf i).toNat)
  case atStart => exact ⟨0, _, Nat.zero_le _, rfl, rfl, by omega, by omega, fun j x hj => absurd hj (by omega), Below.refl _ _⟩
  case round =>
    obtain ⟨k, l, hk, rfl, rfl, h0, h1, hp, hbw⟩ := hrel
    have HP : Hid (∀ j x, j < k → ns[j]? = some x → x.tx.size ≤ 1048576) := hp
    clear hp
    by_cases hlt : k < n
    · obtain ⟨x, hx⟩ : ∃ x, ns[k]? = some x := ⟨_, List.getElem?_eq_getElem (by omega)⟩
      obtain ⟨b, off, rfl, hc⟩ : ∃ b off, a = some ⟨b, off, none⟩ ∧ ∀ i n, ns[i]? = some n → w.rangeAt b (off + i * 4) (bxL n) := by
        rcases HR.out with h | h
        · rw [h] at hx; simp at hx
        · exact h
      have hr0 := hc k x hx
      have hr := bx_below hr0 hbw (bx_lt hr0)
      have SN := fun W => szBox_any x l W h0 (by omega) (HS.out x (List.mem_of_getElem? hx))
      clear hr0 hc HR
      by_cases hle : (x.tx.size : Int) ≤ l
      · rw [if_pos hle] at SN
        have hge : ¬ (l - (x.tx.size : Int) < 0) := by omega
        go_wp2_with (with_reducible show wpList _ _ _ (⟨some 21, Op.load 72 _, _, _, _, _⟩ :: _) _ _; refine wpList_load_mid rfl 72 _ rfl b (off + k * 4) rfl (bxL x) _ hr Tryd.underlying72 rfl (by kernel_rfl) ?_)
        refine (SN _).mono ?_
        rintro e w2 ⟨rfl, hb⟩
        have B2 := hbw.trans (hb.mono hbw.size)
        clear hr hb hbw SN
        go_wp2
        go_roundw
        case rel => exact ⟨k + 1, _, by omega, by go_num, rfl, by omega, by omega, fun j y hj hy => szStepX hx (by omega) HP.out j y hj hy, B2⟩
        case measure => simp [intOf]; omega
      · rw [if_neg hle] at SN
        go_wp2_with (with_reducible show wpList _ _ _ (⟨some 21, Op.load 72 _, _, _, _, _⟩ :: _) _ _; refine wpList_load_mid rfl 72 _ rfl b (off + k * 4) rfl (bxL x) _ hr Tryd.underlying72 rfl (by kernel_rfl) ?_)
        refine (SN _).mono ?_
        rintro e w2 ⟨rfl, hb⟩
        have B2 := hbw.trans (hb.mono hbw.size)
        clear hr hb hbw SN
        go_wp2
        go_ret
        exact ⟨⟨_, rfl, Or.inl rfl⟩, B2⟩
    · go_wp2
      go_ret
      exact ⟨⟨_, rfl, Or.inr ⟨h0, by omega, by omega, fun i x hx => HP.out i x (by have := (List.getElem?_eq_some_iff.1 hx).1; omega) hx⟩⟩, hbw⟩

set_option maxRecDepth 100000 in
set_option maxHeartbeats 2000000 in
theorem szLinesG_any (a : Option Addr) (n cap : Nat) (ns : List Ln) (left : Int) (w : World) (hq0 : 0 ≤ left) (hq1 : left ≤ 1048576) (hn : ns.length = n) (hr : LnRow w a ns) (hl : n ≤ maxLen) (hs : ∀ x ∈ ns, x.tx.size ≤ maxLen) :
    Calls Tryd.prog 11 #[.slice a n cap, .int .i64 left] w fun e w' => (∃ z : Int, e = .returned (.int .i64 z) ∧ (z = -1 ∨ 0 ≤ z ∧ z ≤ left ∧ ns.length ≤ 1048576 ∧ ∀ (i : Nat) (x : Ln), ns[i]? = some x → x.tx.size ≤ 1048576)) ∧ Below w.heap.size w w' := by
  unfold maxLen at hl
  by_cases hbig : left < (n : Int)
  · have hq : left - (n : Int) < 0 := by omega
    clear hr
    go_enter Tryd.func11, Tryd.ntmps11
    go_wp2
    go_ret
    exact ⟨⟨_, rfl, Or.inl rfl⟩, Below.refl _ _⟩
  have hq : ¬ (left - (n : Int) < 0) := by omega
  have HR : Hid (LnRow w a ns) := hr
  have HS : Hid (∀ x ∈ ns, x.tx.size ≤ maxLen) := hs
  clear hr hs
  go_enter Tryd.func11, Tryd.ntmps11
  go_wp2_with fail
  clear hq
  go_loopw [1, 5] (fun z i wr => ∃ (k : Nat) (l : Int), k ≤ n ∧ i = .int .i64 k ∧ z = .int .i64 l ∧ 0 ≤ l ∧ l ≤ left ∧ (∀ j x, j < k → ns[j]? = some x → x.tx.size ≤ 1048576) ∧ Below w.heap.size w wr) (fun _ i _ => n - (intOf i).toNat)
  case atStart => exact ⟨0, _, Nat.zero_le _, rfl, rfl, by omega, by omega, fun j x hj => absurd hj (by omega), Below.refl _ _⟩
  case round =>
    obtain ⟨k, l, hk, rfl, rfl, h0, h1, hp, hbw⟩ := hrel
    have HP : Hid (∀ j x, j < k → ns[j]? = some x → x.tx.size ≤ 1048576) := hp
    clear hp
    by_cases hlt : k < n
    · obtain ⟨x, hx⟩ : ∃ x, ns[k]? = some x := ⟨_, List.getElem?_eq_getElem (by omega)⟩
      obtain ⟨b, off, rfl, hc⟩ : ∃ b off, a = some ⟨b, off, none⟩ ∧ ∀ i n, ns[i]? = some n → w.rangeAt b (off + i * 6) (lnL n) := by
        rcases HR.out with h | h
        · rw [h] at hx; simp at hx
        · exact h
      have hr0 := hc k x hx
      have hr := ln_below hr0 hbw (ln_lt hr0)
      have SN := fun W => szLine_any x l W h0 (by omega) (HS.out x (List.mem_of_getElem? hx))
      clear hr0 hc HR
      by_cases hle : (x.tx.size : Int) ≤ l
      · rw [if_pos hle] at SN
        have hge : ¬ (l - (x.tx.size : Int) < 0) := by omega
        go_wp2_with (with_reducible show wpList _ _ _ (⟨some 21, Op.load 74 _, _, _, _, _⟩ :: _) _ _; refine wpList_load_mid rfl 74 _ rfl b (off + k * 6) rfl (lnL x) _ hr Tryd.underlying74 rfl (by kernel_rfl) ?_)
        refine (SN _).mono ?_
        rintro e w2 ⟨rfl, hb⟩
        have B2 := hbw.trans (hb.mono hbw.size)
        clear hr hb hbw SN
        go_wp2
        go_roundw
        case rel => exact ⟨k + 1, _, by omega, by go_num, rfl, by omega, by omega, fun j y hj hy => szStepL hx (by omega) HP.out j y hj hy, B2⟩
        case measure => simp [intOf]; omega
      · rw [if_neg hle] at SN
        go_wp2_with (with_reducible show wpList _ _ _ (⟨some 21, Op.load 74 _, _, _, _, _⟩ :: _) _ _; refine wpList_load_mid rfl 74 _ rfl b (off + k * 6) rfl (lnL x) _ hr Tryd.underlying74 rfl (by kernel_rfl) ?_)
        refine (SN _).mono ?_
        rintro e w2 ⟨rfl, hb⟩
        have B2 := hbw.trans (hb.mono hbw.size)
        clear hr hb hbw SN
        go_wp2
        go_ret
        exact ⟨⟨_, rfl, Or.inl rfl⟩, B2⟩
    · go_wp2
      go_ret
      exact ⟨⟨_, rfl, Or.inr ⟨h0, by omega, by omega, fun i x hx => HP.out i x (by have := (List.getElem?_eq_some_iff.1 hx).1; omega) hx⟩⟩, hbw⟩

set_option maxRecDepth 100000 in
set_option maxHeartbeats 2000000 in
theorem szPlacesG_any (a : Option Addr) (n cap : Nat) (left : Int) (w : World) (hq0 : 0 ≤ left) (hq1 : left ≤ 1048576) (hl : n ≤ maxLen) :
    Calls Tryd.prog 10 #[.slice a n cap, .int .i64 left] w fun e w' => (∃ z : Int, e = .returned (.int .i64 z) ∧ (z = -1 ∨ 0 ≤ z ∧ z ≤ left ∧ n ≤ 1048576)) ∧ Below w.heap.size w w' := by
  unfold maxLen at hl
  by_cases hbig : left < (n : Int)
  · have hq : left - (n : Int) < 0 := by omega
    go_enter Tryd.func10, Tryd.ntmps10
    go_wp2
    go_ret
    exact ⟨⟨_, rfl, Or.inl rfl⟩, Below.refl _ _⟩
  have hq : ¬ (left - (n : Int) < 0) := by omega
  go_enter Tryd.func10, Tryd.ntmps10
  go_wp2
  go_ret
  exact ⟨⟨_, rfl, Or.inr ⟨by omega, by omega, by omega⟩⟩, Below.refl _ _⟩
set_option maxRecDepth 100000 in
set_option maxHeartbeats 2000000 in
theorem szAsidesG_any (a : Option Addr) (n cap : Nat) (left : Int) (w : World) (hq0 : 0 ≤ left) (hq1 : left ≤ 1048576) (hl : n ≤ maxLen) :
    Calls Tryd.prog 12 #[.slice a n cap, .int .i64 left] w fun e w' => (∃ z : Int, e = .returned (.int .i64 z) ∧ (z = -1 ∨ 0 ≤ z ∧ z ≤ left ∧ n ≤ 1048576)) ∧ Below w.heap.size w w' := by
  unfold maxLen at hl
  by_cases hbig : left < (n : Int)
  · have hq : left - (n : Int) < 0 := by omega
    go_enter Tryd.func12, Tryd.ntmps12
    go_wp2
    go_ret
    exact ⟨⟨_, rfl, Or.inl rfl⟩, Below.refl _ _⟩
  have hq : ¬ (left - (n : Int) < 0) := by omega
  go_enter Tryd.func12, Tryd.ntmps12
  go_wp2
  go_ret
  exact ⟨⟨_, rfl, Or.inr ⟨by omega, by omega, by omega⟩⟩, Below.refl _ _⟩

/-- A page as plain data: where its rows lie, and what they hold. -/
structure Pg where
  ba : Option Addr
  bc : Nat
  bs : List Bx
  pa : Option Addr
  pc : Nat
  ps : List Plc
  la : Option Addr
  lc : Nat
  ls : List Ln
  fa : Option Addr
  fc : Nat
  fs : List Asd
  hi : Int
def pgL (p : Pg) : List Value := [.slice p.ba p.bs.length p.bc, .slice p.pa p.ps.length p.pc, .slice p.la p.ls.length p.lc, .slice p.fa p.fs.length p.fc, .int .i64 p.hi]
structure PgRow (w : World) (p : Pg) : Prop where
  rb : BxRow w p.ba p.bs
  rp : PlRow w p.pa p.ps
  rl : LnRow w p.la p.ls
  rf : AsRow w p.fa p.fs
structure PgLen (p : Pg) (m : Nat) : Prop where
  lb : p.bs.length ≤ m
  lp : p.ps.length ≤ m
  ll : p.ls.length ≤ m
  lf : p.fs.length ≤ m
theorem PgRow.below {w w' : World} {p : Pg} (h : PgRow w p) (hb : Below w.heap.size w w') : PgRow w' p := ⟨h.rb.below hb, h.rp.below hb, h.rl.below hb, h.rf.below hb⟩
set_option maxRecDepth 100000 in
set_option maxHeartbeats 4000000 in
theorem szPage_any (p : Pg) (left : Int) (w : World) (hq0 : 0 ≤ left) (hq1 : left ≤ 1048576) (hr : PgRow w p) (hl : PgLen p maxLen) (hs : ∀ x ∈ p.bs, x.tx.size ≤ maxLen) (ht : ∀ x ∈ p.ls, x.tx.size ≤ maxLen) :
    Calls Tryd.prog 4 #[.agg #[.slice p.ba p.bs.length p.bc, .slice p.pa p.ps.length p.pc, .slice p.la p.ls.length p.lc, .slice p.fa p.fs.length p.fc, .int .i64 p.hi], .int .i64 left] w fun e w' =>
      (∃ z : Int, e = .returned (.int .i64 z) ∧ (z = -1 ∨ 0 ≤ z ∧ z ≤ left ∧ PgLen p 1048576 ∧ (∀ (i : Nat) (x : Bx), p.bs[i]? = some x → x.tx.size ≤ 1048576) ∧ ∀ (i : Nat) (x : Ln), p.ls[i]? = some x → x.tx.size ≤ 1048576)) ∧ Below w.heap.size w w' := by
  obtain ⟨ba, bc, bs, pa, pc, ps, la, lc, ls, fa, fc, fs, hi⟩ := p
  have SB := fun (W : World) (h : Below w.heap.size w W) => szBoxesG_any ba bs.length bc bs left W hq0 hq1 rfl (hr.rb.below h) hl.lb hs
  have SP := fun (W : World) (z : Int) (h0 : 0 ≤ z) (h1 : z ≤ 1048576) => szPlacesG_any pa ps.length pc z W h0 h1 hl.lp
  have SL := fun (W : World) (z : Int) (h0 : 0 ≤ z) (h1 : z ≤ 1048576) (h : Below w.heap.size w W) => szLinesG_any la ls.length lc ls z W h0 h1 rfl (hr.rl.below h) hl.ll ht
  have SF := fun (W : World) (z : Int) (h0 : 0 ≤ z) (h1 : z ≤ 1048576) => szAsidesG_any fa fs.length fc z W h0 h1 hl.lf
  have HQ : Hid (∀ nb np nl nf : Nat, nb = bs.length → np = ps.length → nl = ls.length → nf = fs.length → nb ≤ 1048576 → np ≤ 1048576 → nl ≤ 1048576 → nf ≤ 1048576 → PgLen ⟨ba, bc, bs, pa, pc, ps, la, lc, ls, fa, fc, fs, hi⟩ 1048576) := fun nb np nl nf e1 e2 e3 e4 h1 h2 h3 h4 => ⟨e1 ▸ h1, e2 ▸ h2, e3 ▸ h3, e4 ▸ h4⟩
  clear hr hl hs ht
  dsimp only
  generalize e1 : bs.length = nb at SB
  generalize e2 : ps.length = np at SP
  generalize e3 : ls.length = nl at SL
  generalize e4 : fs.length = nf at SF
  have E1 : Hid (bs.length = nb) := e1
  have E2 : Hid (ps.length = np) := e2
  have E3 : Hid (ls.length = nl) := e3
  have E4 : Hid (fs.length = nf) := e4
  clear e1 e2 e3 e4
  have HB0 : Hid (∀ o, Below w.heap.size w (w.alloc o)) := fun o => (Below.refl _ _).alloc (Nat.le_refl _) _
  have HL0 : Hid (∀ o, (w.alloc (.cells o 27)).heap[w.heap.size]? = some (.cells o 27 (0, 0))) := fun o => heap_alloc_new w _
  go_enter Tryd.func4, Tryd.ntmps4
  go_wp2_with fail
  refine (SB _ (HB0.out _)).mono ?_
  rintro e w1 ⟨⟨z1, rfl, hz1⟩, c1⟩
  have b1 := (HB0.out _).trans (c1.mono (HB0.out _).size)
  have l1 := below_lies c1 (HL0.out _) (lies_lt (HL0.out _))
  clear c1 SB HL0 HB0
  rcases hz1 with rfl | ⟨z10, z11, zb, zt⟩
  · go_wp2
    go_ret
    exact ⟨⟨_, rfl, Or.inl rfl⟩, b1⟩
  have HZT : Hid (∀ (i : Nat) (x : Bx), bs[i]? = some x → x.tx.size ≤ 1048576) := zt
  have n1 : ¬ (z1 < 0) := by omega
  have q1 : w1.cell? ⟨w.heap.size, 1, none⟩ = some (.slice pa np pc) := (lies_cell l1 1).trans rfl
  have SP1 := fun W => SP W z1 z10 (by omega)
  clear zt SP
  go_wp2_with fail
  refine (SP1 _).mono ?_
  rintro e w2 ⟨⟨z2, rfl, hz2⟩, c2⟩
  have b2 := b1.trans (c2.mono b1.size)
  have l2 := below_lies c2 l1 (lies_lt l1)
  clear c2 SP1 l1 b1 q1
  rcases hz2 with rfl | ⟨z20, z21, zp⟩
  · go_wp2
    go_ret
    exact ⟨⟨_, rfl, Or.inl rfl⟩, b2⟩
  have n2 : ¬ (z2 < 0) := by omega
  have q2 : w2.cell? ⟨w.heap.size, 2, none⟩ = some (.slice la nl lc) := (lies_cell l2 2).trans rfl
  have SL1 := fun W h => SL W z2 z20 (by omega) h
  clear SL
  go_wp2_with fail
  refine (SL1 _ b2).mono ?_
  rintro e w3 ⟨⟨z3, rfl, hz3⟩, c3⟩
  have b3 := b2.trans (c3.mono b2.size)
  have l3 := below_lies c3 l2 (lies_lt l2)
  clear c3 SL1 l2 b2 q2
  rcases hz3 with rfl | ⟨z30, z31, zl, zt2⟩
  · go_wp2
    go_ret
    exact ⟨⟨_, rfl, Or.inl rfl⟩, b3⟩
  have HZT2 : Hid (∀ (i : Nat) (x : Ln), ls[i]? = some x → x.tx.size ≤ 1048576) := zt2
  have n3 : ¬ (z3 < 0) := by omega
  have q3 : w3.cell? ⟨w.heap.size, 3, none⟩ = some (.slice fa nf fc) := (lies_cell l3 3).trans rfl
  have SF1 := fun W => SF W z3 z30 (by omega)
  clear SF zt2
  go_wp2_with fail
  refine (SF1 _).mono ?_
  rintro e w4 ⟨⟨z4, rfl, hz4⟩, c4⟩
  have b4 := b3.trans (c4.mono b3.size)
  clear c4 SF1 l3 b3 q3
  rcases hz4 with rfl | ⟨z40, z41, zf⟩
  · go_wp2
    go_ret
    exact ⟨⟨_, rfl, Or.inl rfl⟩, b4⟩
  have n4 : ¬ (z4 < 0) := by omega
  have hle : z4 ≤ left := by omega
  have HP : Hid (PgLen ⟨ba, bc, bs, pa, pc, ps, la, lc, ls, fa, fc, fs, hi⟩ 1048576) := HQ.out nb np nl nf E1.out.symm E2.out.symm E3.out.symm E4.out.symm zb zp zl zf
  clear zb zp zl zf
  go_wp2
  go_ret
  exact ⟨⟨_, rfl, Or.inr ⟨z40, hle, HP.out, HZT.out, HZT2.out⟩⟩, b4⟩
end Go.Proofs.YtbnnpgkeggjodaaDoor
