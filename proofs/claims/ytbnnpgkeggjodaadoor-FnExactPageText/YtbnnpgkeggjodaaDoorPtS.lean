/-
  The model's text of a page.
-/
import Derived.Test.YtbnnpgkeggjodaaDoorPtP
namespace Go.Proofs.YtbnnpgkeggjodaaDoor
open Go.ChangeShapes Go.WideShapes Go.ChangeAt Go.RowKit
set_option linter.unusedVariables false

theorem nums5 (g : Nat) (a b c d e : Int) (t : TypeId) (fr : Nat × Nat) (W : World) (hg : W.heap[g]? = some (.cells #[.int .i64 a, .int .i64 b, .int .i64 c, .int .i64 d, .int .i64 e] t fr)) (ha : inI a) (hb : inI b) (hc : inI c) (hd : inI d) (he : inI e) :
    Calls Tryd.prog 29 #[.slice (some ⟨g, 0, none⟩) 5 5] W fun e' w' => e' = .returned (.string (nsT [a, b, c, d, e] 5)) ∧ Below W.heap.size W w' :=
  l10Numbers_any g 0 5 5 [a, b, c, d, e] W rfl (by omega) (fun i hi => by
    rw [Nat.zero_add]
    refine (lies_cell hg i).trans ?_
    match i, hi with
    | 0, _ => rfl
    | 1, _ => rfl
    | 2, _ => rfl
    | 3, _ => rfl
    | 4, _ => rfl) (in5 ha hb hc hd he)
theorem nums4 (g : Nat) (a b c d : Int) (t : TypeId) (fr : Nat × Nat) (W : World) (hg : W.heap[g]? = some (.cells #[.int .i64 a, .int .i64 b, .int .i64 c, .int .i64 d] t fr)) (ha : inI a) (hb : inI b) (hc : inI c) (hd : inI d) :
    Calls Tryd.prog 29 #[.slice (some ⟨g, 0, none⟩) 4 4] W fun e' w' => e' = .returned (.string (nsT [a, b, c, d] 4)) ∧ Below W.heap.size W w' :=
  l10Numbers_any g 0 4 4 [a, b, c, d] W rfl (by omega) (fun i hi => by
    rw [Nat.zero_add]
    refine (lies_cell hg i).trans ?_
    match i, hi with
    | 0, _ => rfl
    | 1, _ => rfl
    | 2, _ => rfl
    | 3, _ => rfl) (in4 ha hb hc hd)
theorem nums1 (g : Nat) (a : Int) (t : TypeId) (fr : Nat × Nat) (W : World) (hg : W.heap[g]? = some (.cells #[.int .i64 a] t fr)) (ha : inI a) :
    Calls Tryd.prog 29 #[.slice (some ⟨g, 0, none⟩) 1 1] W fun e' w' => e' = .returned (.string (nsT [a] 1)) ∧ Below W.heap.size W w' :=
  l10Numbers_any g 0 1 1 [a] W rfl (by omega) (fun i hi => by
    rw [Nat.zero_add]
    refine (lies_cell hg i).trans ?_
    match i, hi with
    | 0, _ => rfl) (in1 ha)
set_option maxRecDepth 100000 in
set_option maxHeartbeats 8000000 in
theorem l10Page_any (P : Pg) (w : World) (hr : PgRow w P) (hin : PgIn P) (h1 : P.ps.length = P.bs.length) (h2 : P.bs.length ≤ 80) (h3 : P.ls.length ≤ 400) (hs : ∀ (i : Nat) (x : Ln), P.ls[i]? = some x → x.tx.size ≤ 1048576) :
    Calls Tryd.prog 13 #[.agg #[.slice P.ba P.bs.length P.bc, .slice P.pa P.ps.length P.pc, .slice P.la P.ls.length P.lc, .slice P.fa P.fs.length P.fc, .int .i64 P.hi]] w fun e w' => e = .returned (.string (pgT P)) ∧ Below w.heap.size w w' := by
  have HR : Hid (BxRow w P.ba P.bs) := hr.rb
  have HS : Hid (PlRow w P.pa P.ps) := hr.rp
  have HL : Hid (LnRow w P.la P.ls) := hr.rl
  obtain ⟨ba, bc, bs, pa, pc, ps, la, lc, ls, fa, fc, fs, hi⟩ := P
  obtain ⟨ib, ip, il, ih⟩ := hin
  dsimp only at HR HS HL ib ip il ih h1 h2 h3 hs ⊢
  have HT : Hid (pgT ⟨ba, bc, bs, pa, pc, ps, la, lc, ls, fa, fc, fs, hi⟩ = lnsT (bxsT bs ps bs.length) ls ls.length ++ ⟨#[104, 105, 103, 104]⟩ ++ nsT [hi] 1 ++ ⟨#[10]⟩) := pgT_eq _ _ _ _ _ _ _ _ _ _ _ _ _
  generalize pgT ⟨ba, bc, bs, pa, pc, ps, la, lc, ls, fa, fc, fs, hi⟩ = res at HT ⊢
  have HIB : Hid (∀ (i : Nat) (x : Bx), bs[i]? = some x → inI x.nd) := ib
  have HIP : Hid (∀ (i : Nat) (x : Plc), ps[i]? = some x → inI x.x ∧ inI x.y ∧ inI x.w ∧ inI x.h) := ip
  have HIL : Hid (∀ (i : Nat) (x : Ln), ls[i]? = some x → inI x.bx ∧ inI x.x ∧ inI x.y ∧ inI x.w) := il
  have HIH : Hid (inI hi) := ih
  have HZ1 : Hid (∀ i, i ≤ bs.length → (bxsT bs ps i).size ≤ 109 * i) := bxs_size ib ip h1
  have HZ2 : Hid (∀ (u : ByteArray) (i : Nat), i ≤ ls.length → (lnsT u ls i).size ≤ u.size + 1048666 * i) := fun u i h => lns_size il hs i h
  have HTS : Hid (∀ (i : Nat) (x : Ln), ls[i]? = some x → x.tx.size ≤ 1048576) := hs
  obtain ⟨nb, hnb⟩ : ∃ n, n = bs.length := ⟨_, rfl⟩
  obtain ⟨np, hnp⟩ : ∃ n, n = ps.length := ⟨_, rfl⟩
  obtain ⟨nl, hnl⟩ : ∃ n, n = ls.length := ⟨_, rfl⟩
  have hb80 : nb ≤ 80 := by omega
  have hl400 : nl ≤ 400 := by omega
  have hpb : np = nb := by omega
  have H1 : Hid (nb = bs.length) := hnb
  have H3 : Hid (nl = ls.length) := hnl
  rw [← hnb, ← hnp, ← hnl]
  rw [← hnb, ← hnl] at HT
  subst hpb
  have H2 : Hid (np = ps.length) := hnp
  generalize fs.length = nf
  clear hnb hnp hnl h1 h2 h3 hs hr ib ip il ih
  have l0 : (w.alloc (.cells #[.slice ba np bc, .slice pa np pc, .slice la nl lc, .slice fa nf fc, .int .i64 hi] 36)).heap[w.heap.size]? = some (.cells #[.slice ba np bc, .slice pa np pc, .slice la nl lc, .slice fa nf fc, .int .i64 hi] 36 (0, 0)) := heap_at _ _ _ rfl
  have b0 : Below w.heap.size w (w.alloc (.cells #[.slice ba np bc, .slice pa np pc, .slice la nl lc, .slice fa nf fc, .int .i64 hi] 36)) := (Below.refl _ _).alloc (Nat.le_refl _) _
  go_enter Tryd.func13, Tryd.ntmps13
  go_wp2_with fail
  go_loopw [3, 13] (fun v i wr => ∃ k : Nat, k ≤ np ∧ i = .int .i64 k ∧ v = .string (bxsT bs ps k) ∧ wr.heap[w.heap.size]? = some (.cells #[.slice ba np bc, .slice pa np pc, .slice la nl lc, .slice fa nf fc, .int .i64 hi] 36 (0, 0)) ∧ Below w.heap.size w wr) (fun _ i _ => np - (intOf i).toNat)
  case atStart => exact ⟨0, Nat.zero_le _, rfl, rfl, l0, b0⟩
  case round =>
    clear l0 b0
    obtain ⟨k, hk, rfl, rfl, l0, hbw⟩ := hrel
    by_cases hlt : k < np
    · obtain ⟨⟨xk, xn, xu, xt⟩, hx⟩ : ∃ x, bs[k]? = some x := ⟨_, List.getElem?_eq_getElem (by have := H1.out; omega)⟩
      obtain ⟨⟨qx, qy, qw, qh⟩, hq⟩ : ∃ x, ps[k]? = some x := ⟨_, List.getElem?_eq_getElem (by have := H2.out; omega)⟩
      obtain ⟨b, off, rfl, hc⟩ := bx_some HR.out hx
      obtain ⟨b', off', rfl, hc'⟩ := pl_some HS.out hq
      have hr := bx_below (hc k _ hx) hbw (bx_lt (hc k _ hx))
      have hr' := pl_below (hc' k _ hq) hbw (pl_lt (hc' k _ hq))
      obtain ⟨q0, q1, q2, q3⟩ := bx_cells hr
      dsimp only at q0 q1 q2 q3
      obtain ⟨r0, r1, r2, r3⟩ := pl_cells (pl_below hr' ((Below.refl wr.heap.size wr).alloc (Nat.le_refl _) (.cells #[.int .i64 xk, .int .i64 xn, .int .i64 xu, .string xt] 55)) (pl_lt hr'))
      dsimp only at r0 r1 r2 r3
      have m0 := heap_in (o := .cells #[.int .i64 xk, .int .i64 xn, .int .i64 xu, .string xt] 55) l0
      have m1 := heap_in (o := .cells #[.int .i64 qx, .int .i64 qy, .int .i64 qw, .int .i64 qh] 57) m0
      have b2 : Below w.heap.size w (wr.alloc (.cells #[.int .i64 xk, .int .i64 xn, .int .i64 xu, .string xt] 55)) := hbw.alloc hbw.size _
      have b3 : Below w.heap.size w ((wr.alloc (.cells #[.int .i64 xk, .int .i64 xn, .int .i64 xu, .string xt] 55)).alloc (.cells #[.int .i64 qx, .int .i64 qy, .int .i64 qw, .int .i64 qh] 57)) := b2.alloc b2.size _
      have p1 : (wr.alloc (.cells #[.int .i64 xk, .int .i64 xn, .int .i64 xu, .string xt] 55)).cell? ⟨w.heap.size, 1, none⟩ = some (.slice (some ⟨b', off', none⟩) np pc) := (lies_cell m0 1).trans rfl
      have HX : Hid (bs[k]? = some ⟨xk, xn, xu, xt⟩) := hx
      have HQ : Hid (ps[k]? = some ⟨qx, qy, qw, qh⟩) := hq
      have hIn := HIB.out k _ hx
      obtain ⟨i1, i2, i3, i4⟩ := HIP.out k _ hq
      have z1 := HZ1.out k (by have := H1.out; omega)
      clear hc hc' hx hq hr hr'
      by_cases hkd : xk = 2
      · have HF : Hid (bxsT bs ps (k + 1) = bxsT bs ps k) := bxs_no HX.out hkd
        clear hIn i1 i2 i3 i4
        generalize bxsT bs ps k = t at z1 HF
        subst hkd
        go_wp2
        go_roundw
        case rel => exact ⟨k + 1, by omega, by go_num, by rw [HF.out], m1, b3⟩
        case measure => simp [intOf]; omega
      · have HF : Hid (bxsT bs ps (k + 1) = bxsT bs ps k ++ (⟨#[98, 111, 120]⟩ ++ nsT [xn, qx, qy, qw, qh] 5 ++ ⟨#[10]⟩)) := bxs_yes5 HX.out HQ.out hkd
        have z2 := nsT_size (in5 hIn i1 i2 i3 i4) 5 (by simp)
        have C := fun W h => nums5 (wr.heap.size + 1 + 1) xn qx qy qw qh 3 (0, 0) W h hIn i1 i2 i3 i4
        have m2 := heap_in (o := .cells #[.int .i64 xn, .int .i64 qx, .int .i64 qy, .int .i64 qw, .int .i64 qh] 3) m1
        have b4 : Below w.heap.size w (((wr.alloc (.cells #[.int .i64 xk, .int .i64 xn, .int .i64 xu, .string xt] 55)).alloc (.cells #[.int .i64 qx, .int .i64 qy, .int .i64 qw, .int .i64 qh] 57)).alloc (.cells #[.int .i64 xn, .int .i64 qx, .int .i64 qy, .int .i64 qw, .int .i64 qh] 3)) := b3.alloc b3.size _
        clear hIn i1 i2 i3 i4
        generalize nsT [xn, qx, qy, qw, qh] 5 = u at z2 HF C
        generalize bxsT bs ps k = t at z1 HF
        go_wp2_with fail
        refine (C _ (heap_at _ _ _ (by simp))).mono ?_
        rintro e w1 ⟨rfl, c⟩
        replace m2 := below_lies c m2 (lies_lt m2)
        replace b4 := b4.trans (c.mono b4.size)
        clear c C m0 m1 b2 b3 p1 q0 q1 q2 q3 r0 r1 r2 r3 l0 hbw
        go_wp2
        go_roundw
        case rel => exact ⟨k + 1, by omega, by go_num, by rw [HF.out], m2, b4⟩
        case measure => simp [intOf]; omega
    obtain rfl : k = np := by omega
    have zu := HZ1.out k (by have := H1.out; omega)
    generalize bxsT bs ps k = u at zu HT
    have p2 : wr.cell? ⟨w.heap.size, 2, none⟩ = some (.slice la nl lc) := (lies_cell l0 2).trans rfl
    have HB0 : Hid (Below w.heap.size w wr) := hbw
    clear HZ1 HR HS HIB HIP H1 H2 hlt hk
    go_wp2_with fail
    clear p2
    go_loopw [3, 46] (fun v i wq => ∃ j : Nat, j ≤ nl ∧ i = .int .i64 j ∧ v = .string (lnsT u ls j) ∧ wq.heap[w.heap.size]? = some (.cells #[.slice ba k bc, .slice pa k pc, .slice la nl lc, .slice fa nf fc, .int .i64 hi] 36 (0, 0)) ∧ Below w.heap.size w wq) (fun _ i _ => nl - (intOf i).toNat)
    case atStart => exact ⟨0, Nat.zero_le _, rfl, rfl, l0, HB0.out⟩
    case round =>
      clear l0 HB0 hbw
      obtain ⟨j, hj, rfl, rfl, l0, hbw⟩ := hrel
      have z1 := HZ2.out u j (by have := H3.out; omega)
      by_cases hlt : j < nl
      rotate_left
      · obtain rfl : j = nl := by omega
        generalize lnsT u ls j = t at z1 HT
        have p4 : wr.cell? ⟨w.heap.size, 4, none⟩ = some (.int .i64 hi) := (lies_cell l0 4).trans rfl
        have z2 := nsT_size (in1 HIH.out) 1 (by simp)
        have C := fun W h => nums1 wr.heap.size hi 3 (0, 0) W h HIH.out
        have b4 : Below w.heap.size w (wr.alloc (.cells #[.int .i64 hi] 3)) := hbw.alloc hbw.size _
        generalize nsT [hi] 1 = v at z2 HT C
        go_wp2_with fail
        refine (C _ (heap_at _ _ _ rfl)).mono ?_
        rintro e w1 ⟨rfl, c⟩
        replace b4 := b4.trans (c.mono b4.size)
        clear c C p4 l0 hbw
        go_wp2
        go_ret
        exact ⟨retS HT.out.symm, b4⟩
      obtain ⟨⟨kb, kx, ky, kw, kh, kt⟩, hx⟩ : ∃ x, ls[j]? = some x := ⟨_, List.getElem?_eq_getElem (by have := H3.out; omega)⟩
      obtain ⟨b, off, rfl, hc⟩ := lnsR HL.out hx
      have hr := ln_below (hc j _ hx) hbw (ln_lt (hc j _ hx))
      obtain ⟨q0, q1, q2, q3, q4, q5⟩ := ln_cells hr
      dsimp only at q0 q1 q2 q3 q4 q5
      obtain ⟨i1, i2, i3, i4⟩ := HIL.out j _ hx
      have z3 : kt.size ≤ 1048576 := HTS.out j _ hx
      have HF : Hid (lnsT u ls (j + 1) = lnsT u ls j ++ (⟨#[108, 105, 110, 101]⟩ ++ nsT [kb, kx, ky, kw] 4 ++ ⟨#[32]⟩) ++ slT kt kt.size ++ ⟨#[10]⟩) := lns_step6 hx
      have z2 := nsT_size (in4 i1 i2 i3 i4) 4 (by simp)
      have C := fun W h => nums4 (wr.heap.size + 1) kb kx ky kw 3 (0, 0) W h i1 i2 i3 i4
      have m1 := heap_in (o := .cells #[.int .i64 kb, .int .i64 kx, .int .i64 ky, .int .i64 kw] 3) (heap_in (o := .cells #[.int .i64 kb, .int .i64 kx, .int .i64 ky, .int .i64 kw, .int .i64 kh, .string kt] 64) l0)
      have m2 : ((wr.alloc (.cells #[.int .i64 kb, .int .i64 kx, .int .i64 ky, .int .i64 kw, .int .i64 kh, .string kt] 64)).alloc (.cells #[.int .i64 kb, .int .i64 kx, .int .i64 ky, .int .i64 kw] 3)).heap[wr.heap.size]? = some (.cells #[.int .i64 kb, .int .i64 kx, .int .i64 ky, .int .i64 kw, .int .i64 kh, .string kt] 64 (0, 0)) := heap_in (heap_at _ _ _ rfl)
      have b4 : Below w.heap.size w ((wr.alloc (.cells #[.int .i64 kb, .int .i64 kx, .int .i64 ky, .int .i64 kw, .int .i64 kh, .string kt] 64)).alloc (.cells #[.int .i64 kb, .int .i64 kx, .int .i64 ky, .int .i64 kw] 3)) := (hbw.alloc hbw.size _).alloc (Nat.le_trans hbw.size (by simp)) _
      clear hc hx hr i1 i2 i3 i4
      generalize nsT [kb, kx, ky, kw] 4 = v at z2 HF C
      generalize lnsT u ls j = t at z1 HF
      go_wp2_with fail
      refine (C _ (heap_at _ _ _ (by simp))).mono ?_
      rintro e w1 ⟨rfl, c⟩
      replace m1 := below_lies c m1 (lies_lt m1)
      replace m2 := below_lies c m2 (lies_lt m2)
      replace b4 := b4.trans (c.mono b4.size)
      have c5 : w1.cell? ⟨wr.heap.size, 5, none⟩ = some (.string kt) := (lies_cell m2 5).trans rfl
      clear c C l0 hbw q0 q1 q2 q3 q4 q5 m2
      obtain ⟨acc, hacc⟩ : ∃ acc, acc = t ++ (⟨#[108, 105, 110, 101]⟩ ++ v ++ ⟨#[32]⟩) := ⟨_, rfl⟩
      have za : acc.size ≤ 419500000 := by
        rw [hacc, ByteArray.size_append, ByteArray.size_append, ByteArray.size_append, size4, one_size]
        omega
      rw [← hacc] at HF
      have HA : Hid (acc = t ++ (⟨#[108, 105, 110, 101]⟩ ++ v ++ ⟨#[32]⟩)) := hacc
      clear hacc
      go_wp2_with fail
      try rw [← HA.out]
      go_loop [3, 9] (fun v i => ∃ k : Nat, k ≤ kt.size ∧ i = .int .i64 k ∧ v = .string (acc ++ slT kt k)) (fun _ i => kt.size - (intOf i).toNat)
      case atStart => exact ⟨0, Nat.zero_le _, rfl, by rw [slT_nil]⟩
      case round =>
        obtain ⟨k, hk, rfl, rfl⟩ := hrel
        have z4 := slT_size kt k
        have z5 : (acc ++ slT kt k).size ≤ 421000000 := by rw [ByteArray.size_append]; omega
        by_cases hlk : k < kt.size
        · by_cases h10 : (kt[k].toNat : Int) = 10
          · have HK : Hid (acc ++ slT kt (k + 1) = acc ++ slT kt k ++ ⟨#[47]⟩) := by show _ = _; rw [slT_ten hlk h10, ByteArray.append_assoc]
            generalize acc ++ slT kt k = t2 at z5 HK
            go_wp2
            go_round
            case rel => exact ⟨k + 1, by omega, by go_num, by rw [HK.out]⟩
            case measure => simp [intOf]; omega
          · have HK : Hid (acc ++ slT kt (k + 1) = acc ++ slT kt k ++ kt.extract k (k + 1)) := by show _ = _; rw [slT_not hlk h10, ByteArray.append_assoc]
            have z6 : (kt.extract k (k + 1)).size ≤ 1 := by rw [ByteArray.size_extract]; omega
            generalize acc ++ slT kt k = t2 at z5 HK
            go_wp2
            go_round
            case rel => exact ⟨k + 1, by omega, by go_num, by rw [HK.out]⟩
            case measure => simp [intOf]; omega
        obtain rfl : k = kt.size := by omega
        generalize acc ++ slT kt kt.size = t2 at z5 HF
        go_wp2
        go_roundw
        case rel => exact ⟨j + 1, by omega, by go_num, by rw [HF.out], m1, b4⟩
        case measure => simp [intOf]; omega
set_option maxRecDepth 100000 in
set_option maxHeartbeats 8000000 in
theorem specPageText_any (P : Pg) (w : World) (hr : PgRow w P) (hl : PgLen P 1048576) (hin : PgIn P) (hs : ∀ (i : Nat) (x : Ln), P.ls[i]? = some x → x.tx.size ≤ 1048576) :
    Calls Tryd.prog 5 #[.agg #[.slice P.ba P.bs.length P.bc, .slice P.pa P.ps.length P.pc, .slice P.la P.ls.length P.lc, .slice P.fa P.fs.length P.fc, .int .i64 P.hi]] w fun e w' => e = .returned (.tuple #[.string (ptT P), .bool (ptB P)]) ∧ Below w.heap.size w w' := by
  have L := fun (h1 : P.ps.length = P.bs.length) (h2 : P.bs.length ≤ 80) (h3 : P.ls.length ≤ 400) (W : World) (hb : Below w.heap.size w W) => l10Page_any P W (hr.below hb) hin h1 h2 h3 hs
  have HN := pt_no (P := P)
  have HY := pt_yes (P := P)
  have g1 := hl.lb
  have g2 := hl.lp
  have g3 := hl.ll
  clear hr hl hin hs
  generalize ptB P = pb at HN HY ⊢
  generalize ptT P = pt at HN HY ⊢
  generalize pgT P = pg at HY L
  obtain ⟨ba, bc, bs, pa, pc, ps, la, lc, ls, fa, fc, fs, hi⟩ := P
  dsimp only at L HN HY g1 g2 g3 ⊢
  generalize bs.length = nb at L HN HY g1 g2 ⊢
  generalize ps.length = np at L HN HY g2 ⊢
  generalize ls.length = nl at L HN HY g3 ⊢
  generalize fs.length = nf at L ⊢
  have b0 : Below w.heap.size w (w.alloc (.cells #[.slice ba nb bc, .slice pa np pc, .slice la nl lc, .slice fa nf fc, .int .i64 hi] 36)) := (Below.refl _ _).alloc (Nat.le_refl _) _
  have HN' : Hid (¬ (np = nb ∧ nb ≤ 80 ∧ nl ≤ 400) → pb = false ∧ pt = ⟨#[]⟩) := HN
  have HY' : Hid (np = nb → nb ≤ 80 → nl ≤ 400 → pb = true ∧ pt = pg) := HY
  clear HN HY
  by_cases h1 : np = nb
  rotate_left
  · obtain ⟨rfl, rfl⟩ := HN'.out (fun h => h1 h.1)
    have h1' : ¬ ((np : Int) = (nb : Int)) := by omega
    clear L HN' HY'
    go_enter Tryd.func5, Tryd.ntmps5
    go_wp2
    go_ret2
    exact ⟨rfl, b0⟩
  by_cases h2 : nb ≤ 80
  rotate_left
  · obtain ⟨rfl, rfl⟩ := HN'.out (fun h => h2 h.2.1)
    have h2' : (80 : Int) < (nb : Int) := by omega
    clear L HN' HY'
    subst h1
    go_enter Tryd.func5, Tryd.ntmps5
    go_wp2
    go_ret2
    exact ⟨rfl, b0⟩
  have h2' : ¬ ((80 : Int) < (nb : Int)) := by omega
  by_cases h3 : nl ≤ 400
  rotate_left
  · obtain ⟨rfl, rfl⟩ := HN'.out (fun h => h3 h.2.2)
    have h3' : (400 : Int) < (nl : Int) := by omega
    clear L HN' HY'
    subst h1
    go_enter Tryd.func5, Tryd.ntmps5
    go_wp2
    go_ret2
    exact ⟨rfl, b0⟩
  have h3' : ¬ ((400 : Int) < (nl : Int)) := by omega
  obtain ⟨rfl, rfl⟩ := HY'.out h1 h2 h3
  have L3 := L h1 h2 h3
  clear HN' HY' L
  subst h1
  go_enter Tryd.func5, Tryd.ntmps5
  go_wp2_with fail
  refine (L3 _ b0).mono ?_
  rintro e w1 ⟨rfl, c⟩
  replace b0 := b0.trans (c.mono b0.size)
  clear c L3
  go_wp2
  go_ret2
  exact ⟨rfl, b0⟩
end Go.Proofs.YtbnnpgkeggjodaaDoor
