/-
  The program's ShownIn, for every row of nodes.
-/
import Derived.Test.YtdgagjnkbmckoaaDoorNdS
namespace Go.Proofs.YtdgagjnkbmckoaaDoor
open Go.ChangeShapes Go.WideShapes Go.ChangeAt Go.RowKit
set_option linter.unusedVariables false

set_option maxRecDepth 100000 in
set_option maxHeartbeats 8000000 in
theorem implShown_any (a : Option Addr) (cap : Nat) (ns : List Nd) (w : World) (hr : NdRow w a ns) (hl : ns.length ≤ 1048576) (hs : ∀ x ∈ ns, x.tx.size ≤ 1048576)
    (et : TypeId) (ev : Value) (he : w.cell? ⟨0, 0, none⟩ = some (.iface et ev)) :
    Calls Tryd.prog 11 #[.slice a ns.length cap] w fun e w' => ∃ v, e = .returned (.tuple #[v, .bool (treeB (okB true) styleB ns)]) ∧ OwnI w' w.heap.size v (shownR ns) ∧ Below w.heap.size w w' := by
  have PT := implTree_any a cap ns w hr hl hs et ev he
  obtain ⟨n, hn⟩ : ∃ n, n = ns.length := ⟨_, rfl⟩
  have HN0 : Hid (n = ns.length) := hn
  clear he
  cases hT : treeB (okB true) styleB ns
  · have HF : Hid (shownR ns = []) := by show _ = _; simp [shownR, hT]
    rw [hT] at PT
    rw [← hn] at PT ⊢
    clear hr hl hs hn
    go_enter Tryd.func11, Tryd.ntmps11
    go_wp2_with fail
    refine PT.mono ?_
    rintro e w1 ⟨rfl, b1⟩
    go_wp2
    go_ret2
    exact ⟨_, rfl, by rw [HF.out]; exact ownI_nil _ _, b1⟩
  have HF : Hid (shownR ns = shownTo ns n) := by show _ = _; simp [shownR, hT, hn]
  obtain ⟨⟨h1, h40⟩, hup⟩ := tree_stands hT
  have HST : Hid (∀ j, j < n → Stands ns j) := by rw [hn]; exact stands_of _ hup
  obtain ⟨b, off, rfl, hc⟩ : ∃ b off, a = some ⟨b, off, none⟩ ∧ ∀ i n, ns[i]? = some n → w.rangeAt b (off + i * 28) (ndL n) := by
    rcases hr with h | h
    · rw [h] at h1; simp at h1
    · exact h
  have HC : Hid (∀ i x, ns[i]? = some x → w.rangeAt b (off + i * 28) (ndL x)) := hc
  obtain ⟨i0, hi, hz0, hz1, hz2⟩ := info_parts Tryd.infoInt
  rw [hT] at PT
  rw [← hn] at PT h1 h40 ⊢
  clear hr hl hs hn hc hup
  go_enter Tryd.func11, Tryd.ntmps11
  go_wp2_with fail
  refine PT.mono ?_
  rintro e w0 ⟨rfl, hb0⟩
  clear PT
  go_wp2_with fail
  go_loopw [4, 13] (fun v i wr => ∃ k : Nat, k ≤ n ∧ i = .int .i64 k ∧ OwnI wr w.heap.size v (shownTo ns k) ∧ Below w.heap.size w wr) (fun _ i _ => n - (intOf i).toNat)
  case atStart => exact ⟨0, Nat.zero_le _, rfl, ownI_nil _ _, hb0⟩
  case round =>
    obtain ⟨k, hk, rfl, hown, hbw⟩ := hrel
    clear hb0
    by_cases hlt : k < n
    rotate_left
    · have e : k = n := by omega
      subst e
      rw [← HF.out] at hown
      go_wp2
      go_ret2
      exact ⟨_, rfl, hown, hbw⟩
    obtain ⟨x, hx⟩ : ∃ x, ns[k]? = some x := ⟨_, List.getElem?_eq_getElem (by have := HN0.out; omega)⟩
    have HXt : Hid (isT ns k = zeroS x.st) := by show isT ns k = _; unfold isT; rw [getD_of hx]
    have HXu : Hid (upL ns k = x.up) := by show upL ns k = _; unfold upL; rw [getD_of hx]
    have HXs : Hid (shL ns k = x.st.sh) := by show shL ns k = _; unfold shL; rw [getD_of hx]
    have hr := range_below (HC.out k x hx) hbw (range_lt (HC.out k x hx))
    have TX := fun W => implIsText_any x W
    have hle := shown_len ns k
    clear hx HC
    by_cases hk0 : k = 0
    · have HSB : Hid (showB ns k = (!zeroS x.st && !decide (x.st.sh = 3))) := by
        show _ = _
        rw [← HXt.out, ← HXs.out, hk0]
        exact show_top ((HST.out 0 (by omega)).top rfl)
      have hq0 : ((k : Int) == 0) = true := by simp [hk0]
      clear hk0
      go_wp2_with (first
        | (with_reducible show wpList _ _ _ (⟨some 17, Op.load 47 _, _, _, _, _⟩ :: _) _ _; refine wpList_load_mid rfl 47 _ rfl b (off + k * 28) rfl (ndL x) _ hr Tryd.underlying47 rfl (by kernel_rfl) ?_)
        | (with_reducible show wpList _ _ _ (⟨none, Op.store 47 _ _, _, _, _, _⟩ :: _) _ _; refine wpList_store_box rfl 47 _ _ rfl rfl (#[.int .i64 x.up, .string x.tx, .int .i64 x.st.sh, .int .i64 x.st.fl, .int .i64 x.st.cl, .bool x.st.w.a, .bool x.st.w.p, .int .i64 x.st.w.n, .bool x.st.h.a, .bool x.st.h.p, .int .i64 x.st.h.n, .int .i64 x.st.mn, .int .i64 x.st.mx, .int .i64 x.st.mt, .bool x.st.mr.a, .bool x.st.mr.p, .int .i64 x.st.mr.n, .int .i64 x.st.mb, .bool x.st.ml.a, .bool x.st.ml.p, .int .i64 x.st.ml.n, .int .i64 x.st.bo, .int .i64 x.st.pa, .int .i64 x.st.wh, .int .i64 x.st.al, .int .i64 x.st.lh, .int .i64 x.st.ri, .int .i64 x.st.dn]) rfl rfl (by kernel_rfl) rfl (by kernel_rfl) ?_; intro W bel l0 hsz; refine stay ?_))
      have hc0 : W.cell? ⟨wr.heap.size, 0, none⟩ = some (.int .i64 x.up) := (lies_cell l0 0).trans rfl
      have l0 : Hid (W.heap[wr.heap.size]? = some (.cells (#[.int .i64 x.up, .string x.tx, .int .i64 x.st.sh, .int .i64 x.st.fl, .int .i64 x.st.cl, .bool x.st.w.a, .bool x.st.w.p, .int .i64 x.st.w.n, .bool x.st.h.a, .bool x.st.h.p, .int .i64 x.st.h.n, .int .i64 x.st.mn, .int .i64 x.st.mx, .int .i64 x.st.mt, .bool x.st.mr.a, .bool x.st.mr.p, .int .i64 x.st.mr.n, .int .i64 x.st.mb, .bool x.st.ml.a, .bool x.st.ml.p, .int .i64 x.st.ml.n, .int .i64 x.st.bo, .int .i64 x.st.pa, .int .i64 x.st.wh, .int .i64 x.st.al, .int .i64 x.st.lh, .int .i64 x.st.ri, .int .i64 x.st.dn]) 47 (0, 0))) := l0
      have bW := hbw.trans (bel.mono hbw.size)
      have oW := hown.keep bel
      have ltW : wr.heap.size < W.heap.size := by omega
      unfold Stay
      clear hr bel hown hbw
      have rb := range_box l0.out
      have hc2 : W.cell? ⟨wr.heap.size, 2, none⟩ = some (.int .i64 x.st.sh) := (lies_cell l0.out 2).trans rfl
      clear hle
      cases hz : zeroS x.st
      rotate_left
      · have HN : Hid (shownTo ns (k + 1) = shownTo ns k) := shown_no (by rw [HSB.out, hz]; rfl)
        rw [hz] at TX
        go_wp2_with (with_reducible show wpList _ _ _ (⟨some 28, Op.load 47 _, _, _, _, _⟩ :: _) _ _; refine wpList_load_midG ?qa1 47 _ rfl wr.heap.size 0 ?qb1 (ndL x) _ rb Tryd.underlying47 rfl (by kernel_rfl) ?_)
        try (case qb1 => rfl)
        go_wp2_with fail
        refine (TX _).mono ?_
        rintro e w2 ⟨rfl, hb2⟩
        have b2 := bW.trans (hb2.mono bW.size)
        have o2 := oW.keep hb2
        have hd2 : w2.cell? ⟨wr.heap.size, 2, none⟩ = some (.int .i64 x.st.sh) := (hb2.cell (p := ⟨wr.heap.size, 2, none⟩) ltW).trans hc2
        clear hb2 bW oW l0 rb hc0 hc2
        rw [← HN.out] at o2
        go_wp2
        go_roundw
        case rel => exact ⟨k + 1, by omega, by go_num, o2, b2⟩
        case measure => simp [intOf]; omega
      rw [hz] at TX
      by_cases h3 : x.st.sh = 3
      · have HN : Hid (shownTo ns (k + 1) = shownTo ns k) := shown_no (by rw [HSB.out, hz, decide_eq_true h3]; rfl)
        have hq3 : (x.st.sh == 3) = true := by simpa using h3
        clear h3
        go_wp2_with (with_reducible show wpList _ _ _ (⟨some 28, Op.load 47 _, _, _, _, _⟩ :: _) _ _; refine wpList_load_midG ?qa2 47 _ rfl wr.heap.size 0 ?qb2 (ndL x) _ rb Tryd.underlying47 rfl (by kernel_rfl) ?_)
        try (case qb2 => rfl)
        go_wp2_with fail
        refine (TX _).mono ?_
        rintro e w2 ⟨rfl, hb2⟩
        have b2 := bW.trans (hb2.mono bW.size)
        have o2 := oW.keep hb2
        have hd2 : w2.cell? ⟨wr.heap.size, 2, none⟩ = some (.int .i64 x.st.sh) := (hb2.cell (p := ⟨wr.heap.size, 2, none⟩) ltW).trans hc2
        clear hb2 bW oW l0 rb hc0 hc2
        rw [← HN.out] at o2
        go_wp2
        go_roundw
        case rel => exact ⟨k + 1, by omega, by go_num, o2, b2⟩
        case measure => simp [intOf]; omega
      · have HN : Hid (shownTo ns (k + 1) = shownTo ns k ++ [(k : Int)]) := shown_yes (by rw [HSB.out, hz, decide_eq_false h3]; rfl)
        have hq3 : (x.st.sh == 3) = false := by simpa using h3
        clear h3
        go_wp2_with (with_reducible show wpList _ _ _ (⟨some 28, Op.load 47 _, _, _, _, _⟩ :: _) _ _; refine wpList_load_midG ?qa3 47 _ rfl wr.heap.size 0 ?qb3 (ndL x) _ rb Tryd.underlying47 rfl (by kernel_rfl) ?_)
        try (case qb3 => rfl)
        go_wp2_with fail
        refine (TX _).mono ?_
        rintro e w2 ⟨rfl, hb2⟩
        have b2 := bW.trans (hb2.mono bW.size)
        have o2 := oW.keep hb2
        have hd2 : w2.cell? ⟨wr.heap.size, 2, none⟩ = some (.int .i64 x.st.sh) := (hb2.cell (p := ⟨wr.heap.size, 2, none⟩) ltW).trans hc2
        clear hb2 bW oW l0 rb hc0 hc2
        have hle := shown_len ns k
        generalize shownTo ns k = zs at o2 HN hle
        obtain ⟨L, hL⟩ : ∃ L, L = zs.length := ⟨_, rfl⟩
        have o2' := o2
        unfold OwnI at o2'
        rw [← hL] at o2'
        have HL : Hid (L = zs.length) := hL
        have hL40 : L ≤ 40 := by omega
        clear hL hle
        go_wp2_with (at_builtin; refine wpList_append_own _ rfl (.tmp 38) (.tmp 40) 29 rfl w.heap.size 3 i0 (.int .i64 0) 1 8 Tryd.underlying29 hi hz0 hz1 hz2 rfl (by decide) _ _ _ rfl (o2'.alloc _) ⟨w2.heap.size, 0, none⟩ 1 1 [.int .i64 (k : Int)] rfl rfl (cell_one_new _ _ _) (one_i64 _) (by unfold maxLen; omega) (by omega) (by have := b2.size; simp; omega) ?_)
        intro v' w3 hown3 hgrow3 _
        have b3 : Below w.heap.size w w3 := (b2.alloc b2.size _).grown hgrow3 (by have := b2.size; simp; omega) (fun j hj => o2.base j hj)
        have o3 : OwnI w3 w.heap.size v' (shownTo ns (k + 1)) := by rw [HN.out]; exact OwnI.snoc HL.out hown3
        clear hown3 hgrow3 o2' o2 b2
        go_wp2
        go_roundw
        case rel => exact ⟨k + 1, by omega, by go_num, o3, b3⟩
        case measure => simp [intOf]; omega
    have hq0 : ((k : Int) == 0) = false := by simp; omega
    obtain ⟨u, hu, eu, hcu, htu⟩ := (HST.out k hlt).ups (by omega)
    have hxu : x.up = (u : Int) := by rw [← HXu.out]; exact eu
    have HSB : Hid (showB ns k = (decide ((u : Int) ∈ shownTo ns k) && !zeroS x.st && !decide (x.st.sh = 3))) := by
      show _ = _
      rw [← HXt.out, ← HXs.out]
      exact show_in eu hu htu
    obtain ⟨a3, c3, hv, hrow⟩ := hown.row
    obtain ⟨L, hL⟩ : ∃ L, L = (shownTo ns k).length := ⟨_, rfl⟩
    have CT := fun W h => contains_any a3 L c3 (u : Int) (shownTo ns k) W hL (by omega) h
    rw [← hL] at hv
    subst hv
    have ROW : ∀ W, OwnI W w.heap.size (.slice a3 L c3) (shownTo ns k) → Row W a3 (shownTo ns k) := fun W h => by
      obtain ⟨_, _, q1, q2⟩ := h.row
      cases q1
      exact q2
    have HXU : Hid (x.up = (u : Int)) := hxu
    clear hL hrow hcu htu eu hu hxu hk0 hle
    go_wp2_with (first
      | (with_reducible show wpList _ _ _ (⟨some 17, Op.load 47 _, _, _, _, _⟩ :: _) _ _; refine wpList_load_mid rfl 47 _ rfl b (off + k * 28) rfl (ndL x) _ hr Tryd.underlying47 rfl (by kernel_rfl) ?_)
      | (with_reducible show wpList _ _ _ (⟨none, Op.store 47 _ _, _, _, _, _⟩ :: _) _ _; refine wpList_store_box rfl 47 _ _ rfl rfl (#[.int .i64 x.up, .string x.tx, .int .i64 x.st.sh, .int .i64 x.st.fl, .int .i64 x.st.cl, .bool x.st.w.a, .bool x.st.w.p, .int .i64 x.st.w.n, .bool x.st.h.a, .bool x.st.h.p, .int .i64 x.st.h.n, .int .i64 x.st.mn, .int .i64 x.st.mx, .int .i64 x.st.mt, .bool x.st.mr.a, .bool x.st.mr.p, .int .i64 x.st.mr.n, .int .i64 x.st.mb, .bool x.st.ml.a, .bool x.st.ml.p, .int .i64 x.st.ml.n, .int .i64 x.st.bo, .int .i64 x.st.pa, .int .i64 x.st.wh, .int .i64 x.st.al, .int .i64 x.st.lh, .int .i64 x.st.ri, .int .i64 x.st.dn]) rfl rfl (by kernel_rfl) rfl (by kernel_rfl) ?_; intro W bel l0 hsz; refine stay ?_))
    have hc0 : W.cell? ⟨wr.heap.size, 0, none⟩ = some (.int .i64 x.up) := (lies_cell l0 0).trans rfl
    have l0 : Hid (W.heap[wr.heap.size]? = some (.cells (#[.int .i64 x.up, .string x.tx, .int .i64 x.st.sh, .int .i64 x.st.fl, .int .i64 x.st.cl, .bool x.st.w.a, .bool x.st.w.p, .int .i64 x.st.w.n, .bool x.st.h.a, .bool x.st.h.p, .int .i64 x.st.h.n, .int .i64 x.st.mn, .int .i64 x.st.mx, .int .i64 x.st.mt, .bool x.st.mr.a, .bool x.st.mr.p, .int .i64 x.st.mr.n, .int .i64 x.st.mb, .bool x.st.ml.a, .bool x.st.ml.p, .int .i64 x.st.ml.n, .int .i64 x.st.bo, .int .i64 x.st.pa, .int .i64 x.st.wh, .int .i64 x.st.al, .int .i64 x.st.lh, .int .i64 x.st.ri, .int .i64 x.st.dn]) 47 (0, 0))) := l0
    have bW := hbw.trans (bel.mono hbw.size)
    have oW := hown.keep bel
    have ltW : wr.heap.size < W.heap.size := by omega
    unfold Stay
    clear hr bel hown hbw
    rw [HXU.out] at hc0
    have rb := range_box l0.out
    have hc2 : W.cell? ⟨wr.heap.size, 2, none⟩ = some (.int .i64 x.st.sh) := (lies_cell l0.out 2).trans rfl
    have C2 := CT W (ROW W oW)
    clear CT ROW
    cases hin : decide ((u : Int) ∈ shownTo ns k)
    · have HN : Hid (shownTo ns (k + 1) = shownTo ns k) := shown_no (by rw [HSB.out, hin]; rfl)
      rw [hin] at C2
      go_wp2_with (go_at_call 27; refine C2.mono ?_; rintro e w' ⟨rfl, hw⟩; have hw := hw.symm; subst hw; refine stay ?_)
      unfold Stay
      clear C2 TX
      have b2 := bW
      have o2 := oW
      clear bW oW rb hc0 hc2 l0
      rw [← HN.out] at o2
      go_wp2
      go_roundw
      case rel => exact ⟨k + 1, by omega, by go_num, o2, b2⟩
      case measure => simp [intOf]; omega
    rw [hin] at C2
    have HSB : Hid (showB ns k = (!zeroS x.st && !decide (x.st.sh = 3))) := by show _ = _; rw [HSB.out, hin, Bool.true_and]
    clear hin
    cases hz : zeroS x.st
    rotate_left
    · have HN : Hid (shownTo ns (k + 1) = shownTo ns k) := shown_no (by rw [HSB.out, hz]; rfl)
      rw [hz] at TX
      go_wp2_with (go_at_call 27; refine C2.mono ?_; rintro e w' ⟨rfl, hw⟩; have hw := hw.symm; subst hw; refine stay ?_)
      unfold Stay
      clear C2
      go_wp2_with (with_reducible show wpList _ _ _ (⟨some 28, Op.load 47 _, _, _, _, _⟩ :: _) _ _; refine wpList_load_midG ?qa4 47 _ rfl wr.heap.size 0 ?qb4 (ndL x) _ rb Tryd.underlying47 rfl (by kernel_rfl) ?_)
      try (case qb4 => rfl)
      go_wp2_with fail
      refine (TX _).mono ?_
      rintro e w2 ⟨rfl, hb2⟩
      have b2 := bW.trans (hb2.mono bW.size)
      have o2 := oW.keep hb2
      have hd2 : w2.cell? ⟨wr.heap.size, 2, none⟩ = some (.int .i64 x.st.sh) := (hb2.cell (p := ⟨wr.heap.size, 2, none⟩) ltW).trans hc2
      clear hb2 bW oW l0 rb hc0 hc2
      rw [← HN.out] at o2
      go_wp2
      go_roundw
      case rel => exact ⟨k + 1, by omega, by go_num, o2, b2⟩
      case measure => simp [intOf]; omega
    rw [hz] at TX
    by_cases h3 : x.st.sh = 3
    · have HN : Hid (shownTo ns (k + 1) = shownTo ns k) := shown_no (by rw [HSB.out, hz, decide_eq_true h3]; rfl)
      have hq3 : (x.st.sh == 3) = true := by simpa using h3
      clear h3
      go_wp2_with (go_at_call 27; refine C2.mono ?_; rintro e w' ⟨rfl, hw⟩; have hw := hw.symm; subst hw; refine stay ?_)
      unfold Stay
      clear C2
      go_wp2_with (with_reducible show wpList _ _ _ (⟨some 28, Op.load 47 _, _, _, _, _⟩ :: _) _ _; refine wpList_load_midG ?qa5 47 _ rfl wr.heap.size 0 ?qb5 (ndL x) _ rb Tryd.underlying47 rfl (by kernel_rfl) ?_)
      try (case qb5 => rfl)
      go_wp2_with fail
      refine (TX _).mono ?_
      rintro e w2 ⟨rfl, hb2⟩
      have b2 := bW.trans (hb2.mono bW.size)
      have o2 := oW.keep hb2
      have hd2 : w2.cell? ⟨wr.heap.size, 2, none⟩ = some (.int .i64 x.st.sh) := (hb2.cell (p := ⟨wr.heap.size, 2, none⟩) ltW).trans hc2
      clear hb2 bW oW l0 rb hc0 hc2
      rw [← HN.out] at o2
      go_wp2
      go_roundw
      case rel => exact ⟨k + 1, by omega, by go_num, o2, b2⟩
      case measure => simp [intOf]; omega
    · have HN : Hid (shownTo ns (k + 1) = shownTo ns k ++ [(k : Int)]) := shown_yes (by rw [HSB.out, hz, decide_eq_false h3]; rfl)
      have hq3 : (x.st.sh == 3) = false := by simpa using h3
      clear h3
      go_wp2_with (go_at_call 27; refine C2.mono ?_; rintro e w' ⟨rfl, hw⟩; have hw := hw.symm; subst hw; refine stay ?_)
      unfold Stay
      clear C2
      go_wp2_with (with_reducible show wpList _ _ _ (⟨some 28, Op.load 47 _, _, _, _, _⟩ :: _) _ _; refine wpList_load_midG ?qa6 47 _ rfl wr.heap.size 0 ?qb6 (ndL x) _ rb Tryd.underlying47 rfl (by kernel_rfl) ?_)
      try (case qb6 => rfl)
      go_wp2_with fail
      refine (TX _).mono ?_
      rintro e w2 ⟨rfl, hb2⟩
      have b2 := bW.trans (hb2.mono bW.size)
      have o2 := oW.keep hb2
      have hd2 : w2.cell? ⟨wr.heap.size, 2, none⟩ = some (.int .i64 x.st.sh) := (hb2.cell (p := ⟨wr.heap.size, 2, none⟩) ltW).trans hc2
      clear hb2 bW oW l0 rb hc0 hc2
      have hle := shown_len ns k
      generalize shownTo ns k = zs at o2 HN hle
      obtain ⟨L, hL⟩ : ∃ L, L = zs.length := ⟨_, rfl⟩
      have o2' := o2
      unfold OwnI at o2'
      rw [← hL] at o2'
      have HL : Hid (L = zs.length) := hL
      have hL40 : L ≤ 40 := by omega
      clear hL hle
      go_wp2_with (at_builtin; refine wpList_append_own _ rfl (.tmp 38) (.tmp 40) 29 rfl w.heap.size 3 i0 (.int .i64 0) 1 8 Tryd.underlying29 hi hz0 hz1 hz2 rfl (by decide) _ _ _ rfl (o2'.alloc _) ⟨w2.heap.size, 0, none⟩ 1 1 [.int .i64 (k : Int)] rfl rfl (cell_one_new _ _ _) (one_i64 _) (by unfold maxLen; omega) (by omega) (by have := b2.size; simp; omega) ?_)
      intro v' w3 hown3 hgrow3 _
      have b3 : Below w.heap.size w w3 := (b2.alloc b2.size _).grown hgrow3 (by have := b2.size; simp; omega) (fun j hj => o2.base j hj)
      have o3 : OwnI w3 w.heap.size v' (shownTo ns (k + 1)) := by rw [HN.out]; exact OwnI.snoc HL.out hown3
      clear hown3 hgrow3 o2' o2 b2
      go_wp2
      go_roundw
      case rel => exact ⟨k + 1, by omega, by go_num, o3, b3⟩
      case measure => simp [intOf]; omega
end Go.Proofs.YtdgagjnkbmckoaaDoor
