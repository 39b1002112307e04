/-
  The model's ReadTree: it answers the tree that has this text, if there is one.
-/
import Derived.Test.YtddnphgpdnedbaaGreatDoorMTr
import Derived.OwnWalk
import Derived.Deep.AppendLies
namespace Go.Proofs.YtddnphgpdnedbaaGreatDoor
open Go.ChangeShapes Go.WideShapes Go.ChangeAt Go.RowKit
set_option linter.unusedVariables false

/-- How ReadTree ends. -/
def ReadEnd (s : ByteArray) (w : World) (e : Ending) (w' : World) : Prop :=
  ((∃ v ns, e = .returned (.tuple #[v, .bool true]) ∧ OwnN w' w.heap.size v ns ∧ RelT s ns ∧ ∀ X, RelT s X → X = ns) ∨ (e = .returned (.tuple #[.slice none 0 0, .bool false]) ∧ ¬ ∃ X, RelT s X)) ∧ Below w.heap.size w w'
theorem readEnd_no {s : ByteArray} {w w' : World} (h : ¬ ∃ X, RelT s X) (hb : Below w.heap.size w w') : ReadEnd s w (.returned (.tuple #[.slice none 0 0, .bool false])) w' := ⟨.inr ⟨rfl, h⟩, hb⟩
theorem readEnd_yes {s : ByteArray} {w w' : World} {v : Value} {ns : List Nd} (ho : OwnN w' w.heap.size v ns) (hr : RelT s ns) (hu : ∀ X, RelT s X → X = ns) (hb : Below w.heap.size w w') : ReadEnd s w (.returned (.tuple #[v, .bool true])) w' := ⟨.inl ⟨v, ns, rfl, ho, hr, hu⟩, hb⟩
theorem n_part_less {t : ByteArray} (h0 : t.size ≠ 0) (h : n_dotB t = true) : (n_partOf t).size < t.size := by
  unfold n_partOf
  rw [if_pos h, ByteArray.size_extract]
  omega
theorem lead_full {t : ByteArray} {d : Nat} (hd : d = t.size) (hb : ∀ j (h : j < t.size), j < d → (t[j].toNat : Int) = 32) : Lead t d := ⟨by omega, hb, fun h => absurd h (by omega)⟩
theorem lead_stop {t : ByteArray} {d : Nat} (h : d < t.size) (hb : ∀ j (h : j < t.size), j < d → (t[j].toNat : Int) = 32) (hn : (t[d].toNat : Int) ≠ 32) : Lead t d := ⟨by omega, hb, fun _ => hn⟩
/-- What a round of the reader holds. -/
structure RdSt (s : ByteArray) (w : World) (k : Nat) (ns : List Nd) (au : List Int) (rest : ByteArray) (vl va : Value) (wr : World) : Prop where
  sz : rest.size ≤ s.size
  kn : ns.length = k
  k41 : k ≤ 41
  al : au.length ≤ k
  ol : OwnN wr w.heap.size vl ns
  oa : OwnI wr w.heap.size va au
  gh : GhT s k ns au rest
  tx : ∀ x ∈ ns, x.tx.size ≤ 1048576
  bel : Below w.heap.size w wr
set_option maxRecDepth 100000 in
set_option maxHeartbeats 8000000 in
/-- What comes behind the last line. -/
theorem rdEnd_facts {s : ByteArray} {k : Nat} {ns : List Nd} {au : List Int} {rest : ByteArray} (h : GhT s k ns au rest) (h0 : rest.size = 0) :
    (ttB ns = false → ¬ ∃ X, RelT s X) ∧ (ttB ns = true → ttT ns ≠ s → ¬ ∃ X, RelT s X) ∧ (ttB ns = true → ttT ns = s → RelT s ns) := by
  have hu := ghT_end h h0
  have ht : ttB ns = true → ttT ns = treT ns ns.length := fun e => by rw [ttT, if_pos e]
  refine ⟨fun hb ⟨X, hX⟩ => ?_, fun hb hne ⟨X, hX⟩ => ?_, fun hb he => ⟨hb, by rw [← ht hb]; exact he⟩⟩
  · have e := hu X hX
    subst e
    rw [hX.1] at hb
    cases hb
  · have e := hu X hX
    subst e
    exact hne ((ht hb).trans hX.2)
set_option maxRecDepth 100000 in
set_option maxHeartbeats 8000000 in
theorem specReadTree_any (s : ByteArray) (w : World) (hs : s.size ≤ 1048576) :
    Calls Tryz.prog 4 #[.string s] w fun e w' => ReadEnd s w e w' := by
  obtain ⟨i0, hi, hz0, hz1, hz2⟩ := info_parts Tryz.infoInt
  obtain ⟨j0, hj, hy0, hy1, hy2⟩ := nodeInfo
  go_enter Tryz.func4, Tryz.ntmps4
  go_wp2_with fail
  go_loopw [4, 5, 6] (fun vl va r wr => ∃ (k : Nat) (ns : List Nd) (au : List Int) (rest : ByteArray), r = .string rest ∧ RdSt s w k ns au rest vl va wr) (fun _ _ r _ => match r with | .string t => t.size | _ => 0)
  case atStart => exact ⟨0, [], [], s, rfl, ⟨Nat.le_refl _, rfl, Nat.zero_le _, Nat.le_refl _, ownN_nil _ _, ownI_nil _ _, ghT_start s, fun x hx => by simp at hx, Below.refl _ _⟩⟩
  case round =>
    obtain ⟨k, ns, au, rest, rfl, hst⟩ := hrel
    obtain ⟨al, cl, rfl, hrow⟩ := hst.ol.row
    obtain ⟨aa, ca, rfl, hint⟩ := hst.oa.row
    have HST : Hid (RdSt s w k ns au rest (.slice al ns.length cl) (.slice aa au.length ca) wr) := hst
    obtain ⟨n, hn⟩ : ∃ n, n = ns.length := ⟨_, rfl⟩
    obtain ⟨m, hm⟩ : ∃ m, m = au.length := ⟨_, rfl⟩
    have hkn1 : n ≤ k := by rw [hn, hst.kn]; exact Nat.le_refl _
    have hkn2 : k ≤ n := by rw [hn, hst.kn]; exact Nat.le_refl _
    have hk41 := hst.k41
    have hmk : m ≤ k := by rw [hm]; exact hst.al
    have hsz := hst.sz
    by_cases h0 : rest.size = 0
    · have h1 : rest.toList.isEmpty = true := by rw [ByteArray.toList_eq, List.isEmpty_iff_length_eq_zero]; simpa using h0
      obtain ⟨f1, f2, f3⟩ := rdEnd_facts hst.gh h0
      have hu := ghT_end hst.gh h0
      have TS := specTT_any al cl ns wr hrow (by omega) hst.tx
      rw [← hn] at TS ⊢
      have HF1 : Hid (ttB ns = false → ¬ ∃ X, RelT s X) := f1
      have HF2 : Hid (ttB ns = true → ttT ns ≠ s → ¬ ∃ X, RelT s X) := f2
      have HF3 : Hid (ttB ns = true → ttT ns = s → RelT s ns) := f3
      have HU : Hid (∀ X, RelT s X → X = ns) := hu
      have HN : Hid (n = ns.length) := hn
      rw [← hm]
      have hbw := hst.bel
      clear hst hrow hint f1 f2 f3 hu hn hm h0
      go_wp2_with fail
      refine TS.mono ?_
      rintro e w1 ⟨rfl, c⟩
      have b1 := hbw.trans (c.mono hbw.size)
      have O1 : Hid (OwnN w1 w.heap.size (.slice al n cl) ns) := by
        have h : OwnN w1 w.heap.size (.slice al ns.length cl) ns := nOwn_keep HST.out.ol c
        rw [← HN.out] at h
        exact h
      clear TS c hbw
      cases hB : ttB ns
      · have HNo : Hid (¬ ∃ X, RelT s X) := HF1.out hB
        generalize ttT ns = T
        clear hB
        go_wp2
        go_ret2
        exact readEnd_no HNo.out b1
      by_cases hts : ttT ns = s
      · have HR : Hid (RelT s ns) := HF3.out hB hts
        have hq1 : ((ttT ns).toList == s.toList) = true := by rw [hts]; simp
        generalize ttT ns = T at hq1 ⊢
        clear hts hB
        go_wp2
        go_ret2
        exact readEnd_yes O1.out HR.out HU.out b1
      · have HNo : Hid (¬ ∃ X, RelT s X) := HF2.out hB hts
        have hq1 : ((ttT ns).toList == s.toList) = false :=
          beq_false_of_ne (fun h => hts (by rw [ByteArray.toList_eq, ByteArray.toList_eq] at h; exact ByteArray.ext (Array.toList_inj.1 h)))
        generalize ttT ns = T at hq1 ⊢
        clear hts hB
        go_wp2
        go_ret2
        exact readEnd_no HNo.out b1
    have h1 : rest.toList.isEmpty = false := by rw [← Bool.not_eq_true, ByteArray.toList_eq, List.isEmpty_iff_length_eq_zero]; simpa using h0
    have CU := n_l1Cut_any rest wr (by omega)
    have H0 : Hid (rest.size ≠ 0) := h0
    have HGH : Hid (GhT s k ns au rest) := hst.gh
    have zw := n_whole_size rest
    have zp := n_part_size rest
    have HN : Hid (n = ns.length) := hn
    have HM : Hid (m = au.length) := hm
    have HINT : Hid (Row wr aa au) := hint
    rw [← hn, ← hm]
    obtain ⟨wl, hwl⟩ : ∃ t, t = n_wholeOf rest := ⟨_, rfl⟩
    obtain ⟨pt, hpt⟩ : ∃ t, t = n_partOf rest := ⟨_, rfl⟩
    have HWL : Hid (wl = n_wholeOf rest) := hwl
    have HPT : Hid (pt = n_partOf rest) := hpt
    have HDT : Hid (n_dotB rest = n_dotB rest) := rfl
    obtain ⟨db, hdb⟩ : ∃ t, t = n_dotB rest := ⟨_, rfl⟩
    have HDB : Hid (db = n_dotB rest) := hdb
    rw [← hwl, ← hpt, ← hdb] at CU
    rw [← hwl] at zw
    rw [← hpt] at zp
    have HB0 : Hid (Below w.heap.size w wr) := hst.bel
    clear hst hrow hint hn hm hwl hpt hdb h0 HDT
    go_wp2_with fail
    refine CU.mono ?_
    rintro e w1 ⟨rfl, nq, rfl⟩
    clear CU
    go_wp2_with fail
    have OW : OwnN (wr.drewN nq) w.heap.size (.slice al n cl) ns := by have h := HST.out.ol; rw [← HN.out] at h; exact h
    have OA : OwnI (wr.drewN nq) w.heap.size (.slice aa m ca) au := by have h := HST.out.oa; rw [← HM.out] at h; exact h
    have RW : Row (wr.drewN nq) aa au := HINT.out
    have bW : Below w.heap.size w (wr.drewN nq) := ⟨HB0.out.os, HB0.out.tape, HB0.out.output, HB0.out.size, HB0.out.block⟩
    generalize wr.drewN nq = W at OW OA RW bW ⊢
    go_loop [10] (fun v => ∃ d : Nat, d ≤ wl.size ∧ v = .int .i64 d ∧ ∀ j (h : j < wl.size), j < d → (wl[j].toNat : Int) = 32) (fun v => wl.size - (intOf v).toNat)
    case atStart => exact ⟨0, Nat.zero_le _, rfl, fun j _ h => absurd h (by omega)⟩
    case round =>
      obtain ⟨d, hdl, rfl, hbl⟩ := hrel
      by_cases hlt : d < wl.size
      rotate_left
      · have HLD : Hid (Lead (n_wholeOf rest) d) := by show Lead (n_wholeOf rest) d; rw [← HWL.out]; exact lead_full (by omega) hbl
        have hde : d = wl.size := by omega
        have hde' : ((d : Int) == (wl.size : Int)) = true := by simp [hde]
        have hnl : ¬ ((d : Int) < (wl.size : Int)) := by omega
        clear hbl
        have HNo : Hid (¬ ∃ X, RelT s X) := ghT_none HGH.out H0.out (HLD.out) (.inr (.inr (.inl (by rw [← HWL.out]; exact hde))))
        clear HLD
        cases db
        · go_wp2
          go_ret2
          exact readEnd_no HNo.out bW
        · by_cases hmd : m < d
          · have hmd' : (m : Int) < (d : Int) := by omega
            go_wp2
            go_ret2
            exact readEnd_no HNo.out bW
          · have hmd' : ¬ ((m : Int) < (d : Int)) := by omega
            go_wp2
            go_ret2
            exact readEnd_no HNo.out bW
      by_cases hb32 : (wl[d].toNat : Int) = 32
      · have HB2 : Hid (∀ j (h : j < wl.size), j < d + 1 → (wl[j].toNat : Int) = 32) := fun j hj hjd => by
          by_cases e : j = d
          · subst e; exact hb32
          · exact hbl j hj (by omega)
        clear hbl
        go_wp2
        go_round
        case rel => exact ⟨d + 1, by omega, by go_num, HB2.out⟩
        case measure => simp [intOf]; omega
      have HLD : Hid (Lead (n_wholeOf rest) d) := by show Lead (n_wholeOf rest) d; rw [← HWL.out]; exact lead_stop hlt hbl hb32
      have hb32' : ((wl[d].toNat : Int) == 32) = false := by simpa using hb32
      clear hbl hb32
      have hdn : ((d : Int) == (wl.size : Int)) = false := by simp; omega
      cases hdb : db
      · have HNo : Hid (¬ ∃ X, RelT s X) := ghT_none HGH.out H0.out (HLD.out) (.inl (by rw [← HDB.out]; exact hdb))
        clear HLD
        go_wp2
        go_ret2
        exact readEnd_no HNo.out bW
      have DOT : n_dotB rest = true := by rw [← HDB.out]; exact hdb
      have HDOT : Hid (n_dotB rest = true) := DOT
      clear DOT hdb
      by_cases hmd : m < d
      · have hmd' : (m : Int) < (d : Int) := by omega
        have HNo : Hid (¬ ∃ X, RelT s X) := ghT_none HGH.out H0.out (HLD.out) (.inr (.inl (by rw [← HM.out]; exact hmd)))
        clear HLD
        go_wp2
        go_ret2
        exact readEnd_no HNo.out bW
      have hmd' : ¬ ((m : Int) < (d : Int)) := by omega
      by_cases h40 : 40 < n
      · have h40' : (40 : Int) < (n : Int) := by omega
        have HNo : Hid (¬ ∃ X, RelT s X) := ghT_none HGH.out H0.out (HLD.out) (.inr (.inr (.inr (.inl (by omega)))))
        clear HLD
        go_wp2
        go_ret2
        exact readEnd_no HNo.out bW
      have h40' : ¬ ((40 : Int) < (n : Int)) := by omega
      have hltO : Hid (∀ j, (Value.slice al n cl).ownBlock = some j → j < W.heap.size) := fun j hj => (World.ownsRow.lt OW j hj).2
      have hltA : Hid (∀ j, (Value.slice aa m ca).ownBlock = some j → j < W.heap.size) := fun j hj => (World.ownsRow.lt OA j hj).2
      have hdm : d ≤ m := by omega
      have hmau : m = au.length := HM.out
      have HMAU : Hid (m = au.length) := hmau
      clear hmau
      rcases (show W.ownsRow w.heap.size 3 1 (.slice aa m ca) au.length (au.map (Value.int .i64)) from OA).2 with ⟨hv, hv0⟩ | ⟨g, c, cur, hv, _, _, hcap, _, _, _⟩
      · simp only [Value.slice.injEq] at hv
        obtain ⟨rfl, rfl, rfl⟩ := hv
        obtain rfl : d = 0 := by omega
        clear hv0
        have HUP : Hid (upD au 0 = -1) := rfl
        go_wp2_with (first | ((with_reducible show wpList _ _ _ (⟨some 56, Op.build 36 _, _, _, _, _⟩ :: _) _ _); refine wpList_buildTo rfl 36 _ rfl _ rfl (#[.int .i64 (-1), .string ByteArray.empty, .int .i64 0, .int .i64 0, .int .i64 0, .bool false, .bool false, .int .i64 0, .bool false, .bool false, .int .i64 0, .int .i64 0, .int .i64 0, .int .i64 0, .bool false, .bool false, .int .i64 0, .int .i64 0, .bool false, .bool false, .int .i64 0, .int .i64 0, .int .i64 0, .int .i64 0, .int .i64 0, .int .i64 0, .int .i64 0, .int .i64 0]) (by kernel_rfl) ?_) | (with_reducible show wpList _ _ _ (⟨none, Op.store 36 _ _, _, _, _, _⟩ :: _) _ _; refine wpList_store_box rfl 36 _ _ rfl rfl (#[.int .i64 (-1), .string ByteArray.empty, .int .i64 0, .int .i64 0, .int .i64 0, .bool false, .bool false, .int .i64 0, .bool false, .bool false, .int .i64 0, .int .i64 0, .int .i64 0, .int .i64 0, .bool false, .bool false, .int .i64 0, .int .i64 0, .bool false, .bool false, .int .i64 0, .int .i64 0, .int .i64 0, .int .i64 0, .int .i64 0, .int .i64 0, .int .i64 0, .int .i64 0]) rfl rfl (by kernel_rfl) rfl (by kernel_rfl) ?_; intro W1 bel1 l1 hsz1; refine stay ?_) | fail)
        have b1 := bW.trans (bel1.mono bW.size)
        have OW1 : OwnN W1 w.heap.size (.slice al n cl) ns := nOwn_keep OW bel1
        have OA1 : OwnI W1 w.heap.size (.slice none 0 0) (au.take 0) := OwnI.cut (nOwn_keep OA bel1) 0 (Nat.zero_le _) HMAU.out
        unfold Stay
        have HTL : Hid (tailD rest 0 = wl.extract (0 + 1) wl.size) := by show tailD rest 0 = _; unfold tailD; rw [← HWL.out]
        by_cases hb60 : (wl[0].toNat : Int) = 60
        · have hq60 : ((wl[0].toNat : Int) == 60) = true := by simp [hb60]
          have HB60 : Hid (((n_wholeOf rest)[0]'(by rw [← HWL.out]; exact hlt)).toNat = 60) := by show _ = _; have e := HWL.out; subst e; omega
          have RS := specReadStyle_any (wl.extract (0 + 1) wl.size) W1 (by rw [ByteArray.size_extract]; omega)
          have ztl : (wl.extract (0 + 1) wl.size).size ≤ 1048576 := by rw [ByteArray.size_extract]; omega
          clear hb60
          go_wp2_with fail
          refine RS.mono ?_
          rintro e w3 ⟨hor, c3⟩
          have l3 := below_lies c3 l1 (lies_lt l1)
          have b3 := b1.trans (c3.mono b1.size)
          have ol3 : OwnN w3 w.heap.size (.slice al n cl) ns := nOwn_keep OW1 c3
          have oa3 : OwnI w3 w.heap.size (.slice none 0 0) (au.take 0) := nOwn_keep OA1 c3
          rcases hor with ⟨Y, rfl, hR, hU⟩ | ⟨rfl, hNoS⟩
          rotate_left
          · have HNo : Hid (¬ ∃ X, RelT s X) := ghT_none HGH.out H0.out (HLD.out) (.inr (.inr (.inr (.inr (.inr ⟨fun h => by have := HB60.out; omega, by rw [HTL.out]; exact hNoS⟩)))))
            clear hNoS RS
            go_wp2_with (first | (with_reducible show wpList _ _ _ (⟨none, Op.store 34 (Operand.tmp 12) _, _, _, _, _⟩ :: _) _ _; refine wpList_store_box rfl 34 _ _ rfl rfl (#[.int .i64 0, .int .i64 0, .int .i64 0, .bool false, .bool false, .int .i64 0, .bool false, .bool false, .int .i64 0, .int .i64 0, .int .i64 0, .int .i64 0, .bool false, .bool false, .int .i64 0, .int .i64 0, .bool false, .bool false, .int .i64 0, .int .i64 0, .int .i64 0, .int .i64 0, .int .i64 0, .int .i64 0, .int .i64 0, .int .i64 0]) rfl rfl (by kernel_rfl) rfl (by kernel_rfl) ?_; intro W4 bel4 l4 hsz4; refine stay ?_) | fail)
            have b4 := b3.trans (bel4.mono b3.size)
            unfold Stay
            clear bel4 l4 l3 ol3 oa3 c3
            go_wp2
            go_ret2
            exact readEnd_no HNo.out b4
          have HRY : Hid (∀ Z, Rel (wl.extract (0 + 1) wl.size) Z → Z = Y) := hU
          clear hR hU RS
          go_wp2_with (first | (with_reducible show wpList _ _ _ (⟨none, Op.store 34 (Operand.tmp 12) _, _, _, _, _⟩ :: _) _ _; refine wpList_store_box rfl 34 _ _ rfl rfl (#[.int .i64 Y.sh, .int .i64 Y.fl, .int .i64 Y.cl, .bool Y.w.a, .bool Y.w.p, .int .i64 Y.w.n, .bool Y.h.a, .bool Y.h.p, .int .i64 Y.h.n, .int .i64 Y.mn, .int .i64 Y.mx, .int .i64 Y.mt, .bool Y.mr.a, .bool Y.mr.p, .int .i64 Y.mr.n, .int .i64 Y.mb, .bool Y.ml.a, .bool Y.ml.p, .int .i64 Y.ml.n, .int .i64 Y.bo, .int .i64 Y.pa, .int .i64 Y.wh, .int .i64 Y.al, .int .i64 Y.lh, .int .i64 Y.ri, .int .i64 Y.dn]) rfl rfl (by kernel_rfl) rfl (by kernel_rfl) ?_; intro W4 bel4 l4 hsz4; refine stay ?_) | fail)
          have b4 := b3.trans (bel4.mono b3.size)
          have l34 := below_lies bel4 l3 (lies_lt l3)
          have ol4 : OwnN W4 w.heap.size (.slice al n cl) ns := nOwn_keep ol3 bel4
          have oa4 : OwnI W4 w.heap.size (.slice none 0 0) (au.take 0) := nOwn_keep oa3 bel4
          have lt4 : W.heap.size < w3.heap.size := lies_lt l3
          unfold Stay
          clear bel4 l3 ol3 oa3 c3 b3
          go_wp2_with (first | ((with_reducible show wpList _ _ _ (⟨some 83, Op.load 34 _, _, _, _, _⟩ :: _) _ _); refine wpList_load_row rfl 34 _ rfl w3.heap.size rfl _ (#[.int .i64 Y.sh, .int .i64 Y.fl, .int .i64 Y.cl, .bool Y.w.a, .bool Y.w.p, .int .i64 Y.w.n, .bool Y.h.a, .bool Y.h.p, .int .i64 Y.h.n, .int .i64 Y.mn, .int .i64 Y.mx, .int .i64 Y.mt, .bool Y.mr.a, .bool Y.mr.p, .int .i64 Y.mr.n, .int .i64 Y.mb, .bool Y.ml.a, .bool Y.ml.p, .int .i64 Y.ml.n, .int .i64 Y.bo, .int .i64 Y.pa, .int .i64 Y.wh, .int .i64 Y.al, .int .i64 Y.lh, .int .i64 Y.ri, .int .i64 Y.dn]) _ _ l4 Tryz.underlying34 rfl (by kernel_rfl) ?_) | ((with_reducible show wpList _ _ _ (⟨none, Op.store 34 (Operand.tmp 84) _, _, _, _, _⟩ :: _) _ _); refine wpList_putA rfl _ _ _ rfl rfl _ 2 28 [.int .i64 Y.sh, .int .i64 Y.fl, .int .i64 Y.cl, .bool Y.w.a, .bool Y.w.p, .int .i64 Y.w.n, .bool Y.h.a, .bool Y.h.p, .int .i64 Y.h.n, .int .i64 Y.mn, .int .i64 Y.mx, .int .i64 Y.mt, .bool Y.mr.a, .bool Y.mr.p, .int .i64 Y.mr.n, .int .i64 Y.mb, .bool Y.ml.a, .bool Y.ml.p, .int .i64 Y.ml.n, .int .i64 Y.bo, .int .i64 Y.pa, .int .i64 Y.wh, .int .i64 Y.al, .int .i64 Y.lh, .int .i64 Y.ri, .int .i64 Y.dn] _ _ rfl rfl l34 rfl (by kernel_rfl) (by kernel_rfl) (by kernel_rfl) ?_; intro W5 p9 l9 n9; refine stay ?_) | fail)
          have l5 : W5.heap[W.heap.size]? = some (.cells (#[.int .i64 (-1), .string ByteArray.empty, .int .i64 Y.sh, .int .i64 Y.fl, .int .i64 Y.cl, .bool Y.w.a, .bool Y.w.p, .int .i64 Y.w.n, .bool Y.h.a, .bool Y.h.p, .int .i64 Y.h.n, .int .i64 Y.mn, .int .i64 Y.mx, .int .i64 Y.mt, .bool Y.mr.a, .bool Y.mr.p, .int .i64 Y.mr.n, .int .i64 Y.mb, .bool Y.ml.a, .bool Y.ml.p, .int .i64 Y.ml.n, .int .i64 Y.bo, .int .i64 Y.pa, .int .i64 Y.wh, .int .i64 Y.al, .int .i64 Y.lh, .int .i64 Y.ri, .int .i64 Y.dn]) 36 (0, 0)) := l9.trans (congrArg (fun c => some (Obj.cells c 36 (0, 0))) (show _ = (#[.int .i64 (-1), .string ByteArray.empty, .int .i64 Y.sh, .int .i64 Y.fl, .int .i64 Y.cl, .bool Y.w.a, .bool Y.w.p, .int .i64 Y.w.n, .bool Y.h.a, .bool Y.h.p, .int .i64 Y.h.n, .int .i64 Y.mn, .int .i64 Y.mx, .int .i64 Y.mt, .bool Y.mr.a, .bool Y.mr.p, .int .i64 Y.mr.n, .int .i64 Y.mb, .bool Y.ml.a, .bool Y.ml.p, .int .i64 Y.ml.n, .int .i64 Y.bo, .int .i64 Y.pa, .int .i64 Y.wh, .int .i64 Y.al, .int .i64 Y.lh, .int .i64 Y.ri, .int .i64 Y.dn] : Array Value) by kernel_rfl))
          have b5 := p9.below b4 (by have := bW.size; omega)
          have ol5 : OwnN W5 w.heap.size (.slice al n cl) ns := nOwn_put ol4 p9 (fun e => absurd (hltO.out _ e) (by omega))
          have oa5 : OwnI W5 w.heap.size (.slice none 0 0) (au.take 0) := nOwn_put oa4 p9 (nOwn_ne oa4 l34 (by decide))
          have oa5' : W5.ownsRow w.heap.size 3 1 (.slice none 0 0) (au.take 0).length ((au.take 0).map (Value.int .i64)) := oa5
          unfold Stay
          clear l9 p9 n9 l34 ol4 oa4 b4 l4
          have hb5 := b5.size
          have htl : (au.take 0).length ≤ 41 := by rw [List.length_take]; omega
          go_wp2_with (first | (at_builtin; refine wpList_append_own _ rfl (.tmp 85) (.tmp 88) 28 rfl w.heap.size 3 i0 (.int .i64 0) 1 8 Tryz.underlying28 hi hz0 hz1 hz2 rfl (by decide) _ _ _ rfl (oa5'.alloc _) ⟨W5.heap.size, 0, none⟩ 1 1 [.int .i64 (n : Int)] rfl rfl (cell_one_new _ _ _) (one_i64 _) (by unfold maxLen; omega) (by omega) (by simp; omega) ?_; intro v7 w7 hown7 hgrow7 _; refine stay ?_) | fail)
          have b7 : Below w.heap.size w w7 := (b5.alloc b5.size _).grown hgrow7 (by simp; omega) (fun j hj => (oa5'.lt j hj).1)
          have oa7 : OwnI w7 w.heap.size v7 (au.take 0 ++ [(n : Int)]) := OwnI.snoc rfl hown7
          have ol7 : OwnN w7 w.heap.size (.slice al n cl) ns := World.ownsRow.kept (World.ownsRow.alloc ol5 _) hgrow7 (nOwn_ne2 ol5 oa5 (by decide))
          have l7 : w7.heap[W.heap.size]? = some (.cells (#[.int .i64 (-1), .string ByteArray.empty, .int .i64 Y.sh, .int .i64 Y.fl, .int .i64 Y.cl, .bool Y.w.a, .bool Y.w.p, .int .i64 Y.w.n, .bool Y.h.a, .bool Y.h.p, .int .i64 Y.h.n, .int .i64 Y.mn, .int .i64 Y.mx, .int .i64 Y.mt, .bool Y.mr.a, .bool Y.mr.p, .int .i64 Y.mr.n, .int .i64 Y.mb, .bool Y.ml.a, .bool Y.ml.p, .int .i64 Y.ml.n, .int .i64 Y.bo, .int .i64 Y.pa, .int .i64 Y.wh, .int .i64 Y.al, .int .i64 Y.lh, .int .i64 Y.ri, .int .i64 Y.dn]) 36 (0, 0)) := (hgrow7.block W.heap.size (by have := lies_lt l5; simp; omega) (fun e => nOwn_ne oa5 l5 (by decide) e.symm)).trans (heap_in l5)
          unfold Stay
          clear hown7 hgrow7 oa5' oa5 ol5 l5 b5 hb5
          have cy : (#[.int .i64 (-1), .string ByteArray.empty, .int .i64 Y.sh, .int .i64 Y.fl, .int .i64 Y.cl, .bool Y.w.a, .bool Y.w.p, .int .i64 Y.w.n, .bool Y.h.a, .bool Y.h.p, .int .i64 Y.h.n, .int .i64 Y.mn, .int .i64 Y.mx, .int .i64 Y.mt, .bool Y.mr.a, .bool Y.mr.p, .int .i64 Y.mr.n, .int .i64 Y.mb, .bool Y.ml.a, .bool Y.ml.p, .int .i64 Y.ml.n, .int .i64 Y.bo, .int .i64 Y.pa, .int .i64 Y.wh, .int .i64 Y.al, .int .i64 Y.lh, .int .i64 Y.ri, .int .i64 Y.dn] : Array Value).toList = ndL ⟨(-1), ByteArray.empty, Y⟩ := rfl
          have RNy : Hid (w7.rangeAt W.heap.size 0 (#[.int .i64 (-1), .string ByteArray.empty, .int .i64 Y.sh, .int .i64 Y.fl, .int .i64 Y.cl, .bool Y.w.a, .bool Y.w.p, .int .i64 Y.w.n, .bool Y.h.a, .bool Y.h.p, .int .i64 Y.h.n, .int .i64 Y.mn, .int .i64 Y.mx, .int .i64 Y.mt, .bool Y.mr.a, .bool Y.mr.p, .int .i64 Y.mr.n, .int .i64 Y.mb, .bool Y.ml.a, .bool Y.ml.p, .int .i64 Y.ml.n, .int .i64 Y.bo, .int .i64 Y.pa, .int .i64 Y.wh, .int .i64 Y.al, .int .i64 Y.lh, .int .i64 Y.ri, .int .i64 Y.dn] : Array Value).toList) := fun j v hj => (lies_cell l7 (0 + j)).trans (by rw [← hj, Nat.zero_add]; simp)
          have HGN : Hid (GhT s (k + 1) (ns ++ [⟨(-1), ByteArray.empty, Y⟩]) (au.take 0 ++ [(n : Int)]) pt) := by
            show GhT _ _ _ _ _
            have h := ghT_elem HGH.out H0.out (HLD.out) (by rw [← HWL.out]; exact hlt) (by have := HB60.out; omega) (Y := Y) (by rw [HTL.out]; exact HRY.out)
            rw [HUP.out] at h
            rw [HPT.out, show ((n : Nat) : Int) = ((k : Nat) : Int) by omega]
            exact h
          have HTX : Hid (ByteArray.empty.size ≤ 1048576) := by show _ ≤ _; exact Nat.zero_le _
          have HPS : Hid (pt.size < rest.size) := by show pt.size < rest.size; rw [HPT.out]; exact n_part_less H0.out HDOT.out
          have HAL : Hid ((au.take 0 ++ [(n : Int)]).length ≤ k + 1) := by show _ ≤ _; rw [List.length_append, List.length_take]; simp only [List.length_singleton]; omega
          have HOL : Hid (w7.ownsRow w.heap.size 36 28 (.slice al n cl) n (flatN ns)) := by show w7.ownsRow _ _ _ _ _ _; have h := ol7; unfold OwnN at h; rw [← HN.out] at h; exact h
          have HOA : Hid (OwnI w7 w.heap.size (v7) (au.take 0 ++ [(n : Int)])) := oa7
          have HBL : Hid (Below w.heap.size w w7) := b7
          have hbs := HBL.out.size
          clear ol7 oa7 b7 l7
          go_wp2_with (first | (with_reducible show wpList _ _ _ (⟨some 98, Op.load 36 _, _, _, _, _⟩ :: _) _ _; refine wpList_load_mid rfl 36 _ rfl W.heap.size 0 rfl (#[.int .i64 (-1), .string ByteArray.empty, .int .i64 Y.sh, .int .i64 Y.fl, .int .i64 Y.cl, .bool Y.w.a, .bool Y.w.p, .int .i64 Y.w.n, .bool Y.h.a, .bool Y.h.p, .int .i64 Y.h.n, .int .i64 Y.mn, .int .i64 Y.mx, .int .i64 Y.mt, .bool Y.mr.a, .bool Y.mr.p, .int .i64 Y.mr.n, .int .i64 Y.mb, .bool Y.ml.a, .bool Y.ml.p, .int .i64 Y.ml.n, .int .i64 Y.bo, .int .i64 Y.pa, .int .i64 Y.wh, .int .i64 Y.al, .int .i64 Y.lh, .int .i64 Y.ri, .int .i64 Y.dn] : Array Value).toList _ RNy.out Tryz.underlying36 rfl (by kernel_rfl) ?_) | (at_builtin; refine wpList_append_own _ rfl (.tmp 97) (.tmp 99) 22 rfl w.heap.size 36 j0 _ 28 200 Tryz.underlying22 hj hy0 hy1 hy2 rfl (by decide) _ _ _ rfl (HOL.out.alloc _) ⟨w7.heap.size, 0, none⟩ 1 1 (#[.int .i64 (-1), .string ByteArray.empty, .int .i64 Y.sh, .int .i64 Y.fl, .int .i64 Y.cl, .bool Y.w.a, .bool Y.w.p, .int .i64 Y.w.n, .bool Y.h.a, .bool Y.h.p, .int .i64 Y.h.n, .int .i64 Y.mn, .int .i64 Y.mx, .int .i64 Y.mt, .bool Y.mr.a, .bool Y.mr.p, .int .i64 Y.mr.n, .int .i64 Y.mb, .bool Y.ml.a, .bool Y.ml.p, .int .i64 Y.ml.n, .int .i64 Y.bo, .int .i64 Y.pa, .int .i64 Y.wh, .int .i64 Y.al, .int .i64 Y.lh, .int .i64 Y.ri, .int .i64 Y.dn] : Array Value).toList rfl rfl (World.news_of_block (cs := #[.int .i64 (-1), .string ByteArray.empty, .int .i64 Y.sh, .int .i64 Y.fl, .int .i64 Y.cl, .bool Y.w.a, .bool Y.w.p, .int .i64 Y.w.n, .bool Y.h.a, .bool Y.h.p, .int .i64 Y.h.n, .int .i64 Y.mn, .int .i64 Y.mx, .int .i64 Y.mt, .bool Y.mr.a, .bool Y.mr.p, .int .i64 Y.mr.n, .int .i64 Y.mb, .bool Y.ml.a, .bool Y.ml.p, .int .i64 Y.ml.n, .int .i64 Y.bo, .int .i64 Y.pa, .int .i64 Y.wh, .int .i64 Y.al, .int .i64 Y.lh, .int .i64 Y.ri, .int .i64 Y.dn]) (heap_at _ _ _ rfl)) (one28 ⟨(-1), ByteArray.empty, Y⟩) (by unfold maxLen; omega) (by omega) (by simp; omega) ?_) | fail)
          intro v8 w8 hown8 hgrow8 _
          have b8 : Below w.heap.size w w8 := (HBL.out.alloc HBL.out.size _).grown hgrow8 (by simp; omega) (fun j hj => (HOL.out.lt j hj).1)
          have o8 : OwnN w8 w.heap.size v8 (ns ++ [⟨(-1), ByteArray.empty, Y⟩]) := by unfold OwnN; rw [flatN_snoc, List.length_append, ← HN.out]; exact hown8
          have a8 : OwnI w8 w.heap.size (v7) (au.take 0 ++ [(n : Int)]) := World.ownsRow.kept (World.ownsRow.alloc HOA.out _) hgrow8 (nOwn_ne2 HOA.out HOL.out (by decide))
          have HR8 : Hid (RdSt s w (k + 1) (ns ++ [⟨(-1), ByteArray.empty, Y⟩]) (au.take 0 ++ [(n : Int)]) pt v8 (v7) w8) := ⟨by omega, by rw [List.length_append, ← HN.out]; simp; omega, by omega, HAL.out, o8, a8, HGN.out, fun x hx => by rcases List.mem_append.1 hx with h | h; exact HST.out.tx x h; rw [List.mem_singleton.1 h]; exact HTX.out, b8⟩
          clear hown8 hgrow8 o8 a8 b8 HOL HOA HBL HGN HTX HAL RNy cy
          go_wp2
          go_roundw
          case rel => exact ⟨k + 1, _, _, pt, rfl, HR8.out⟩
          case measure => exact HPS.out
        have hq60 : ((wl[0].toNat : Int) == 60) = false := by simpa using hb60
        by_cases hb124 : (wl[0].toNat : Int) = 124
        · have hq124 : ((wl[0].toNat : Int) == 124) = true := by simp [hb124]
          have HB124 : Hid (((n_wholeOf rest)[0]'(by rw [← HWL.out]; exact hlt)).toNat = 124) := by show _ = _; have e := HWL.out; subst e; omega
          obtain ⟨tx, htx⟩ : ∃ t, t = wl.extract (0 + 1) wl.size := ⟨_, rfl⟩
          have ztl : tx.size ≤ 1048576 := by rw [htx, ByteArray.size_extract]; omega
          have HTE : Hid (tx = wl.extract (0 + 1) wl.size) := htx
          clear hb60 hb124 htx
          go_wp2_with (first | ((with_reducible show wpList _ _ _ (⟨none, Op.store 9 (Operand.tmp 96) _, _, _, _, _⟩ :: _) _ _); refine wpList_putA rfl _ _ _ rfl rfl _ 1 28 [.string (wl.extract (0 + 1) wl.size)] _ _ rfl rfl l1 rfl (by kernel_rfl) (by kernel_rfl) (by kernel_rfl) ?_; intro W5 p9 l9 n9; refine stay ?_) | fail)
          have l5 : W5.heap[W.heap.size]? = some (.cells (#[.int .i64 (-1), .string (wl.extract (0 + 1) wl.size), .int .i64 0, .int .i64 0, .int .i64 0, .bool false, .bool false, .int .i64 0, .bool false, .bool false, .int .i64 0, .int .i64 0, .int .i64 0, .int .i64 0, .bool false, .bool false, .int .i64 0, .int .i64 0, .bool false, .bool false, .int .i64 0, .int .i64 0, .int .i64 0, .int .i64 0, .int .i64 0, .int .i64 0, .int .i64 0, .int .i64 0]) 36 (0, 0)) := l9.trans (congrArg (fun c => some (Obj.cells c 36 (0, 0))) (show _ = (#[.int .i64 (-1), .string (wl.extract (0 + 1) wl.size), .int .i64 0, .int .i64 0, .int .i64 0, .bool false, .bool false, .int .i64 0, .bool false, .bool false, .int .i64 0, .int .i64 0, .int .i64 0, .int .i64 0, .bool false, .bool false, .int .i64 0, .int .i64 0, .bool false, .bool false, .int .i64 0, .int .i64 0, .int .i64 0, .int .i64 0, .int .i64 0, .int .i64 0, .int .i64 0, .int .i64 0] : Array Value) by kernel_rfl))
          have b5 := p9.below b1 (by have := bW.size; omega)
          have ol5 : OwnN W5 w.heap.size (.slice al n cl) ns := nOwn_put OW1 p9 (fun e => absurd (hltO.out _ e) (by omega))
          have oa5 : OwnI W5 w.heap.size (.slice none 0 0) (au.take 0) := nOwn_put OA1 p9 (nOwn_ne OA1 l1 (by decide))
          unfold Stay
          clear l9 p9 n9
          have cy : (#[.int .i64 (-1), .string (wl.extract (0 + 1) wl.size), .int .i64 0, .int .i64 0, .int .i64 0, .bool false, .bool false, .int .i64 0, .bool false, .bool false, .int .i64 0, .int .i64 0, .int .i64 0, .int .i64 0, .bool false, .bool false, .int .i64 0, .int .i64 0, .bool false, .bool false, .int .i64 0, .int .i64 0, .int .i64 0, .int .i64 0, .int .i64 0, .int .i64 0, .int .i64 0, .int .i64 0] : Array Value).toList = ndL ⟨(-1), (wl.extract (0 + 1) wl.size), z0⟩ := rfl
          have RNy : Hid (W5.rangeAt W.heap.size 0 (#[.int .i64 (-1), .string (wl.extract (0 + 1) wl.size), .int .i64 0, .int .i64 0, .int .i64 0, .bool false, .bool false, .int .i64 0, .bool false, .bool false, .int .i64 0, .int .i64 0, .int .i64 0, .int .i64 0, .bool false, .bool false, .int .i64 0, .int .i64 0, .bool false, .bool false, .int .i64 0, .int .i64 0, .int .i64 0, .int .i64 0, .int .i64 0, .int .i64 0, .int .i64 0, .int .i64 0] : Array Value).toList) := fun j v hj => (lies_cell l5 (0 + j)).trans (by rw [← hj, Nat.zero_add]; simp)
          have HGN : Hid (GhT s (k + 1) (ns ++ [⟨(-1), (wl.extract (0 + 1) wl.size), z0⟩]) (au.take 0) pt) := by
            show GhT _ _ _ _ _
            have h := ghT_text HGH.out H0.out (HLD.out) (by rw [← HWL.out]; exact hlt) (by have := HB124.out; omega)
            rw [HUP.out, HTL.out] at h
            rw [HPT.out]
            exact h
          have HTX : Hid ((wl.extract (0 + 1) wl.size).size ≤ 1048576) := by show _ ≤ _; rw [← HTE.out]; exact ztl
          have HPS : Hid (pt.size < rest.size) := by show pt.size < rest.size; rw [HPT.out]; exact n_part_less H0.out HDOT.out
          have HAL : Hid ((au.take 0).length ≤ k + 1) := by show _ ≤ _; rw [List.length_take]; omega
          have HOL : Hid (W5.ownsRow w.heap.size 36 28 (.slice al n cl) n (flatN ns)) := by show W5.ownsRow _ _ _ _ _ _; have h := ol5; unfold OwnN at h; rw [← HN.out] at h; exact h
          have HOA : Hid (OwnI W5 w.heap.size (.slice none 0 0) (au.take 0)) := oa5
          have HBL : Hid (Below w.heap.size w W5) := b5
          have hbs := HBL.out.size
          clear ol5 oa5 b5 l5
          go_wp2_with (first | (with_reducible show wpList _ _ _ (⟨some 98, Op.load 36 _, _, _, _, _⟩ :: _) _ _; refine wpList_load_mid rfl 36 _ rfl W.heap.size 0 rfl (#[.int .i64 (-1), .string (wl.extract (0 + 1) wl.size), .int .i64 0, .int .i64 0, .int .i64 0, .bool false, .bool false, .int .i64 0, .bool false, .bool false, .int .i64 0, .int .i64 0, .int .i64 0, .int .i64 0, .bool false, .bool false, .int .i64 0, .int .i64 0, .bool false, .bool false, .int .i64 0, .int .i64 0, .int .i64 0, .int .i64 0, .int .i64 0, .int .i64 0, .int .i64 0, .int .i64 0] : Array Value).toList _ RNy.out Tryz.underlying36 rfl (by kernel_rfl) ?_) | (at_builtin; refine wpList_append_own _ rfl (.tmp 97) (.tmp 99) 22 rfl w.heap.size 36 j0 _ 28 200 Tryz.underlying22 hj hy0 hy1 hy2 rfl (by decide) _ _ _ rfl (HOL.out.alloc _) ⟨W5.heap.size, 0, none⟩ 1 1 (#[.int .i64 (-1), .string (wl.extract (0 + 1) wl.size), .int .i64 0, .int .i64 0, .int .i64 0, .bool false, .bool false, .int .i64 0, .bool false, .bool false, .int .i64 0, .int .i64 0, .int .i64 0, .int .i64 0, .bool false, .bool false, .int .i64 0, .int .i64 0, .bool false, .bool false, .int .i64 0, .int .i64 0, .int .i64 0, .int .i64 0, .int .i64 0, .int .i64 0, .int .i64 0, .int .i64 0] : Array Value).toList rfl rfl (World.news_of_block (cs := #[.int .i64 (-1), .string (wl.extract (0 + 1) wl.size), .int .i64 0, .int .i64 0, .int .i64 0, .bool false, .bool false, .int .i64 0, .bool false, .bool false, .int .i64 0, .int .i64 0, .int .i64 0, .int .i64 0, .bool false, .bool false, .int .i64 0, .int .i64 0, .bool false, .bool false, .int .i64 0, .int .i64 0, .int .i64 0, .int .i64 0, .int .i64 0, .int .i64 0, .int .i64 0, .int .i64 0]) (heap_at _ _ _ rfl)) (one28 ⟨(-1), (wl.extract (0 + 1) wl.size), z0⟩) (by unfold maxLen; omega) (by omega) (by simp; omega) ?_) | fail)
          intro v8 w8 hown8 hgrow8 _
          have b8 : Below w.heap.size w w8 := (HBL.out.alloc HBL.out.size _).grown hgrow8 (by simp; omega) (fun j hj => (HOL.out.lt j hj).1)
          have o8 : OwnN w8 w.heap.size v8 (ns ++ [⟨(-1), (wl.extract (0 + 1) wl.size), z0⟩]) := by unfold OwnN; rw [flatN_snoc, List.length_append, ← HN.out]; exact hown8
          have a8 : OwnI w8 w.heap.size (.slice none 0 0) (au.take 0) := World.ownsRow.kept (World.ownsRow.alloc HOA.out _) hgrow8 (nOwn_ne2 HOA.out HOL.out (by decide))
          have HR8 : Hid (RdSt s w (k + 1) (ns ++ [⟨(-1), (wl.extract (0 + 1) wl.size), z0⟩]) (au.take 0) pt v8 (.slice none 0 0) w8) := ⟨by omega, by rw [List.length_append, ← HN.out]; simp; omega, by omega, HAL.out, o8, a8, HGN.out, fun x hx => by rcases List.mem_append.1 hx with h | h; exact HST.out.tx x h; rw [List.mem_singleton.1 h]; exact HTX.out, b8⟩
          clear hown8 hgrow8 o8 a8 b8 HOL HOA HBL HGN HTX HAL RNy cy
          go_wp2
          go_roundw
          case rel => exact ⟨k + 1, _, _, pt, rfl, HR8.out⟩
          case measure => exact HPS.out
        have hq124 : ((wl[0].toNat : Int) == 124) = false := by simpa using hb124
        have HNo : Hid (¬ ∃ X, RelT s X) := ghT_none HGH.out H0.out (HLD.out) (.inr (.inr (.inr (.inr (.inl fun h => by have e := HWL.out; subst e; exact ⟨hb60, hb124⟩)))))
        clear hb60 hb124
        go_wp2
        go_ret2
        exact readEnd_no HNo.out b1
      · simp only [Value.slice.injEq] at hv
        obtain ⟨rfl, hv1, rfl⟩ := hv
        have hcap2 : m ≤ ca := by omega
        have hcap3 : (m : Int) ≤ (ca : Int) := by omega
        clear hv1
        by_cases hd0 : d = 0
        · subst hd0
          have hm0 : ¬ ((m : Int) < 0) := by omega
          have HUP : Hid (upD au 0 = -1) := rfl
          go_wp2_with (first | ((with_reducible show wpList _ _ _ (⟨some 56, Op.build 36 _, _, _, _, _⟩ :: _) _ _); refine wpList_buildTo rfl 36 _ rfl _ rfl (#[.int .i64 (-1), .string ByteArray.empty, .int .i64 0, .int .i64 0, .int .i64 0, .bool false, .bool false, .int .i64 0, .bool false, .bool false, .int .i64 0, .int .i64 0, .int .i64 0, .int .i64 0, .bool false, .bool false, .int .i64 0, .int .i64 0, .bool false, .bool false, .int .i64 0, .int .i64 0, .int .i64 0, .int .i64 0, .int .i64 0, .int .i64 0, .int .i64 0, .int .i64 0]) (by kernel_rfl) ?_) | (with_reducible show wpList _ _ _ (⟨none, Op.store 36 _ _, _, _, _, _⟩ :: _) _ _; refine wpList_store_box rfl 36 _ _ rfl rfl (#[.int .i64 (-1), .string ByteArray.empty, .int .i64 0, .int .i64 0, .int .i64 0, .bool false, .bool false, .int .i64 0, .bool false, .bool false, .int .i64 0, .int .i64 0, .int .i64 0, .int .i64 0, .bool false, .bool false, .int .i64 0, .int .i64 0, .bool false, .bool false, .int .i64 0, .int .i64 0, .int .i64 0, .int .i64 0, .int .i64 0, .int .i64 0, .int .i64 0, .int .i64 0]) rfl rfl (by kernel_rfl) rfl (by kernel_rfl) ?_; intro W1 bel1 l1 hsz1; refine stay ?_) | fail)
          have b1 := bW.trans (bel1.mono bW.size)
          have OW1 : OwnN W1 w.heap.size (.slice al n cl) ns := nOwn_keep OW bel1
          have OA1 : OwnI W1 w.heap.size (.slice (some ⟨g, 0, none⟩) 0 ca) (au.take 0) := OwnI.cut (nOwn_keep OA bel1) 0 (Nat.zero_le _) HMAU.out
          unfold Stay
          have HTL : Hid (tailD rest 0 = wl.extract (0 + 1) wl.size) := by show tailD rest 0 = _; unfold tailD; rw [← HWL.out]
          by_cases hb60 : (wl[0].toNat : Int) = 60
          · have hq60 : ((wl[0].toNat : Int) == 60) = true := by simp [hb60]
            have HB60 : Hid (((n_wholeOf rest)[0]'(by rw [← HWL.out]; exact hlt)).toNat = 60) := by show _ = _; have e := HWL.out; subst e; omega
            have RS := specReadStyle_any (wl.extract (0 + 1) wl.size) W1 (by rw [ByteArray.size_extract]; omega)
            have ztl : (wl.extract (0 + 1) wl.size).size ≤ 1048576 := by rw [ByteArray.size_extract]; omega
            clear hb60
            go_wp2_with fail
            refine RS.mono ?_
            rintro e w3 ⟨hor, c3⟩
            have l3 := below_lies c3 l1 (lies_lt l1)
            have b3 := b1.trans (c3.mono b1.size)
            have ol3 : OwnN w3 w.heap.size (.slice al n cl) ns := nOwn_keep OW1 c3
            have oa3 : OwnI w3 w.heap.size (.slice (some ⟨g, 0, none⟩) 0 ca) (au.take 0) := nOwn_keep OA1 c3
            rcases hor with ⟨Y, rfl, hR, hU⟩ | ⟨rfl, hNoS⟩
            rotate_left
            · have HNo : Hid (¬ ∃ X, RelT s X) := ghT_none HGH.out H0.out (HLD.out) (.inr (.inr (.inr (.inr (.inr ⟨fun h => by have := HB60.out; omega, by rw [HTL.out]; exact hNoS⟩)))))
              clear hNoS RS
              go_wp2_with (first | (with_reducible show wpList _ _ _ (⟨none, Op.store 34 (Operand.tmp 12) _, _, _, _, _⟩ :: _) _ _; refine wpList_store_box rfl 34 _ _ rfl rfl (#[.int .i64 0, .int .i64 0, .int .i64 0, .bool false, .bool false, .int .i64 0, .bool false, .bool false, .int .i64 0, .int .i64 0, .int .i64 0, .int .i64 0, .bool false, .bool false, .int .i64 0, .int .i64 0, .bool false, .bool false, .int .i64 0, .int .i64 0, .int .i64 0, .int .i64 0, .int .i64 0, .int .i64 0, .int .i64 0, .int .i64 0]) rfl rfl (by kernel_rfl) rfl (by kernel_rfl) ?_; intro W4 bel4 l4 hsz4; refine stay ?_) | fail)
              have b4 := b3.trans (bel4.mono b3.size)
              unfold Stay
              clear bel4 l4 l3 ol3 oa3 c3
              go_wp2
              go_ret2
              exact readEnd_no HNo.out b4
            have HRY : Hid (∀ Z, Rel (wl.extract (0 + 1) wl.size) Z → Z = Y) := hU
            clear hR hU RS
            go_wp2_with (first | (with_reducible show wpList _ _ _ (⟨none, Op.store 34 (Operand.tmp 12) _, _, _, _, _⟩ :: _) _ _; refine wpList_store_box rfl 34 _ _ rfl rfl (#[.int .i64 Y.sh, .int .i64 Y.fl, .int .i64 Y.cl, .bool Y.w.a, .bool Y.w.p, .int .i64 Y.w.n, .bool Y.h.a, .bool Y.h.p, .int .i64 Y.h.n, .int .i64 Y.mn, .int .i64 Y.mx, .int .i64 Y.mt, .bool Y.mr.a, .bool Y.mr.p, .int .i64 Y.mr.n, .int .i64 Y.mb, .bool Y.ml.a, .bool Y.ml.p, .int .i64 Y.ml.n, .int .i64 Y.bo, .int .i64 Y.pa, .int .i64 Y.wh, .int .i64 Y.al, .int .i64 Y.lh, .int .i64 Y.ri, .int .i64 Y.dn]) rfl rfl (by kernel_rfl) rfl (by kernel_rfl) ?_; intro W4 bel4 l4 hsz4; refine stay ?_) | fail)
            have b4 := b3.trans (bel4.mono b3.size)
            have l34 := below_lies bel4 l3 (lies_lt l3)
            have ol4 : OwnN W4 w.heap.size (.slice al n cl) ns := nOwn_keep ol3 bel4
            have oa4 : OwnI W4 w.heap.size (.slice (some ⟨g, 0, none⟩) 0 ca) (au.take 0) := nOwn_keep oa3 bel4
            have lt4 : W.heap.size < w3.heap.size := lies_lt l3
            unfold Stay
            clear bel4 l3 ol3 oa3 c3 b3
            go_wp2_with (first | ((with_reducible show wpList _ _ _ (⟨some 83, Op.load 34 _, _, _, _, _⟩ :: _) _ _); refine wpList_load_row rfl 34 _ rfl w3.heap.size rfl _ (#[.int .i64 Y.sh, .int .i64 Y.fl, .int .i64 Y.cl, .bool Y.w.a, .bool Y.w.p, .int .i64 Y.w.n, .bool Y.h.a, .bool Y.h.p, .int .i64 Y.h.n, .int .i64 Y.mn, .int .i64 Y.mx, .int .i64 Y.mt, .bool Y.mr.a, .bool Y.mr.p, .int .i64 Y.mr.n, .int .i64 Y.mb, .bool Y.ml.a, .bool Y.ml.p, .int .i64 Y.ml.n, .int .i64 Y.bo, .int .i64 Y.pa, .int .i64 Y.wh, .int .i64 Y.al, .int .i64 Y.lh, .int .i64 Y.ri, .int .i64 Y.dn]) _ _ l4 Tryz.underlying34 rfl (by kernel_rfl) ?_) | ((with_reducible show wpList _ _ _ (⟨none, Op.store 34 (Operand.tmp 84) _, _, _, _, _⟩ :: _) _ _); refine wpList_putA rfl _ _ _ rfl rfl _ 2 28 [.int .i64 Y.sh, .int .i64 Y.fl, .int .i64 Y.cl, .bool Y.w.a, .bool Y.w.p, .int .i64 Y.w.n, .bool Y.h.a, .bool Y.h.p, .int .i64 Y.h.n, .int .i64 Y.mn, .int .i64 Y.mx, .int .i64 Y.mt, .bool Y.mr.a, .bool Y.mr.p, .int .i64 Y.mr.n, .int .i64 Y.mb, .bool Y.ml.a, .bool Y.ml.p, .int .i64 Y.ml.n, .int .i64 Y.bo, .int .i64 Y.pa, .int .i64 Y.wh, .int .i64 Y.al, .int .i64 Y.lh, .int .i64 Y.ri, .int .i64 Y.dn] _ _ rfl rfl l34 rfl (by kernel_rfl) (by kernel_rfl) (by kernel_rfl) ?_; intro W5 p9 l9 n9; refine stay ?_) | fail)
            have l5 : W5.heap[W.heap.size]? = some (.cells (#[.int .i64 (-1), .string ByteArray.empty, .int .i64 Y.sh, .int .i64 Y.fl, .int .i64 Y.cl, .bool Y.w.a, .bool Y.w.p, .int .i64 Y.w.n, .bool Y.h.a, .bool Y.h.p, .int .i64 Y.h.n, .int .i64 Y.mn, .int .i64 Y.mx, .int .i64 Y.mt, .bool Y.mr.a, .bool Y.mr.p, .int .i64 Y.mr.n, .int .i64 Y.mb, .bool Y.ml.a, .bool Y.ml.p, .int .i64 Y.ml.n, .int .i64 Y.bo, .int .i64 Y.pa, .int .i64 Y.wh, .int .i64 Y.al, .int .i64 Y.lh, .int .i64 Y.ri, .int .i64 Y.dn]) 36 (0, 0)) := l9.trans (congrArg (fun c => some (Obj.cells c 36 (0, 0))) (show _ = (#[.int .i64 (-1), .string ByteArray.empty, .int .i64 Y.sh, .int .i64 Y.fl, .int .i64 Y.cl, .bool Y.w.a, .bool Y.w.p, .int .i64 Y.w.n, .bool Y.h.a, .bool Y.h.p, .int .i64 Y.h.n, .int .i64 Y.mn, .int .i64 Y.mx, .int .i64 Y.mt, .bool Y.mr.a, .bool Y.mr.p, .int .i64 Y.mr.n, .int .i64 Y.mb, .bool Y.ml.a, .bool Y.ml.p, .int .i64 Y.ml.n, .int .i64 Y.bo, .int .i64 Y.pa, .int .i64 Y.wh, .int .i64 Y.al, .int .i64 Y.lh, .int .i64 Y.ri, .int .i64 Y.dn] : Array Value) by kernel_rfl))
            have b5 := p9.below b4 (by have := bW.size; omega)
            have ol5 : OwnN W5 w.heap.size (.slice al n cl) ns := nOwn_put ol4 p9 (fun e => absurd (hltO.out _ e) (by omega))
            have oa5 : OwnI W5 w.heap.size (.slice (some ⟨g, 0, none⟩) 0 ca) (au.take 0) := nOwn_put oa4 p9 (nOwn_ne oa4 l34 (by decide))
            have oa5' : W5.ownsRow w.heap.size 3 1 (.slice (some ⟨g, 0, none⟩) 0 ca) (au.take 0).length ((au.take 0).map (Value.int .i64)) := oa5
            unfold Stay
            clear l9 p9 n9 l34 ol4 oa4 b4 l4
            have hb5 := b5.size
            have htl : (au.take 0).length ≤ 41 := by rw [List.length_take]; omega
            go_wp2_with (first | (at_builtin; refine wpList_append_own _ rfl (.tmp 85) (.tmp 88) 28 rfl w.heap.size 3 i0 (.int .i64 0) 1 8 Tryz.underlying28 hi hz0 hz1 hz2 rfl (by decide) _ _ _ rfl (oa5'.alloc _) ⟨W5.heap.size, 0, none⟩ 1 1 [.int .i64 (n : Int)] rfl rfl (cell_one_new _ _ _) (one_i64 _) (by unfold maxLen; omega) (by omega) (by simp; omega) ?_; intro v7 w7 hown7 hgrow7 _; refine stay ?_) | fail)
            have b7 : Below w.heap.size w w7 := (b5.alloc b5.size _).grown hgrow7 (by simp; omega) (fun j hj => (oa5'.lt j hj).1)
            have oa7 : OwnI w7 w.heap.size v7 (au.take 0 ++ [(n : Int)]) := OwnI.snoc rfl hown7
            have ol7 : OwnN w7 w.heap.size (.slice al n cl) ns := World.ownsRow.kept (World.ownsRow.alloc ol5 _) hgrow7 (nOwn_ne2 ol5 oa5 (by decide))
            have l7 : w7.heap[W.heap.size]? = some (.cells (#[.int .i64 (-1), .string ByteArray.empty, .int .i64 Y.sh, .int .i64 Y.fl, .int .i64 Y.cl, .bool Y.w.a, .bool Y.w.p, .int .i64 Y.w.n, .bool Y.h.a, .bool Y.h.p, .int .i64 Y.h.n, .int .i64 Y.mn, .int .i64 Y.mx, .int .i64 Y.mt, .bool Y.mr.a, .bool Y.mr.p, .int .i64 Y.mr.n, .int .i64 Y.mb, .bool Y.ml.a, .bool Y.ml.p, .int .i64 Y.ml.n, .int .i64 Y.bo, .int .i64 Y.pa, .int .i64 Y.wh, .int .i64 Y.al, .int .i64 Y.lh, .int .i64 Y.ri, .int .i64 Y.dn]) 36 (0, 0)) := (hgrow7.block W.heap.size (by have := lies_lt l5; simp; omega) (fun e => nOwn_ne oa5 l5 (by decide) e.symm)).trans (heap_in l5)
            unfold Stay
            clear hown7 hgrow7 oa5' oa5 ol5 l5 b5 hb5
            have cy : (#[.int .i64 (-1), .string ByteArray.empty, .int .i64 Y.sh, .int .i64 Y.fl, .int .i64 Y.cl, .bool Y.w.a, .bool Y.w.p, .int .i64 Y.w.n, .bool Y.h.a, .bool Y.h.p, .int .i64 Y.h.n, .int .i64 Y.mn, .int .i64 Y.mx, .int .i64 Y.mt, .bool Y.mr.a, .bool Y.mr.p, .int .i64 Y.mr.n, .int .i64 Y.mb, .bool Y.ml.a, .bool Y.ml.p, .int .i64 Y.ml.n, .int .i64 Y.bo, .int .i64 Y.pa, .int .i64 Y.wh, .int .i64 Y.al, .int .i64 Y.lh, .int .i64 Y.ri, .int .i64 Y.dn] : Array Value).toList = ndL ⟨(-1), ByteArray.empty, Y⟩ := rfl
            have RNy : Hid (w7.rangeAt W.heap.size 0 (#[.int .i64 (-1), .string ByteArray.empty, .int .i64 Y.sh, .int .i64 Y.fl, .int .i64 Y.cl, .bool Y.w.a, .bool Y.w.p, .int .i64 Y.w.n, .bool Y.h.a, .bool Y.h.p, .int .i64 Y.h.n, .int .i64 Y.mn, .int .i64 Y.mx, .int .i64 Y.mt, .bool Y.mr.a, .bool Y.mr.p, .int .i64 Y.mr.n, .int .i64 Y.mb, .bool Y.ml.a, .bool Y.ml.p, .int .i64 Y.ml.n, .int .i64 Y.bo, .int .i64 Y.pa, .int .i64 Y.wh, .int .i64 Y.al, .int .i64 Y.lh, .int .i64 Y.ri, .int .i64 Y.dn] : Array Value).toList) := fun j v hj => (lies_cell l7 (0 + j)).trans (by rw [← hj, Nat.zero_add]; simp)
            have HGN : Hid (GhT s (k + 1) (ns ++ [⟨(-1), ByteArray.empty, Y⟩]) (au.take 0 ++ [(n : Int)]) pt) := by
              show GhT _ _ _ _ _
              have h := ghT_elem HGH.out H0.out (HLD.out) (by rw [← HWL.out]; exact hlt) (by have := HB60.out; omega) (Y := Y) (by rw [HTL.out]; exact HRY.out)
              rw [HUP.out] at h
              rw [HPT.out, show ((n : Nat) : Int) = ((k : Nat) : Int) by omega]
              exact h
            have HTX : Hid (ByteArray.empty.size ≤ 1048576) := by show _ ≤ _; exact Nat.zero_le _
            have HPS : Hid (pt.size < rest.size) := by show pt.size < rest.size; rw [HPT.out]; exact n_part_less H0.out HDOT.out
            have HAL : Hid ((au.take 0 ++ [(n : Int)]).length ≤ k + 1) := by show _ ≤ _; rw [List.length_append, List.length_take]; simp only [List.length_singleton]; omega
            have HOL : Hid (w7.ownsRow w.heap.size 36 28 (.slice al n cl) n (flatN ns)) := by show w7.ownsRow _ _ _ _ _ _; have h := ol7; unfold OwnN at h; rw [← HN.out] at h; exact h
            have HOA : Hid (OwnI w7 w.heap.size (v7) (au.take 0 ++ [(n : Int)])) := oa7
            have HBL : Hid (Below w.heap.size w w7) := b7
            have hbs := HBL.out.size
            clear ol7 oa7 b7 l7
            go_wp2_with (first | (with_reducible show wpList _ _ _ (⟨some 98, Op.load 36 _, _, _, _, _⟩ :: _) _ _; refine wpList_load_mid rfl 36 _ rfl W.heap.size 0 rfl (#[.int .i64 (-1), .string ByteArray.empty, .int .i64 Y.sh, .int .i64 Y.fl, .int .i64 Y.cl, .bool Y.w.a, .bool Y.w.p, .int .i64 Y.w.n, .bool Y.h.a, .bool Y.h.p, .int .i64 Y.h.n, .int .i64 Y.mn, .int .i64 Y.mx, .int .i64 Y.mt, .bool Y.mr.a, .bool Y.mr.p, .int .i64 Y.mr.n, .int .i64 Y.mb, .bool Y.ml.a, .bool Y.ml.p, .int .i64 Y.ml.n, .int .i64 Y.bo, .int .i64 Y.pa, .int .i64 Y.wh, .int .i64 Y.al, .int .i64 Y.lh, .int .i64 Y.ri, .int .i64 Y.dn] : Array Value).toList _ RNy.out Tryz.underlying36 rfl (by kernel_rfl) ?_) | (at_builtin; refine wpList_append_own _ rfl (.tmp 97) (.tmp 99) 22 rfl w.heap.size 36 j0 _ 28 200 Tryz.underlying22 hj hy0 hy1 hy2 rfl (by decide) _ _ _ rfl (HOL.out.alloc _) ⟨w7.heap.size, 0, none⟩ 1 1 (#[.int .i64 (-1), .string ByteArray.empty, .int .i64 Y.sh, .int .i64 Y.fl, .int .i64 Y.cl, .bool Y.w.a, .bool Y.w.p, .int .i64 Y.w.n, .bool Y.h.a, .bool Y.h.p, .int .i64 Y.h.n, .int .i64 Y.mn, .int .i64 Y.mx, .int .i64 Y.mt, .bool Y.mr.a, .bool Y.mr.p, .int .i64 Y.mr.n, .int .i64 Y.mb, .bool Y.ml.a, .bool Y.ml.p, .int .i64 Y.ml.n, .int .i64 Y.bo, .int .i64 Y.pa, .int .i64 Y.wh, .int .i64 Y.al, .int .i64 Y.lh, .int .i64 Y.ri, .int .i64 Y.dn] : Array Value).toList rfl rfl (World.news_of_block (cs := #[.int .i64 (-1), .string ByteArray.empty, .int .i64 Y.sh, .int .i64 Y.fl, .int .i64 Y.cl, .bool Y.w.a, .bool Y.w.p, .int .i64 Y.w.n, .bool Y.h.a, .bool Y.h.p, .int .i64 Y.h.n, .int .i64 Y.mn, .int .i64 Y.mx, .int .i64 Y.mt, .bool Y.mr.a, .bool Y.mr.p, .int .i64 Y.mr.n, .int .i64 Y.mb, .bool Y.ml.a, .bool Y.ml.p, .int .i64 Y.ml.n, .int .i64 Y.bo, .int .i64 Y.pa, .int .i64 Y.wh, .int .i64 Y.al, .int .i64 Y.lh, .int .i64 Y.ri, .int .i64 Y.dn]) (heap_at _ _ _ rfl)) (one28 ⟨(-1), ByteArray.empty, Y⟩) (by unfold maxLen; omega) (by omega) (by simp; omega) ?_) | fail)
            intro v8 w8 hown8 hgrow8 _
            have b8 : Below w.heap.size w w8 := (HBL.out.alloc HBL.out.size _).grown hgrow8 (by simp; omega) (fun j hj => (HOL.out.lt j hj).1)
            have o8 : OwnN w8 w.heap.size v8 (ns ++ [⟨(-1), ByteArray.empty, Y⟩]) := by unfold OwnN; rw [flatN_snoc, List.length_append, ← HN.out]; exact hown8
            have a8 : OwnI w8 w.heap.size (v7) (au.take 0 ++ [(n : Int)]) := World.ownsRow.kept (World.ownsRow.alloc HOA.out _) hgrow8 (nOwn_ne2 HOA.out HOL.out (by decide))
            have HR8 : Hid (RdSt s w (k + 1) (ns ++ [⟨(-1), ByteArray.empty, Y⟩]) (au.take 0 ++ [(n : Int)]) pt v8 (v7) w8) := ⟨by omega, by rw [List.length_append, ← HN.out]; simp; omega, by omega, HAL.out, o8, a8, HGN.out, fun x hx => by rcases List.mem_append.1 hx with h | h; exact HST.out.tx x h; rw [List.mem_singleton.1 h]; exact HTX.out, b8⟩
            clear hown8 hgrow8 o8 a8 b8 HOL HOA HBL HGN HTX HAL RNy cy
            go_wp2
            go_roundw
            case rel => exact ⟨k + 1, _, _, pt, rfl, HR8.out⟩
            case measure => exact HPS.out
          have hq60 : ((wl[0].toNat : Int) == 60) = false := by simpa using hb60
          by_cases hb124 : (wl[0].toNat : Int) = 124
          · have hq124 : ((wl[0].toNat : Int) == 124) = true := by simp [hb124]
            have HB124 : Hid (((n_wholeOf rest)[0]'(by rw [← HWL.out]; exact hlt)).toNat = 124) := by show _ = _; have e := HWL.out; subst e; omega
            obtain ⟨tx, htx⟩ : ∃ t, t = wl.extract (0 + 1) wl.size := ⟨_, rfl⟩
            have ztl : tx.size ≤ 1048576 := by rw [htx, ByteArray.size_extract]; omega
            have HTE : Hid (tx = wl.extract (0 + 1) wl.size) := htx
            clear hb60 hb124 htx
            go_wp2_with (first | ((with_reducible show wpList _ _ _ (⟨none, Op.store 9 (Operand.tmp 96) _, _, _, _, _⟩ :: _) _ _); refine wpList_putA rfl _ _ _ rfl rfl _ 1 28 [.string (wl.extract (0 + 1) wl.size)] _ _ rfl rfl l1 rfl (by kernel_rfl) (by kernel_rfl) (by kernel_rfl) ?_; intro W5 p9 l9 n9; refine stay ?_) | fail)
            have l5 : W5.heap[W.heap.size]? = some (.cells (#[.int .i64 (-1), .string (wl.extract (0 + 1) wl.size), .int .i64 0, .int .i64 0, .int .i64 0, .bool false, .bool false, .int .i64 0, .bool false, .bool false, .int .i64 0, .int .i64 0, .int .i64 0, .int .i64 0, .bool false, .bool false, .int .i64 0, .int .i64 0, .bool false, .bool false, .int .i64 0, .int .i64 0, .int .i64 0, .int .i64 0, .int .i64 0, .int .i64 0, .int .i64 0, .int .i64 0]) 36 (0, 0)) := l9.trans (congrArg (fun c => some (Obj.cells c 36 (0, 0))) (show _ = (#[.int .i64 (-1), .string (wl.extract (0 + 1) wl.size), .int .i64 0, .int .i64 0, .int .i64 0, .bool false, .bool false, .int .i64 0, .bool false, .bool false, .int .i64 0, .int .i64 0, .int .i64 0, .int .i64 0, .bool false, .bool false, .int .i64 0, .int .i64 0, .bool false, .bool false, .int .i64 0, .int .i64 0, .int .i64 0, .int .i64 0, .int .i64 0, .int .i64 0, .int .i64 0, .int .i64 0] : Array Value) by kernel_rfl))
            have b5 := p9.below b1 (by have := bW.size; omega)
            have ol5 : OwnN W5 w.heap.size (.slice al n cl) ns := nOwn_put OW1 p9 (fun e => absurd (hltO.out _ e) (by omega))
            have oa5 : OwnI W5 w.heap.size (.slice (some ⟨g, 0, none⟩) 0 ca) (au.take 0) := nOwn_put OA1 p9 (nOwn_ne OA1 l1 (by decide))
            unfold Stay
            clear l9 p9 n9
            have cy : (#[.int .i64 (-1), .string (wl.extract (0 + 1) wl.size), .int .i64 0, .int .i64 0, .int .i64 0, .bool false, .bool false, .int .i64 0, .bool false, .bool false, .int .i64 0, .int .i64 0, .int .i64 0, .int .i64 0, .bool false, .bool false, .int .i64 0, .int .i64 0, .bool false, .bool false, .int .i64 0, .int .i64 0, .int .i64 0, .int .i64 0, .int .i64 0, .int .i64 0, .int .i64 0, .int .i64 0] : Array Value).toList = ndL ⟨(-1), (wl.extract (0 + 1) wl.size), z0⟩ := rfl
            have RNy : Hid (W5.rangeAt W.heap.size 0 (#[.int .i64 (-1), .string (wl.extract (0 + 1) wl.size), .int .i64 0, .int .i64 0, .int .i64 0, .bool false, .bool false, .int .i64 0, .bool false, .bool false, .int .i64 0, .int .i64 0, .int .i64 0, .int .i64 0, .bool false, .bool false, .int .i64 0, .int .i64 0, .bool false, .bool false, .int .i64 0, .int .i64 0, .int .i64 0, .int .i64 0, .int .i64 0, .int .i64 0, .int .i64 0, .int .i64 0] : Array Value).toList) := fun j v hj => (lies_cell l5 (0 + j)).trans (by rw [← hj, Nat.zero_add]; simp)
            have HGN : Hid (GhT s (k + 1) (ns ++ [⟨(-1), (wl.extract (0 + 1) wl.size), z0⟩]) (au.take 0) pt) := by
              show GhT _ _ _ _ _
              have h := ghT_text HGH.out H0.out (HLD.out) (by rw [← HWL.out]; exact hlt) (by have := HB124.out; omega)
              rw [HUP.out, HTL.out] at h
              rw [HPT.out]
              exact h
            have HTX : Hid ((wl.extract (0 + 1) wl.size).size ≤ 1048576) := by show _ ≤ _; rw [← HTE.out]; exact ztl
            have HPS : Hid (pt.size < rest.size) := by show pt.size < rest.size; rw [HPT.out]; exact n_part_less H0.out HDOT.out
            have HAL : Hid ((au.take 0).length ≤ k + 1) := by show _ ≤ _; rw [List.length_take]; omega
            have HOL : Hid (W5.ownsRow w.heap.size 36 28 (.slice al n cl) n (flatN ns)) := by show W5.ownsRow _ _ _ _ _ _; have h := ol5; unfold OwnN at h; rw [← HN.out] at h; exact h
            have HOA : Hid (OwnI W5 w.heap.size (.slice (some ⟨g, 0, none⟩) 0 ca) (au.take 0)) := oa5
            have HBL : Hid (Below w.heap.size w W5) := b5
            have hbs := HBL.out.size
            clear ol5 oa5 b5 l5
            go_wp2_with (first | (with_reducible show wpList _ _ _ (⟨some 98, Op.load 36 _, _, _, _, _⟩ :: _) _ _; refine wpList_load_mid rfl 36 _ rfl W.heap.size 0 rfl (#[.int .i64 (-1), .string (wl.extract (0 + 1) wl.size), .int .i64 0, .int .i64 0, .int .i64 0, .bool false, .bool false, .int .i64 0, .bool false, .bool false, .int .i64 0, .int .i64 0, .int .i64 0, .int .i64 0, .bool false, .bool false, .int .i64 0, .int .i64 0, .bool false, .bool false, .int .i64 0, .int .i64 0, .int .i64 0, .int .i64 0, .int .i64 0, .int .i64 0, .int .i64 0, .int .i64 0] : Array Value).toList _ RNy.out Tryz.underlying36 rfl (by kernel_rfl) ?_) | (at_builtin; refine wpList_append_own _ rfl (.tmp 97) (.tmp 99) 22 rfl w.heap.size 36 j0 _ 28 200 Tryz.underlying22 hj hy0 hy1 hy2 rfl (by decide) _ _ _ rfl (HOL.out.alloc _) ⟨W5.heap.size, 0, none⟩ 1 1 (#[.int .i64 (-1), .string (wl.extract (0 + 1) wl.size), .int .i64 0, .int .i64 0, .int .i64 0, .bool false, .bool false, .int .i64 0, .bool false, .bool false, .int .i64 0, .int .i64 0, .int .i64 0, .int .i64 0, .bool false, .bool false, .int .i64 0, .int .i64 0, .bool false, .bool false, .int .i64 0, .int .i64 0, .int .i64 0, .int .i64 0, .int .i64 0, .int .i64 0, .int .i64 0, .int .i64 0] : Array Value).toList rfl rfl (World.news_of_block (cs := #[.int .i64 (-1), .string (wl.extract (0 + 1) wl.size), .int .i64 0, .int .i64 0, .int .i64 0, .bool false, .bool false, .int .i64 0, .bool false, .bool false, .int .i64 0, .int .i64 0, .int .i64 0, .int .i64 0, .bool false, .bool false, .int .i64 0, .int .i64 0, .bool false, .bool false, .int .i64 0, .int .i64 0, .int .i64 0, .int .i64 0, .int .i64 0, .int .i64 0, .int .i64 0, .int .i64 0]) (heap_at _ _ _ rfl)) (one28 ⟨(-1), (wl.extract (0 + 1) wl.size), z0⟩) (by unfold maxLen; omega) (by omega) (by simp; omega) ?_) | fail)
            intro v8 w8 hown8 hgrow8 _
            have b8 : Below w.heap.size w w8 := (HBL.out.alloc HBL.out.size _).grown hgrow8 (by simp; omega) (fun j hj => (HOL.out.lt j hj).1)
            have o8 : OwnN w8 w.heap.size v8 (ns ++ [⟨(-1), (wl.extract (0 + 1) wl.size), z0⟩]) := by unfold OwnN; rw [flatN_snoc, List.length_append, ← HN.out]; exact hown8
            have a8 : OwnI w8 w.heap.size (.slice (some ⟨g, 0, none⟩) 0 ca) (au.take 0) := World.ownsRow.kept (World.ownsRow.alloc HOA.out _) hgrow8 (nOwn_ne2 HOA.out HOL.out (by decide))
            have HR8 : Hid (RdSt s w (k + 1) (ns ++ [⟨(-1), (wl.extract (0 + 1) wl.size), z0⟩]) (au.take 0) pt v8 (.slice (some ⟨g, 0, none⟩) 0 ca) w8) := ⟨by omega, by rw [List.length_append, ← HN.out]; simp; omega, by omega, HAL.out, o8, a8, HGN.out, fun x hx => by rcases List.mem_append.1 hx with h | h; exact HST.out.tx x h; rw [List.mem_singleton.1 h]; exact HTX.out, b8⟩
            clear hown8 hgrow8 o8 a8 b8 HOL HOA HBL HGN HTX HAL RNy cy
            go_wp2
            go_roundw
            case rel => exact ⟨k + 1, _, _, pt, rfl, HR8.out⟩
            case measure => exact HPS.out
          have hq124 : ((wl[0].toNat : Int) == 124) = false := by simpa using hb124
          have HNo : Hid (¬ ∃ X, RelT s X) := ghT_none HGH.out H0.out (HLD.out) (.inr (.inr (.inr (.inr (.inl fun h => by have e := HWL.out; subst e; exact ⟨hb60, hb124⟩)))))
          clear hb60 hb124
          go_wp2
          go_ret2
          exact readEnd_no HNo.out b1
        have hdp : (0 : Int) < (d : Int) := by omega
        have hdc : (d : Int) ≤ (ca : Int) := by omega
        obtain ⟨z, hz⟩ : ∃ z, z = au.getD (d - 1) 0 := ⟨_, rfl⟩
        have HUP : Hid (upD au d = z) := by show upD au d = z; unfold upD; rw [if_neg hd0, hz]
        have hq : W.cell? ⟨g, d - 1, none⟩ = some (.int .i64 z) := by
          rcases RW with h | ⟨b, off, h, hcc⟩
          · rw [h] at HMAU; have := HMAU.out; simp at this; omega
          · simp only [Option.some.injEq, Addr.mk.injEq] at h
            obtain ⟨rfl, rfl, _⟩ := h
            have := hcc (d - 1) (by rw [← HMAU.out]; omega)
            rw [Nat.zero_add] at this
            rw [this, hz]
        clear hz
        go_wp2_with (first | ((with_reducible show wpList _ _ _ (⟨some 56, Op.build 36 _, _, _, _, _⟩ :: _) _ _); refine wpList_buildTo rfl 36 _ rfl _ rfl (#[.int .i64 (-1), .string ByteArray.empty, .int .i64 0, .int .i64 0, .int .i64 0, .bool false, .bool false, .int .i64 0, .bool false, .bool false, .int .i64 0, .int .i64 0, .int .i64 0, .int .i64 0, .bool false, .bool false, .int .i64 0, .int .i64 0, .bool false, .bool false, .int .i64 0, .int .i64 0, .int .i64 0, .int .i64 0, .int .i64 0, .int .i64 0, .int .i64 0, .int .i64 0]) (by kernel_rfl) ?_) | (with_reducible show wpList _ _ _ (⟨none, Op.store 36 _ _, _, _, _, _⟩ :: _) _ _; refine wpList_store_box rfl 36 _ _ rfl rfl (#[.int .i64 (-1), .string ByteArray.empty, .int .i64 0, .int .i64 0, .int .i64 0, .bool false, .bool false, .int .i64 0, .bool false, .bool false, .int .i64 0, .int .i64 0, .int .i64 0, .int .i64 0, .bool false, .bool false, .int .i64 0, .int .i64 0, .bool false, .bool false, .int .i64 0, .int .i64 0, .int .i64 0, .int .i64 0, .int .i64 0, .int .i64 0, .int .i64 0, .int .i64 0]) rfl rfl (by kernel_rfl) rfl (by kernel_rfl) ?_; intro W1 bel1 l1 hsz1; refine stay ?_) | fail)
        have b1 := bW.trans (bel1.mono bW.size)
        have OW1 : OwnN W1 w.heap.size (.slice al n cl) ns := nOwn_keep OW bel1
        have OA1 : OwnI W1 w.heap.size (.slice (some ⟨g, 0, none⟩) d ca) (au.take d) := OwnI.cut (nOwn_keep OA bel1) d hdm HMAU.out
        have hq1 : W1.cell? ⟨g, d - 1, none⟩ = some (.int .i64 z) := (bel1.cell (World.block_lt_of_cell? _ ⟨g, d - 1, none⟩ hq)).trans hq
        clear hq
        unfold Stay
        go_wp2_with (first | ((with_reducible show wpList _ _ _ (⟨none, Op.store 3 (Operand.tmp 64) _, _, _, _, _⟩ :: _) _ _); refine wpList_putA rfl _ _ _ rfl rfl _ 0 28 [.int .i64 z] _ _ rfl rfl l1 rfl (by kernel_rfl) (by kernel_rfl) (by kernel_rfl) ?_; intro W2 p9 l9 n9; refine stay ?_) | fail)
        have l2 : W2.heap[W.heap.size]? = some (.cells (#[.int .i64 z, .string ByteArray.empty, .int .i64 0, .int .i64 0, .int .i64 0, .bool false, .bool false, .int .i64 0, .bool false, .bool false, .int .i64 0, .int .i64 0, .int .i64 0, .int .i64 0, .bool false, .bool false, .int .i64 0, .int .i64 0, .bool false, .bool false, .int .i64 0, .int .i64 0, .int .i64 0, .int .i64 0, .int .i64 0, .int .i64 0, .int .i64 0, .int .i64 0]) 36 (0, 0)) := l9.trans (congrArg (fun c => some (Obj.cells c 36 (0, 0))) (show _ = (#[.int .i64 z, .string ByteArray.empty, .int .i64 0, .int .i64 0, .int .i64 0, .bool false, .bool false, .int .i64 0, .bool false, .bool false, .int .i64 0, .int .i64 0, .int .i64 0, .int .i64 0, .bool false, .bool false, .int .i64 0, .int .i64 0, .bool false, .bool false, .int .i64 0, .int .i64 0, .int .i64 0, .int .i64 0, .int .i64 0, .int .i64 0, .int .i64 0, .int .i64 0] : Array Value) by kernel_rfl))
        have b2 := p9.below b1 (by have := bW.size; omega)
        have OW2 : OwnN W2 w.heap.size (.slice al n cl) ns := nOwn_put OW1 p9 (fun e => absurd (hltO.out _ e) (by omega))
        have OA2 : OwnI W2 w.heap.size (.slice (some ⟨g, 0, none⟩) d ca) (au.take d) := nOwn_put OA1 p9 (nOwn_ne OA1 l1 (by decide))
        unfold Stay
        clear l9 p9 n9 hq1 l1 OW1 OA1 b1
        have HTL : Hid (tailD rest d = wl.extract (d + 1) wl.size) := by show tailD rest d = _; unfold tailD; rw [← HWL.out]
        by_cases hb60 : (wl[d].toNat : Int) = 60
        · have hq60 : ((wl[d].toNat : Int) == 60) = true := by simp [hb60]
          have HB60 : Hid (((n_wholeOf rest)[d]'(by rw [← HWL.out]; exact hlt)).toNat = 60) := by show _ = _; have e := HWL.out; subst e; omega
          have RS := specReadStyle_any (wl.extract (d + 1) wl.size) W2 (by rw [ByteArray.size_extract]; omega)
          have ztl : (wl.extract (d + 1) wl.size).size ≤ 1048576 := by rw [ByteArray.size_extract]; omega
          clear hb60
          go_wp2_with fail
          refine RS.mono ?_
          rintro e w3 ⟨hor, c3⟩
          have l3 := below_lies c3 l2 (lies_lt l2)
          have b3 := b2.trans (c3.mono b2.size)
          have ol3 : OwnN w3 w.heap.size (.slice al n cl) ns := nOwn_keep OW2 c3
          have oa3 : OwnI w3 w.heap.size (.slice (some ⟨g, 0, none⟩) d ca) (au.take d) := nOwn_keep OA2 c3
          rcases hor with ⟨Y, rfl, hR, hU⟩ | ⟨rfl, hNoS⟩
          rotate_left
          · have HNo : Hid (¬ ∃ X, RelT s X) := ghT_none HGH.out H0.out (HLD.out) (.inr (.inr (.inr (.inr (.inr ⟨fun h => by have := HB60.out; omega, by rw [HTL.out]; exact hNoS⟩)))))
            clear hNoS RS
            go_wp2_with (first | (with_reducible show wpList _ _ _ (⟨none, Op.store 34 (Operand.tmp 12) _, _, _, _, _⟩ :: _) _ _; refine wpList_store_box rfl 34 _ _ rfl rfl (#[.int .i64 0, .int .i64 0, .int .i64 0, .bool false, .bool false, .int .i64 0, .bool false, .bool false, .int .i64 0, .int .i64 0, .int .i64 0, .int .i64 0, .bool false, .bool false, .int .i64 0, .int .i64 0, .bool false, .bool false, .int .i64 0, .int .i64 0, .int .i64 0, .int .i64 0, .int .i64 0, .int .i64 0, .int .i64 0, .int .i64 0]) rfl rfl (by kernel_rfl) rfl (by kernel_rfl) ?_; intro W4 bel4 l4 hsz4; refine stay ?_) | fail)
            have b4 := b3.trans (bel4.mono b3.size)
            unfold Stay
            clear bel4 l4 l3 ol3 oa3 c3
            go_wp2
            go_ret2
            exact readEnd_no HNo.out b4
          have HRY : Hid (∀ Z, Rel (wl.extract (d + 1) wl.size) Z → Z = Y) := hU
          clear hR hU RS
          go_wp2_with (first | (with_reducible show wpList _ _ _ (⟨none, Op.store 34 (Operand.tmp 12) _, _, _, _, _⟩ :: _) _ _; refine wpList_store_box rfl 34 _ _ rfl rfl (#[.int .i64 Y.sh, .int .i64 Y.fl, .int .i64 Y.cl, .bool Y.w.a, .bool Y.w.p, .int .i64 Y.w.n, .bool Y.h.a, .bool Y.h.p, .int .i64 Y.h.n, .int .i64 Y.mn, .int .i64 Y.mx, .int .i64 Y.mt, .bool Y.mr.a, .bool Y.mr.p, .int .i64 Y.mr.n, .int .i64 Y.mb, .bool Y.ml.a, .bool Y.ml.p, .int .i64 Y.ml.n, .int .i64 Y.bo, .int .i64 Y.pa, .int .i64 Y.wh, .int .i64 Y.al, .int .i64 Y.lh, .int .i64 Y.ri, .int .i64 Y.dn]) rfl rfl (by kernel_rfl) rfl (by kernel_rfl) ?_; intro W4 bel4 l4 hsz4; refine stay ?_) | fail)
          have b4 := b3.trans (bel4.mono b3.size)
          have l34 := below_lies bel4 l3 (lies_lt l3)
          have ol4 : OwnN W4 w.heap.size (.slice al n cl) ns := nOwn_keep ol3 bel4
          have oa4 : OwnI W4 w.heap.size (.slice (some ⟨g, 0, none⟩) d ca) (au.take d) := nOwn_keep oa3 bel4
          have lt4 : W.heap.size < w3.heap.size := lies_lt l3
          unfold Stay
          clear bel4 l3 ol3 oa3 c3 b3
          go_wp2_with (first | ((with_reducible show wpList _ _ _ (⟨some 83, Op.load 34 _, _, _, _, _⟩ :: _) _ _); refine wpList_load_row rfl 34 _ rfl w3.heap.size rfl _ (#[.int .i64 Y.sh, .int .i64 Y.fl, .int .i64 Y.cl, .bool Y.w.a, .bool Y.w.p, .int .i64 Y.w.n, .bool Y.h.a, .bool Y.h.p, .int .i64 Y.h.n, .int .i64 Y.mn, .int .i64 Y.mx, .int .i64 Y.mt, .bool Y.mr.a, .bool Y.mr.p, .int .i64 Y.mr.n, .int .i64 Y.mb, .bool Y.ml.a, .bool Y.ml.p, .int .i64 Y.ml.n, .int .i64 Y.bo, .int .i64 Y.pa, .int .i64 Y.wh, .int .i64 Y.al, .int .i64 Y.lh, .int .i64 Y.ri, .int .i64 Y.dn]) _ _ l4 Tryz.underlying34 rfl (by kernel_rfl) ?_) | ((with_reducible show wpList _ _ _ (⟨none, Op.store 34 (Operand.tmp 84) _, _, _, _, _⟩ :: _) _ _); refine wpList_putA rfl _ _ _ rfl rfl _ 2 28 [.int .i64 Y.sh, .int .i64 Y.fl, .int .i64 Y.cl, .bool Y.w.a, .bool Y.w.p, .int .i64 Y.w.n, .bool Y.h.a, .bool Y.h.p, .int .i64 Y.h.n, .int .i64 Y.mn, .int .i64 Y.mx, .int .i64 Y.mt, .bool Y.mr.a, .bool Y.mr.p, .int .i64 Y.mr.n, .int .i64 Y.mb, .bool Y.ml.a, .bool Y.ml.p, .int .i64 Y.ml.n, .int .i64 Y.bo, .int .i64 Y.pa, .int .i64 Y.wh, .int .i64 Y.al, .int .i64 Y.lh, .int .i64 Y.ri, .int .i64 Y.dn] _ _ rfl rfl l34 rfl (by kernel_rfl) (by kernel_rfl) (by kernel_rfl) ?_; intro W5 p9 l9 n9; refine stay ?_) | fail)
          have l5 : W5.heap[W.heap.size]? = some (.cells (#[.int .i64 z, .string ByteArray.empty, .int .i64 Y.sh, .int .i64 Y.fl, .int .i64 Y.cl, .bool Y.w.a, .bool Y.w.p, .int .i64 Y.w.n, .bool Y.h.a, .bool Y.h.p, .int .i64 Y.h.n, .int .i64 Y.mn, .int .i64 Y.mx, .int .i64 Y.mt, .bool Y.mr.a, .bool Y.mr.p, .int .i64 Y.mr.n, .int .i64 Y.mb, .bool Y.ml.a, .bool Y.ml.p, .int .i64 Y.ml.n, .int .i64 Y.bo, .int .i64 Y.pa, .int .i64 Y.wh, .int .i64 Y.al, .int .i64 Y.lh, .int .i64 Y.ri, .int .i64 Y.dn]) 36 (0, 0)) := l9.trans (congrArg (fun c => some (Obj.cells c 36 (0, 0))) (show _ = (#[.int .i64 z, .string ByteArray.empty, .int .i64 Y.sh, .int .i64 Y.fl, .int .i64 Y.cl, .bool Y.w.a, .bool Y.w.p, .int .i64 Y.w.n, .bool Y.h.a, .bool Y.h.p, .int .i64 Y.h.n, .int .i64 Y.mn, .int .i64 Y.mx, .int .i64 Y.mt, .bool Y.mr.a, .bool Y.mr.p, .int .i64 Y.mr.n, .int .i64 Y.mb, .bool Y.ml.a, .bool Y.ml.p, .int .i64 Y.ml.n, .int .i64 Y.bo, .int .i64 Y.pa, .int .i64 Y.wh, .int .i64 Y.al, .int .i64 Y.lh, .int .i64 Y.ri, .int .i64 Y.dn] : Array Value) by kernel_rfl))
          have b5 := p9.below b4 (by have := bW.size; omega)
          have ol5 : OwnN W5 w.heap.size (.slice al n cl) ns := nOwn_put ol4 p9 (fun e => absurd (hltO.out _ e) (by omega))
          have oa5 : OwnI W5 w.heap.size (.slice (some ⟨g, 0, none⟩) d ca) (au.take d) := nOwn_put oa4 p9 (nOwn_ne oa4 l34 (by decide))
          have oa5' : W5.ownsRow w.heap.size 3 1 (.slice (some ⟨g, 0, none⟩) d ca) (au.take d).length ((au.take d).map (Value.int .i64)) := oa5
          unfold Stay
          clear l9 p9 n9 l34 ol4 oa4 b4 l4
          have hb5 := b5.size
          have htl : (au.take d).length ≤ 41 := by rw [List.length_take]; omega
          go_wp2_with (first | (at_builtin; refine wpList_append_own _ rfl (.tmp 85) (.tmp 88) 28 rfl w.heap.size 3 i0 (.int .i64 0) 1 8 Tryz.underlying28 hi hz0 hz1 hz2 rfl (by decide) _ _ _ rfl (oa5'.alloc _) ⟨W5.heap.size, 0, none⟩ 1 1 [.int .i64 (n : Int)] rfl rfl (cell_one_new _ _ _) (one_i64 _) (by unfold maxLen; omega) (by omega) (by simp; omega) ?_; intro v7 w7 hown7 hgrow7 _; refine stay ?_) | fail)
          have b7 : Below w.heap.size w w7 := (b5.alloc b5.size _).grown hgrow7 (by simp; omega) (fun j hj => (oa5'.lt j hj).1)
          have oa7 : OwnI w7 w.heap.size v7 (au.take d ++ [(n : Int)]) := OwnI.snoc rfl hown7
          have ol7 : OwnN w7 w.heap.size (.slice al n cl) ns := World.ownsRow.kept (World.ownsRow.alloc ol5 _) hgrow7 (nOwn_ne2 ol5 oa5 (by decide))
          have l7 : w7.heap[W.heap.size]? = some (.cells (#[.int .i64 z, .string ByteArray.empty, .int .i64 Y.sh, .int .i64 Y.fl, .int .i64 Y.cl, .bool Y.w.a, .bool Y.w.p, .int .i64 Y.w.n, .bool Y.h.a, .bool Y.h.p, .int .i64 Y.h.n, .int .i64 Y.mn, .int .i64 Y.mx, .int .i64 Y.mt, .bool Y.mr.a, .bool Y.mr.p, .int .i64 Y.mr.n, .int .i64 Y.mb, .bool Y.ml.a, .bool Y.ml.p, .int .i64 Y.ml.n, .int .i64 Y.bo, .int .i64 Y.pa, .int .i64 Y.wh, .int .i64 Y.al, .int .i64 Y.lh, .int .i64 Y.ri, .int .i64 Y.dn]) 36 (0, 0)) := (hgrow7.block W.heap.size (by have := lies_lt l5; simp; omega) (fun e => nOwn_ne oa5 l5 (by decide) e.symm)).trans (heap_in l5)
          unfold Stay
          clear hown7 hgrow7 oa5' oa5 ol5 l5 b5 hb5
          have cy : (#[.int .i64 z, .string ByteArray.empty, .int .i64 Y.sh, .int .i64 Y.fl, .int .i64 Y.cl, .bool Y.w.a, .bool Y.w.p, .int .i64 Y.w.n, .bool Y.h.a, .bool Y.h.p, .int .i64 Y.h.n, .int .i64 Y.mn, .int .i64 Y.mx, .int .i64 Y.mt, .bool Y.mr.a, .bool Y.mr.p, .int .i64 Y.mr.n, .int .i64 Y.mb, .bool Y.ml.a, .bool Y.ml.p, .int .i64 Y.ml.n, .int .i64 Y.bo, .int .i64 Y.pa, .int .i64 Y.wh, .int .i64 Y.al, .int .i64 Y.lh, .int .i64 Y.ri, .int .i64 Y.dn] : Array Value).toList = ndL ⟨z, ByteArray.empty, Y⟩ := rfl
          have RNy : Hid (w7.rangeAt W.heap.size 0 (#[.int .i64 z, .string ByteArray.empty, .int .i64 Y.sh, .int .i64 Y.fl, .int .i64 Y.cl, .bool Y.w.a, .bool Y.w.p, .int .i64 Y.w.n, .bool Y.h.a, .bool Y.h.p, .int .i64 Y.h.n, .int .i64 Y.mn, .int .i64 Y.mx, .int .i64 Y.mt, .bool Y.mr.a, .bool Y.mr.p, .int .i64 Y.mr.n, .int .i64 Y.mb, .bool Y.ml.a, .bool Y.ml.p, .int .i64 Y.ml.n, .int .i64 Y.bo, .int .i64 Y.pa, .int .i64 Y.wh, .int .i64 Y.al, .int .i64 Y.lh, .int .i64 Y.ri, .int .i64 Y.dn] : Array Value).toList) := fun j v hj => (lies_cell l7 (0 + j)).trans (by rw [← hj, Nat.zero_add]; simp)
          have HGN : Hid (GhT s (k + 1) (ns ++ [⟨z, ByteArray.empty, Y⟩]) (au.take d ++ [(n : Int)]) pt) := by
            show GhT _ _ _ _ _
            have h := ghT_elem HGH.out H0.out (HLD.out) (by rw [← HWL.out]; exact hlt) (by have := HB60.out; omega) (Y := Y) (by rw [HTL.out]; exact HRY.out)
            rw [HUP.out] at h
            rw [HPT.out, show ((n : Nat) : Int) = ((k : Nat) : Int) by omega]
            exact h
          have HTX : Hid (ByteArray.empty.size ≤ 1048576) := by show _ ≤ _; exact Nat.zero_le _
          have HPS : Hid (pt.size < rest.size) := by show pt.size < rest.size; rw [HPT.out]; exact n_part_less H0.out HDOT.out
          have HAL : Hid ((au.take d ++ [(n : Int)]).length ≤ k + 1) := by show _ ≤ _; rw [List.length_append, List.length_take]; simp only [List.length_singleton]; omega
          have HOL : Hid (w7.ownsRow w.heap.size 36 28 (.slice al n cl) n (flatN ns)) := by show w7.ownsRow _ _ _ _ _ _; have h := ol7; unfold OwnN at h; rw [← HN.out] at h; exact h
          have HOA : Hid (OwnI w7 w.heap.size (v7) (au.take d ++ [(n : Int)])) := oa7
          have HBL : Hid (Below w.heap.size w w7) := b7
          have hbs := HBL.out.size
          clear ol7 oa7 b7 l7
          go_wp2_with (first | (with_reducible show wpList _ _ _ (⟨some 98, Op.load 36 _, _, _, _, _⟩ :: _) _ _; refine wpList_load_mid rfl 36 _ rfl W.heap.size 0 rfl (#[.int .i64 z, .string ByteArray.empty, .int .i64 Y.sh, .int .i64 Y.fl, .int .i64 Y.cl, .bool Y.w.a, .bool Y.w.p, .int .i64 Y.w.n, .bool Y.h.a, .bool Y.h.p, .int .i64 Y.h.n, .int .i64 Y.mn, .int .i64 Y.mx, .int .i64 Y.mt, .bool Y.mr.a, .bool Y.mr.p, .int .i64 Y.mr.n, .int .i64 Y.mb, .bool Y.ml.a, .bool Y.ml.p, .int .i64 Y.ml.n, .int .i64 Y.bo, .int .i64 Y.pa, .int .i64 Y.wh, .int .i64 Y.al, .int .i64 Y.lh, .int .i64 Y.ri, .int .i64 Y.dn] : Array Value).toList _ RNy.out Tryz.underlying36 rfl (by kernel_rfl) ?_) | (at_builtin; refine wpList_append_own _ rfl (.tmp 97) (.tmp 99) 22 rfl w.heap.size 36 j0 _ 28 200 Tryz.underlying22 hj hy0 hy1 hy2 rfl (by decide) _ _ _ rfl (HOL.out.alloc _) ⟨w7.heap.size, 0, none⟩ 1 1 (#[.int .i64 z, .string ByteArray.empty, .int .i64 Y.sh, .int .i64 Y.fl, .int .i64 Y.cl, .bool Y.w.a, .bool Y.w.p, .int .i64 Y.w.n, .bool Y.h.a, .bool Y.h.p, .int .i64 Y.h.n, .int .i64 Y.mn, .int .i64 Y.mx, .int .i64 Y.mt, .bool Y.mr.a, .bool Y.mr.p, .int .i64 Y.mr.n, .int .i64 Y.mb, .bool Y.ml.a, .bool Y.ml.p, .int .i64 Y.ml.n, .int .i64 Y.bo, .int .i64 Y.pa, .int .i64 Y.wh, .int .i64 Y.al, .int .i64 Y.lh, .int .i64 Y.ri, .int .i64 Y.dn] : Array Value).toList rfl rfl (World.news_of_block (cs := #[.int .i64 z, .string ByteArray.empty, .int .i64 Y.sh, .int .i64 Y.fl, .int .i64 Y.cl, .bool Y.w.a, .bool Y.w.p, .int .i64 Y.w.n, .bool Y.h.a, .bool Y.h.p, .int .i64 Y.h.n, .int .i64 Y.mn, .int .i64 Y.mx, .int .i64 Y.mt, .bool Y.mr.a, .bool Y.mr.p, .int .i64 Y.mr.n, .int .i64 Y.mb, .bool Y.ml.a, .bool Y.ml.p, .int .i64 Y.ml.n, .int .i64 Y.bo, .int .i64 Y.pa, .int .i64 Y.wh, .int .i64 Y.al, .int .i64 Y.lh, .int .i64 Y.ri, .int .i64 Y.dn]) (heap_at _ _ _ rfl)) (one28 ⟨z, ByteArray.empty, Y⟩) (by unfold maxLen; omega) (by omega) (by simp; omega) ?_) | fail)
          intro v8 w8 hown8 hgrow8 _
          have b8 : Below w.heap.size w w8 := (HBL.out.alloc HBL.out.size _).grown hgrow8 (by simp; omega) (fun j hj => (HOL.out.lt j hj).1)
          have o8 : OwnN w8 w.heap.size v8 (ns ++ [⟨z, ByteArray.empty, Y⟩]) := by unfold OwnN; rw [flatN_snoc, List.length_append, ← HN.out]; exact hown8
          have a8 : OwnI w8 w.heap.size (v7) (au.take d ++ [(n : Int)]) := World.ownsRow.kept (World.ownsRow.alloc HOA.out _) hgrow8 (nOwn_ne2 HOA.out HOL.out (by decide))
          have HR8 : Hid (RdSt s w (k + 1) (ns ++ [⟨z, ByteArray.empty, Y⟩]) (au.take d ++ [(n : Int)]) pt v8 (v7) w8) := ⟨by omega, by rw [List.length_append, ← HN.out]; simp; omega, by omega, HAL.out, o8, a8, HGN.out, fun x hx => by rcases List.mem_append.1 hx with h | h; exact HST.out.tx x h; rw [List.mem_singleton.1 h]; exact HTX.out, b8⟩
          clear hown8 hgrow8 o8 a8 b8 HOL HOA HBL HGN HTX HAL RNy cy
          go_wp2
          go_roundw
          case rel => exact ⟨k + 1, _, _, pt, rfl, HR8.out⟩
          case measure => exact HPS.out
        have hq60 : ((wl[d].toNat : Int) == 60) = false := by simpa using hb60
        by_cases hb124 : (wl[d].toNat : Int) = 124
        · have hq124 : ((wl[d].toNat : Int) == 124) = true := by simp [hb124]
          have HB124 : Hid (((n_wholeOf rest)[d]'(by rw [← HWL.out]; exact hlt)).toNat = 124) := by show _ = _; have e := HWL.out; subst e; omega
          obtain ⟨tx, htx⟩ : ∃ t, t = wl.extract (d + 1) wl.size := ⟨_, rfl⟩
          have ztl : tx.size ≤ 1048576 := by rw [htx, ByteArray.size_extract]; omega
          have HTE : Hid (tx = wl.extract (d + 1) wl.size) := htx
          clear hb60 hb124 htx
          go_wp2_with (first | ((with_reducible show wpList _ _ _ (⟨none, Op.store 9 (Operand.tmp 96) _, _, _, _, _⟩ :: _) _ _); refine wpList_putA rfl _ _ _ rfl rfl _ 1 28 [.string (wl.extract (d + 1) wl.size)] _ _ rfl rfl l2 rfl (by kernel_rfl) (by kernel_rfl) (by kernel_rfl) ?_; intro W5 p9 l9 n9; refine stay ?_) | fail)
          have l5 : W5.heap[W.heap.size]? = some (.cells (#[.int .i64 z, .string (wl.extract (d + 1) wl.size), .int .i64 0, .int .i64 0, .int .i64 0, .bool false, .bool false, .int .i64 0, .bool false, .bool false, .int .i64 0, .int .i64 0, .int .i64 0, .int .i64 0, .bool false, .bool false, .int .i64 0, .int .i64 0, .bool false, .bool false, .int .i64 0, .int .i64 0, .int .i64 0, .int .i64 0, .int .i64 0, .int .i64 0, .int .i64 0, .int .i64 0]) 36 (0, 0)) := l9.trans (congrArg (fun c => some (Obj.cells c 36 (0, 0))) (show _ = (#[.int .i64 z, .string (wl.extract (d + 1) wl.size), .int .i64 0, .int .i64 0, .int .i64 0, .bool false, .bool false, .int .i64 0, .bool false, .bool false, .int .i64 0, .int .i64 0, .int .i64 0, .int .i64 0, .bool false, .bool false, .int .i64 0, .int .i64 0, .bool false, .bool false, .int .i64 0, .int .i64 0, .int .i64 0, .int .i64 0, .int .i64 0, .int .i64 0, .int .i64 0, .int .i64 0] : Array Value) by kernel_rfl))
          have b5 := p9.below b2 (by have := bW.size; omega)
          have ol5 : OwnN W5 w.heap.size (.slice al n cl) ns := nOwn_put OW2 p9 (fun e => absurd (hltO.out _ e) (by omega))
          have oa5 : OwnI W5 w.heap.size (.slice (some ⟨g, 0, none⟩) d ca) (au.take d) := nOwn_put OA2 p9 (nOwn_ne OA2 l2 (by decide))
          unfold Stay
          clear l9 p9 n9
          have cy : (#[.int .i64 z, .string (wl.extract (d + 1) wl.size), .int .i64 0, .int .i64 0, .int .i64 0, .bool false, .bool false, .int .i64 0, .bool false, .bool false, .int .i64 0, .int .i64 0, .int .i64 0, .int .i64 0, .bool false, .bool false, .int .i64 0, .int .i64 0, .bool false, .bool false, .int .i64 0, .int .i64 0, .int .i64 0, .int .i64 0, .int .i64 0, .int .i64 0, .int .i64 0, .int .i64 0] : Array Value).toList = ndL ⟨z, (wl.extract (d + 1) wl.size), z0⟩ := rfl
          have RNy : Hid (W5.rangeAt W.heap.size 0 (#[.int .i64 z, .string (wl.extract (d + 1) wl.size), .int .i64 0, .int .i64 0, .int .i64 0, .bool false, .bool false, .int .i64 0, .bool false, .bool false, .int .i64 0, .int .i64 0, .int .i64 0, .int .i64 0, .bool false, .bool false, .int .i64 0, .int .i64 0, .bool false, .bool false, .int .i64 0, .int .i64 0, .int .i64 0, .int .i64 0, .int .i64 0, .int .i64 0, .int .i64 0, .int .i64 0] : Array Value).toList) := fun j v hj => (lies_cell l5 (0 + j)).trans (by rw [← hj, Nat.zero_add]; simp)
          have HGN : Hid (GhT s (k + 1) (ns ++ [⟨z, (wl.extract (d + 1) wl.size), z0⟩]) (au.take d) pt) := by
            show GhT _ _ _ _ _
            have h := ghT_text HGH.out H0.out (HLD.out) (by rw [← HWL.out]; exact hlt) (by have := HB124.out; omega)
            rw [HUP.out, HTL.out] at h
            rw [HPT.out]
            exact h
          have HTX : Hid ((wl.extract (d + 1) wl.size).size ≤ 1048576) := by show _ ≤ _; rw [← HTE.out]; exact ztl
          have HPS : Hid (pt.size < rest.size) := by show pt.size < rest.size; rw [HPT.out]; exact n_part_less H0.out HDOT.out
          have HAL : Hid ((au.take d).length ≤ k + 1) := by show _ ≤ _; rw [List.length_take]; omega
          have HOL : Hid (W5.ownsRow w.heap.size 36 28 (.slice al n cl) n (flatN ns)) := by show W5.ownsRow _ _ _ _ _ _; have h := ol5; unfold OwnN at h; rw [← HN.out] at h; exact h
          have HOA : Hid (OwnI W5 w.heap.size (.slice (some ⟨g, 0, none⟩) d ca) (au.take d)) := oa5
          have HBL : Hid (Below w.heap.size w W5) := b5
          have hbs := HBL.out.size
          clear ol5 oa5 b5 l5
          go_wp2_with (first | (with_reducible show wpList _ _ _ (⟨some 98, Op.load 36 _, _, _, _, _⟩ :: _) _ _; refine wpList_load_mid rfl 36 _ rfl W.heap.size 0 rfl (#[.int .i64 z, .string (wl.extract (d + 1) wl.size), .int .i64 0, .int .i64 0, .int .i64 0, .bool false, .bool false, .int .i64 0, .bool false, .bool false, .int .i64 0, .int .i64 0, .int .i64 0, .int .i64 0, .bool false, .bool false, .int .i64 0, .int .i64 0, .bool false, .bool false, .int .i64 0, .int .i64 0, .int .i64 0, .int .i64 0, .int .i64 0, .int .i64 0, .int .i64 0, .int .i64 0] : Array Value).toList _ RNy.out Tryz.underlying36 rfl (by kernel_rfl) ?_) | (at_builtin; refine wpList_append_own _ rfl (.tmp 97) (.tmp 99) 22 rfl w.heap.size 36 j0 _ 28 200 Tryz.underlying22 hj hy0 hy1 hy2 rfl (by decide) _ _ _ rfl (HOL.out.alloc _) ⟨W5.heap.size, 0, none⟩ 1 1 (#[.int .i64 z, .string (wl.extract (d + 1) wl.size), .int .i64 0, .int .i64 0, .int .i64 0, .bool false, .bool false, .int .i64 0, .bool false, .bool false, .int .i64 0, .int .i64 0, .int .i64 0, .int .i64 0, .bool false, .bool false, .int .i64 0, .int .i64 0, .bool false, .bool false, .int .i64 0, .int .i64 0, .int .i64 0, .int .i64 0, .int .i64 0, .int .i64 0, .int .i64 0, .int .i64 0] : Array Value).toList rfl rfl (World.news_of_block (cs := #[.int .i64 z, .string (wl.extract (d + 1) wl.size), .int .i64 0, .int .i64 0, .int .i64 0, .bool false, .bool false, .int .i64 0, .bool false, .bool false, .int .i64 0, .int .i64 0, .int .i64 0, .int .i64 0, .bool false, .bool false, .int .i64 0, .int .i64 0, .bool false, .bool false, .int .i64 0, .int .i64 0, .int .i64 0, .int .i64 0, .int .i64 0, .int .i64 0, .int .i64 0, .int .i64 0]) (heap_at _ _ _ rfl)) (one28 ⟨z, (wl.extract (d + 1) wl.size), z0⟩) (by unfold maxLen; omega) (by omega) (by simp; omega) ?_) | fail)
          intro v8 w8 hown8 hgrow8 _
          have b8 : Below w.heap.size w w8 := (HBL.out.alloc HBL.out.size _).grown hgrow8 (by simp; omega) (fun j hj => (HOL.out.lt j hj).1)
          have o8 : OwnN w8 w.heap.size v8 (ns ++ [⟨z, (wl.extract (d + 1) wl.size), z0⟩]) := by unfold OwnN; rw [flatN_snoc, List.length_append, ← HN.out]; exact hown8
          have a8 : OwnI w8 w.heap.size (.slice (some ⟨g, 0, none⟩) d ca) (au.take d) := World.ownsRow.kept (World.ownsRow.alloc HOA.out _) hgrow8 (nOwn_ne2 HOA.out HOL.out (by decide))
          have HR8 : Hid (RdSt s w (k + 1) (ns ++ [⟨z, (wl.extract (d + 1) wl.size), z0⟩]) (au.take d) pt v8 (.slice (some ⟨g, 0, none⟩) d ca) w8) := ⟨by omega, by rw [List.length_append, ← HN.out]; simp; omega, by omega, HAL.out, o8, a8, HGN.out, fun x hx => by rcases List.mem_append.1 hx with h | h; exact HST.out.tx x h; rw [List.mem_singleton.1 h]; exact HTX.out, b8⟩
          clear hown8 hgrow8 o8 a8 b8 HOL HOA HBL HGN HTX HAL RNy cy
          go_wp2
          go_roundw
          case rel => exact ⟨k + 1, _, _, pt, rfl, HR8.out⟩
          case measure => exact HPS.out
        have hq124 : ((wl[d].toNat : Int) == 124) = false := by simpa using hb124
        have HNo : Hid (¬ ∃ X, RelT s X) := ghT_none HGH.out H0.out (HLD.out) (.inr (.inr (.inr (.inr (.inl fun h => by have e := HWL.out; subst e; exact ⟨hb60, hb124⟩)))))
        clear hb60 hb124
        go_wp2
        go_ret2
        exact readEnd_no HNo.out b2
end Go.Proofs.YtddnphgpdnedbaaGreatDoor
