/-
  The program's take of a node: nodes that are gone.
  The program's take of a node: texts.
  The program's take of a node: elements that stand in the lines.
  The program's take of a node: elements that make a box.
  The program's take of a node: the first one.
  The program's BoxesOf, for every row of nodes.
-/
import Derived.Test.YtbphninknpfcmaaDoorMgBa
import Derived.Deep.RegionLaw
import Derived.Test.YtbphninknpfcmaaDoorMgNd
namespace Go.Proofs.YtbphninknpfcmaaDoor
open Go.ChangeShapes Go.WideShapes Go.ChangeAt Go.RowKit
set_option linter.unusedVariables false

theorem range_drewN {W : World} {g o k : Nat} {cs : List Value} (h : W.rangeAt g o cs) : (W.drewN k).rangeAt g o cs := fun j v hj => h j v hj
theorem bgInfo3 : ∃ i0, Tryd.prog.info? 3 = some i0 ∧ i0.zero = some (.int .i64 0) ∧ i0.size = 1 ∧ i0.bytes = 8 := info_parts (by kernel_rfl)
theorem getI {ns : List Nd} {k : Nat} {x : Nd} (h : ns[k]? = some x) : upL ns k = x.up ∧ isT ns k = zeroS x.st ∧ ns.getD k nd0 = x := by
  have e := getD_of h
  exact ⟨by unfold upL; rw [e], by unfold isT; rw [e], e⟩
theorem snocI {w : World} {B n : Nat} {v : Value} {zs : List Int} {z : Int} (hn : n = zs.length) (h : w.ownsRow B 3 1 v (n + 1) (zs.map (Value.int .i64) ++ [.int .i64 z])) : w.ownsRow B 3 1 v (zs ++ [z]).length ((zs ++ [z]).map (Value.int .i64)) := by
  subst hn
  rw [List.length_append, List.map_append]
  exact h
set_option maxRecDepth 100000 in
set_option maxHeartbeats 8000000 in
theorem take_gone1 (B p i b off n cap : Nat) (ns : List Nd) (S : Ps) (vb vi vt : Value) (w : World) (hbg : Bg w B p (.slice (some ⟨b, off, none⟩) n cap) S vb vi vt) (hok : PsOk ns i S) (hns : NsOk ns) (hi : i < n) (hnd : NdAt w B b off n ns) (hwh : WhOk ns) (hS : S.ok = true) (h0 : 0 < i) (ha : arP ns S i = -1) :
    Calls Tryd.prog 36 #[.pointer (some ⟨p, 0, none⟩), .int .i64 (i : Int)] w fun e w' => e = .returned (.bool (takeP ns S i).ok) ∧ (∃ vb' vi' vt', Bg w' B p (.slice (some ⟨b, off, none⟩) n cap) (takeP ns S i) vb' vi' vt') ∧ Below B w w' := by
  obtain ⟨i0, hinf, hz0, hz1, hz2⟩ := bgInfo3
  have hin : i < ns.length := by rw [← hnd.len]; exact hi
  obtain ⟨y, hy⟩ : ∃ y, ns[i]? = some y := ⟨_, List.getElem?_eq_getElem hin⟩
  obtain ⟨gU, gT, gD⟩ := getI hy
  have HT : Hid (takeP ns S i = { S with inn := S.inn ++ [-1] }) := by
    show _ = _
    unfold takeP
    rw [if_pos (by unfold goneP; rw [decide_eq_true_eq]; exact Or.inl ⟨h0, ha⟩)]
  rw [HT.out]
  show Calls _ _ _ _ fun e w' => e = .returned (.bool S.ok) ∧ _
  rw [hS]
  clear HT
  have hr := hnd.rows i y hy
  have hn40 := hnd.le
  have lp := lies_lt hbg.lies
  have hBs : B ≤ w.heap.size := Nat.le_trans hbg.hp (Nat.le_of_lt lp)
  have c0 : w.cell? ⟨p, 0, none⟩ = some (.slice (some ⟨b, off, none⟩) n cap) := (lies_cell hbg.lies 0).trans rfl
  have BK := fun W => boxKind_any y.st W
  have TX := fun W => implIsText_any y W
  obtain ⟨u, hu, eu, _⟩ := (hns.stands i hin).ups h0
  have hyu : y.up = (u : Int) := by rw [← gU]; exact eu
  have hin' : S.inn.length = i := hok.len
  obtain ⟨gi, ci, hvi⟩ := own_some hbg.oi (by omega)
  rw [hin'] at hvi
  subst hvi
  have hoi := hbg.oi
  rw [hin'] at hoi
  have HAR : Hid (arP ns S i = S.inn.getD u 0) := by show _ = _; unfold arP; rw [gU, hyu, if_pos (by omega)]; rfl
  obtain ⟨ar, har0⟩ : ∃ ar, ar = S.inn.getD u 0 := ⟨_, rfl⟩
  have HA2 : Hid (arP ns S i = ar) := HAR.out.trans har0.symm
  rw [HA2.out] at ha
  have qi : w.cell? ⟨gi, u, none⟩ = some (.int .i64 ar) := by
    have h := (hoi.cellAt u (by omega))
    rw [h, List.getElem?_map, har0, List.getD_eq_getElem?_getD, List.getElem?_eq_getElem (by omega)]
    rfl
  have lgi : gi < w.heap.size := (hbg.oi.lt gi rfl).2
  clear har0 hoi eu HAR
  have c2w : w.cell? ⟨p, 2, none⟩ = some (.slice (some ⟨gi, 0, none⟩) i ci) := (lies_cell hbg.lies 2).trans rfl
  have hui : (u : Int) < (i : Int) := by omega
  have HG : Hid (Bg w B p (.slice (some ⟨b, off, none⟩) n cap) S vb (.slice (some ⟨gi, 0, none⟩) i ci) vt) := hbg
  clear hbg
  go_enter Tryd.func36, Tryd.ntmps36
  go_wp2_with (first
    | (with_reducible show wpList _ _ _ (⟨some 15, Op.load 65 _, _, _, _, _⟩ :: _) _ _; refine wpList_load_mid rfl 65 _ rfl b (off + i * 28) rfl (ndL y) _ hr Tryd.underlying65 rfl (by kernel_rfl) ?_)
    | (with_reducible show wpList _ _ _ (⟨none, Op.store 65 _ _, _, _, _, _⟩ :: _) _ _; refine wpList_store_box rfl 65 _ _ rfl rfl (#[.int .i64 y.up, .string y.tx, .int .i64 y.st.sh, .int .i64 y.st.fl, .int .i64 y.st.cl, .bool y.st.w.a, .bool y.st.w.p, .int .i64 y.st.w.n, .bool y.st.h.a, .bool y.st.h.p, .int .i64 y.st.h.n, .int .i64 y.st.mn, .int .i64 y.st.mx, .int .i64 y.st.mt, .bool y.st.mr.a, .bool y.st.mr.p, .int .i64 y.st.mr.n, .int .i64 y.st.mb, .bool y.st.ml.a, .bool y.st.ml.p, .int .i64 y.st.ml.n, .int .i64 y.st.bo, .int .i64 y.st.pa, .int .i64 y.st.wh, .int .i64 y.st.al, .int .i64 y.st.lh, .int .i64 y.st.ri, .int .i64 y.st.dn]) rfl rfl (by kernel_rfl) rfl (by kernel_rfl) ?_; intro W bel l0 hsz; refine stay ?_)
    | fail)
  unfold Stay
  have cu : W.cell? ⟨w.heap.size, 0, none⟩ = some (.int .i64 ((u : Int))) := (lies_cell l0 0).trans (by rw [hyu]; rfl)
  have RS : Hid (W.rangeAt w.heap.size 2 (stCells y.st).toList) := fun j v hj => (lies_cell l0 (2 + j)).trans (by rw [← hj, show (stCells y.st).toList = (#[.int .i64 y.up, .string y.tx, .int .i64 y.st.sh, .int .i64 y.st.fl, .int .i64 y.st.cl, .bool y.st.w.a, .bool y.st.w.p, .int .i64 y.st.w.n, .bool y.st.h.a, .bool y.st.h.p, .int .i64 y.st.h.n, .int .i64 y.st.mn, .int .i64 y.st.mx, .int .i64 y.st.mt, .bool y.st.mr.a, .bool y.st.mr.p, .int .i64 y.st.mr.n, .int .i64 y.st.mb, .bool y.st.ml.a, .bool y.st.ml.p, .int .i64 y.st.ml.n, .int .i64 y.st.bo, .int .i64 y.st.pa, .int .i64 y.st.wh, .int .i64 y.st.al, .int .i64 y.st.lh, .int .i64 y.st.ri, .int .i64 y.st.dn] : Array Value).toList.drop 2 from rfl, List.getElem?_drop]; simp)
  have cp2 : W.cell? ⟨p, 2, none⟩ = some (.slice (some ⟨gi, 0, none⟩) i ci) := (bel.cell (p := ⟨p, 2, none⟩) lp).trans c2w
  have cgi : W.cell? ⟨gi, u, none⟩ = some (.int .i64 ar) := (bel.cell (p := ⟨gi, u, none⟩) lgi).trans qi
  have HL0 : Hid (W.heap[w.heap.size]? = some (.cells (#[.int .i64 y.up, .string y.tx, .int .i64 y.st.sh, .int .i64 y.st.fl, .int .i64 y.st.cl, .bool y.st.w.a, .bool y.st.w.p, .int .i64 y.st.w.n, .bool y.st.h.a, .bool y.st.h.p, .int .i64 y.st.h.n, .int .i64 y.st.mn, .int .i64 y.st.mx, .int .i64 y.st.mt, .bool y.st.mr.a, .bool y.st.mr.p, .int .i64 y.st.mr.n, .int .i64 y.st.mb, .bool y.st.ml.a, .bool y.st.ml.p, .int .i64 y.st.ml.n, .int .i64 y.st.bo, .int .i64 y.st.pa, .int .i64 y.st.wh, .int .i64 y.st.al, .int .i64 y.st.lh, .int .i64 y.st.ri, .int .i64 y.st.dn]) 65 (0, 0))) := l0
  clear l0 qi c2w hr c0
  go_wp2_with fail
  go_quiet (fail)
  go_wp2_with (first
    | (with_reducible show wpList _ _ _ (⟨some 28, Op.load 49 _, _, _, _, _⟩ :: _) _ _; refine wpList_load_mid rfl 49 _ rfl w.heap.size 2 rfl (stCells y.st).toList _ (range_drewN RS.out) Tryd.underlying49 rfl (by kernel_rfl) ?_)
    | fail)
  refine (BK _).mono ?_
  rintro e w2 ⟨rfl, hb⟩
  have hbW : Below W.heap.size W w2 := ⟨hb.os, hb.tape, hb.output, hb.size, hb.block⟩
  have b2 : Below w.heap.size w w2 := bel.trans (hbW.mono bel.size)
  have G2 := HG.out.keep b2
  have l2 : Hid (w2.heap[w.heap.size]? = some (.cells (#[.int .i64 y.up, .string y.tx, .int .i64 y.st.sh, .int .i64 y.st.fl, .int .i64 y.st.cl, .bool y.st.w.a, .bool y.st.w.p, .int .i64 y.st.w.n, .bool y.st.h.a, .bool y.st.h.p, .int .i64 y.st.h.n, .int .i64 y.st.mn, .int .i64 y.st.mx, .int .i64 y.st.mt, .bool y.st.mr.a, .bool y.st.mr.p, .int .i64 y.st.mr.n, .int .i64 y.st.mb, .bool y.st.ml.a, .bool y.st.ml.p, .int .i64 y.st.ml.n, .int .i64 y.st.bo, .int .i64 y.st.pa, .int .i64 y.st.wh, .int .i64 y.st.al, .int .i64 y.st.lh, .int .i64 y.st.ri, .int .i64 y.st.dn]) 65 (0, 0))) := below_lies hbW HL0.out (by omega)
  have B2 : Below B w w2 := b2.mono hBs
  have s0 : w2.cell? ⟨w.heap.size, 2, none⟩ = some (.int .i64 y.st.sh) := (lies_cell l2.out 2).trans rfl
  have s1 : w2.cell? ⟨w.heap.size, 1, none⟩ = some (.string y.tx) := (lies_cell l2.out 1).trans rfl
  have c2 : w2.cell? ⟨p, 2, none⟩ = some (.slice (some ⟨gi, 0, none⟩) i ci) := (lies_cell G2.lies 2).trans rfl
  have f2 : w2.frozen? ⟨p, 2, none⟩ = false := Lib.frozen_of_heap G2.lies 2
  have lw : w.heap.size < w2.heap.size := lies_lt l2.out
  clear hb hbW HL0 RS cu cp2 cgi bel HG BK b2
  have hi0 : (0 : Int) < (i : Int) := by omega
  subst ha
  have HG2 : Hid (Bg w2 B p (.slice (some ⟨b, off, none⟩) n cap) S vb (.slice (some ⟨gi, 0, none⟩) i ci) vt) := G2
  have o2 : w2.ownsRow B 3 1 (.slice (some ⟨gi, 0, none⟩) i ci) i (S.inn.map (Value.int .i64)) := by have h := HG2.out.oi; rw [hin'] at h; exact h
  have hBw : B ≤ w2.heap.size := Nat.le_trans hBs B2.size
  have HB2 : Hid (Below B w w2) := B2
  clear G2 B2
  go_wp2_with (at_builtin; refine wpList_append_own_at _ rfl (.tmp 47) (.tmp 48) 68 rfl B 3 i0 (.int .i64 0) 1 8 Tryd.underlying68 hinf hz0 hz1 hz2 rfl (by decide) _ _ _ rfl (o2.alloc _) ⟨w2.heap.size, 0, none⟩ 1 1 [.int .i64 (-1)] rfl rfl (cell_one_new _ _ _) (one_i64 _) (by unfold maxLen; omega) (by omega) (by simp; omega) ?_)
  intro v' w3 hown3 hgrow3 _ _
  obtain ⟨a3, k3, rfl⟩ := own_form hown3
  have GA := HG2.out.keep ((Below.refl _ _).alloc (Nat.le_refl _) (.cells #[.int .i64 (-1)] 3))
  have l3 : w3.heap[p]? = _ := (hgrow3.block p (lies_lt GA.lies) (fun e => own_ne GA.oi GA.lies (by decide) e.symm)).trans GA.lies
  have d2 : w3.cell? ⟨p, 2, none⟩ = some (.slice (some ⟨gi, 0, none⟩) i ci) := (lies_cell l3 2).trans rfl
  have g2 : w3.frozen? ⟨p, 2, none⟩ = false := Lib.frozen_of_heap l3 2
  have R := GA.putI (l := S.inn ++ [-1]) hgrow3 (snocI hin'.symm hown3)
  have RB := ((HB2.out.alloc hBw _).grown hgrow3 (by simp; omega) (fun k hk => (GA.oi.lt k hk).1)).setCell (p := ⟨p, 2, none⟩) GA.hp (.slice a3 (i + 1) k3)
  have HR : Hid (_ ∧ _) := And.intro R RB
  clear R RB GA l3 hown3 hgrow3 o2 HG2 HB2
  go_wp2
  go_ret
  refine ⟨rfl, ?_, HR.out.2⟩
  have h := HR.out.1
  rw [hS] at h
  exact ⟨_, _, _, h⟩
set_option maxRecDepth 100000 in
set_option maxHeartbeats 8000000 in
theorem take_gone2 (B p i b off n cap : Nat) (ns : List Nd) (S : Ps) (vb vi vt : Value) (w : World) (hbg : Bg w B p (.slice (some ⟨b, off, none⟩) n cap) S vb vi vt) (hok : PsOk ns i S) (hns : NsOk ns) (hi : i < n) (hnd : NdAt w B b off n ns) (hwh : WhOk ns) (hS : S.ok = true) (h0 : 0 < i) (ha : ¬ arP ns S i = -1) (h3 : (ns.getD i nd0).st.sh = 3) :
    Calls Tryd.prog 36 #[.pointer (some ⟨p, 0, none⟩), .int .i64 (i : Int)] w fun e w' => e = .returned (.bool (takeP ns S i).ok) ∧ (∃ vb' vi' vt', Bg w' B p (.slice (some ⟨b, off, none⟩) n cap) (takeP ns S i) vb' vi' vt') ∧ Below B w w' := by
  obtain ⟨i0, hinf, hz0, hz1, hz2⟩ := bgInfo3
  have hin : i < ns.length := by rw [← hnd.len]; exact hi
  obtain ⟨y, hy⟩ : ∃ y, ns[i]? = some y := ⟨_, List.getElem?_eq_getElem hin⟩
  obtain ⟨gU, gT, gD⟩ := getI hy
  have HT : Hid (takeP ns S i = { S with inn := S.inn ++ [-1] }) := by
    show _ = _
    unfold takeP
    rw [if_pos (by unfold goneP; rw [decide_eq_true_eq]; exact Or.inr h3)]
  rw [HT.out]
  show Calls _ _ _ _ fun e w' => e = .returned (.bool S.ok) ∧ _
  rw [hS]
  clear HT
  rw [gD] at h3
  have hr := hnd.rows i y hy
  have hn40 := hnd.le
  have lp := lies_lt hbg.lies
  have hBs : B ≤ w.heap.size := Nat.le_trans hbg.hp (Nat.le_of_lt lp)
  have c0 : w.cell? ⟨p, 0, none⟩ = some (.slice (some ⟨b, off, none⟩) n cap) := (lies_cell hbg.lies 0).trans rfl
  have BK := fun W => boxKind_any y.st W
  have TX := fun W => implIsText_any y W
  obtain ⟨u, hu, eu, _⟩ := (hns.stands i hin).ups h0
  have hyu : y.up = (u : Int) := by rw [← gU]; exact eu
  have hin' : S.inn.length = i := hok.len
  obtain ⟨gi, ci, hvi⟩ := own_some hbg.oi (by omega)
  rw [hin'] at hvi
  subst hvi
  have hoi := hbg.oi
  rw [hin'] at hoi
  have HAR : Hid (arP ns S i = S.inn.getD u 0) := by show _ = _; unfold arP; rw [gU, hyu, if_pos (by omega)]; rfl
  obtain ⟨ar, har0⟩ : ∃ ar, ar = S.inn.getD u 0 := ⟨_, rfl⟩
  have HA2 : Hid (arP ns S i = ar) := HAR.out.trans har0.symm
  rw [HA2.out] at ha
  have qi : w.cell? ⟨gi, u, none⟩ = some (.int .i64 ar) := by
    have h := (hoi.cellAt u (by omega))
    rw [h, List.getElem?_map, har0, List.getD_eq_getElem?_getD, List.getElem?_eq_getElem (by omega)]
    rfl
  have lgi : gi < w.heap.size := (hbg.oi.lt gi rfl).2
  clear har0 hoi eu HAR
  have c2w : w.cell? ⟨p, 2, none⟩ = some (.slice (some ⟨gi, 0, none⟩) i ci) := (lies_cell hbg.lies 2).trans rfl
  have hui : (u : Int) < (i : Int) := by omega
  have HG : Hid (Bg w B p (.slice (some ⟨b, off, none⟩) n cap) S vb (.slice (some ⟨gi, 0, none⟩) i ci) vt) := hbg
  clear hbg
  go_enter Tryd.func36, Tryd.ntmps36
  go_wp2_with (first
    | (with_reducible show wpList _ _ _ (⟨some 15, Op.load 65 _, _, _, _, _⟩ :: _) _ _; refine wpList_load_mid rfl 65 _ rfl b (off + i * 28) rfl (ndL y) _ hr Tryd.underlying65 rfl (by kernel_rfl) ?_)
    | (with_reducible show wpList _ _ _ (⟨none, Op.store 65 _ _, _, _, _, _⟩ :: _) _ _; refine wpList_store_box rfl 65 _ _ rfl rfl (#[.int .i64 y.up, .string y.tx, .int .i64 y.st.sh, .int .i64 y.st.fl, .int .i64 y.st.cl, .bool y.st.w.a, .bool y.st.w.p, .int .i64 y.st.w.n, .bool y.st.h.a, .bool y.st.h.p, .int .i64 y.st.h.n, .int .i64 y.st.mn, .int .i64 y.st.mx, .int .i64 y.st.mt, .bool y.st.mr.a, .bool y.st.mr.p, .int .i64 y.st.mr.n, .int .i64 y.st.mb, .bool y.st.ml.a, .bool y.st.ml.p, .int .i64 y.st.ml.n, .int .i64 y.st.bo, .int .i64 y.st.pa, .int .i64 y.st.wh, .int .i64 y.st.al, .int .i64 y.st.lh, .int .i64 y.st.ri, .int .i64 y.st.dn]) rfl rfl (by kernel_rfl) rfl (by kernel_rfl) ?_; intro W bel l0 hsz; refine stay ?_)
    | fail)
  unfold Stay
  have cu : W.cell? ⟨w.heap.size, 0, none⟩ = some (.int .i64 ((u : Int))) := (lies_cell l0 0).trans (by rw [hyu]; rfl)
  have RS : Hid (W.rangeAt w.heap.size 2 (stCells y.st).toList) := fun j v hj => (lies_cell l0 (2 + j)).trans (by rw [← hj, show (stCells y.st).toList = (#[.int .i64 y.up, .string y.tx, .int .i64 y.st.sh, .int .i64 y.st.fl, .int .i64 y.st.cl, .bool y.st.w.a, .bool y.st.w.p, .int .i64 y.st.w.n, .bool y.st.h.a, .bool y.st.h.p, .int .i64 y.st.h.n, .int .i64 y.st.mn, .int .i64 y.st.mx, .int .i64 y.st.mt, .bool y.st.mr.a, .bool y.st.mr.p, .int .i64 y.st.mr.n, .int .i64 y.st.mb, .bool y.st.ml.a, .bool y.st.ml.p, .int .i64 y.st.ml.n, .int .i64 y.st.bo, .int .i64 y.st.pa, .int .i64 y.st.wh, .int .i64 y.st.al, .int .i64 y.st.lh, .int .i64 y.st.ri, .int .i64 y.st.dn] : Array Value).toList.drop 2 from rfl, List.getElem?_drop]; simp)
  have cp2 : W.cell? ⟨p, 2, none⟩ = some (.slice (some ⟨gi, 0, none⟩) i ci) := (bel.cell (p := ⟨p, 2, none⟩) lp).trans c2w
  have cgi : W.cell? ⟨gi, u, none⟩ = some (.int .i64 ar) := (bel.cell (p := ⟨gi, u, none⟩) lgi).trans qi
  have HL0 : Hid (W.heap[w.heap.size]? = some (.cells (#[.int .i64 y.up, .string y.tx, .int .i64 y.st.sh, .int .i64 y.st.fl, .int .i64 y.st.cl, .bool y.st.w.a, .bool y.st.w.p, .int .i64 y.st.w.n, .bool y.st.h.a, .bool y.st.h.p, .int .i64 y.st.h.n, .int .i64 y.st.mn, .int .i64 y.st.mx, .int .i64 y.st.mt, .bool y.st.mr.a, .bool y.st.mr.p, .int .i64 y.st.mr.n, .int .i64 y.st.mb, .bool y.st.ml.a, .bool y.st.ml.p, .int .i64 y.st.ml.n, .int .i64 y.st.bo, .int .i64 y.st.pa, .int .i64 y.st.wh, .int .i64 y.st.al, .int .i64 y.st.lh, .int .i64 y.st.ri, .int .i64 y.st.dn]) 65 (0, 0))) := l0
  clear l0 qi c2w hr c0
  go_wp2_with fail
  go_quiet (fail)
  go_wp2_with (first
    | (with_reducible show wpList _ _ _ (⟨some 28, Op.load 49 _, _, _, _, _⟩ :: _) _ _; refine wpList_load_mid rfl 49 _ rfl w.heap.size 2 rfl (stCells y.st).toList _ (range_drewN RS.out) Tryd.underlying49 rfl (by kernel_rfl) ?_)
    | fail)
  refine (BK _).mono ?_
  rintro e w2 ⟨rfl, hb⟩
  have hbW : Below W.heap.size W w2 := ⟨hb.os, hb.tape, hb.output, hb.size, hb.block⟩
  have b2 : Below w.heap.size w w2 := bel.trans (hbW.mono bel.size)
  have G2 := HG.out.keep b2
  have l2 : Hid (w2.heap[w.heap.size]? = some (.cells (#[.int .i64 y.up, .string y.tx, .int .i64 y.st.sh, .int .i64 y.st.fl, .int .i64 y.st.cl, .bool y.st.w.a, .bool y.st.w.p, .int .i64 y.st.w.n, .bool y.st.h.a, .bool y.st.h.p, .int .i64 y.st.h.n, .int .i64 y.st.mn, .int .i64 y.st.mx, .int .i64 y.st.mt, .bool y.st.mr.a, .bool y.st.mr.p, .int .i64 y.st.mr.n, .int .i64 y.st.mb, .bool y.st.ml.a, .bool y.st.ml.p, .int .i64 y.st.ml.n, .int .i64 y.st.bo, .int .i64 y.st.pa, .int .i64 y.st.wh, .int .i64 y.st.al, .int .i64 y.st.lh, .int .i64 y.st.ri, .int .i64 y.st.dn]) 65 (0, 0))) := below_lies hbW HL0.out (by omega)
  have B2 : Below B w w2 := b2.mono hBs
  have s0 : w2.cell? ⟨w.heap.size, 2, none⟩ = some (.int .i64 y.st.sh) := (lies_cell l2.out 2).trans rfl
  have s1 : w2.cell? ⟨w.heap.size, 1, none⟩ = some (.string y.tx) := (lies_cell l2.out 1).trans rfl
  have c2 : w2.cell? ⟨p, 2, none⟩ = some (.slice (some ⟨gi, 0, none⟩) i ci) := (lies_cell G2.lies 2).trans rfl
  have f2 : w2.frozen? ⟨p, 2, none⟩ = false := Lib.frozen_of_heap G2.lies 2
  have lw : w.heap.size < w2.heap.size := lies_lt l2.out
  clear hb hbW HL0 RS cu cp2 cgi bel HG BK b2
  have hi0 : (0 : Int) < (i : Int) := by omega
  rw [h3] at s0
  have HG2 : Hid (Bg w2 B p (.slice (some ⟨b, off, none⟩) n cap) S vb (.slice (some ⟨gi, 0, none⟩) i ci) vt) := G2
  have o2 : w2.ownsRow B 3 1 (.slice (some ⟨gi, 0, none⟩) i ci) i (S.inn.map (Value.int .i64)) := by have h := HG2.out.oi; rw [hin'] at h; exact h
  have hBw : B ≤ w2.heap.size := Nat.le_trans hBs B2.size
  have HB2 : Hid (Below B w w2) := B2
  clear G2 B2
  go_wp2_with (at_builtin; refine wpList_append_own_at _ rfl (.tmp 47) (.tmp 48) 68 rfl B 3 i0 (.int .i64 0) 1 8 Tryd.underlying68 hinf hz0 hz1 hz2 rfl (by decide) _ _ _ rfl (o2.alloc _) ⟨w2.heap.size, 0, none⟩ 1 1 [.int .i64 (-1)] rfl rfl (cell_one_new _ _ _) (one_i64 _) (by unfold maxLen; omega) (by omega) (by simp; omega) ?_)
  intro v' w3 hown3 hgrow3 _ _
  obtain ⟨a3, k3, rfl⟩ := own_form hown3
  have GA := HG2.out.keep ((Below.refl _ _).alloc (Nat.le_refl _) (.cells #[.int .i64 (-1)] 3))
  have l3 : w3.heap[p]? = _ := (hgrow3.block p (lies_lt GA.lies) (fun e => own_ne GA.oi GA.lies (by decide) e.symm)).trans GA.lies
  have d2 : w3.cell? ⟨p, 2, none⟩ = some (.slice (some ⟨gi, 0, none⟩) i ci) := (lies_cell l3 2).trans rfl
  have g2 : w3.frozen? ⟨p, 2, none⟩ = false := Lib.frozen_of_heap l3 2
  have R := GA.putI (l := S.inn ++ [-1]) hgrow3 (snocI hin'.symm hown3)
  have RB := ((HB2.out.alloc hBw _).grown hgrow3 (by simp; omega) (fun k hk => (GA.oi.lt k hk).1)).setCell (p := ⟨p, 2, none⟩) GA.hp (.slice a3 (i + 1) k3)
  have HR : Hid (_ ∧ _) := And.intro R RB
  clear R RB GA l3 hown3 hgrow3 o2 HG2 HB2
  go_wp2
  go_ret
  refine ⟨rfl, ?_, HR.out.2⟩
  have h := HR.out.1
  rw [hS] at h
  exact ⟨_, _, _, h⟩
end Go.Proofs.YtbphninknpfcmaaDoor

namespace Go.Proofs.YtbphninknpfcmaaDoor
open Go.ChangeShapes Go.WideShapes Go.ChangeAt Go.RowKit
set_option linter.unusedVariables false

theorem Bg.okp {w : World} {B p : Nat} {ls : Value} {S : Ps} {vb vi vt : Value} (h : Bg w B p ls S vb vi vt) (o : Bool) : Bg w B p ls { S with ok := o } vb vi vt := ⟨h.hp, h.lies, h.ob, h.oi, h.ot⟩
set_option maxRecDepth 100000 in
set_option maxHeartbeats 8000000 in
theorem take_text1 (B p i b off n cap : Nat) (ns : List Nd) (S : Ps) (vb vi vt : Value) (w : World) (hbg : Bg w B p (.slice (some ⟨b, off, none⟩) n cap) S vb vi vt) (hok : PsOk ns i S) (hns : NsOk ns) (hi : i < n) (hnd : NdAt w B b off n ns) (hwh : WhOk ns) (hS : S.ok = true) (h0 : 0 < i) (ha : ¬ arP ns S i = -1) (h3 : ¬ (ns.getD i nd0).st.sh = 3) (ht : isT ns i = true) (hq : arP ns S i = S.ti) :
    Calls Tryd.prog 36 #[.pointer (some ⟨p, 0, none⟩), .int .i64 (i : Int)] w fun e w' => e = .returned (.bool (takeP ns S i).ok) ∧ (∃ vb' vi' vt', Bg w' B p (.slice (some ⟨b, off, none⟩) n cap) (takeP ns S i) vb' vi' vt') ∧ Below B w w' := by
  obtain ⟨i0, hinf, hz0, hz1, hz2⟩ := bgInfo3
  have hin : i < ns.length := by rw [← hnd.len]; exact hi
  obtain ⟨y, hy⟩ : ∃ y, ns[i]? = some y := ⟨_, List.getElem?_eq_getElem hin⟩
  obtain ⟨gU, gT, gD⟩ := getI hy
  have hTt : zeroS y.st = true := by rw [← gT]; exact ht
  obtain ⟨tOk, tNe⟩ := hns.texts i hin ht
  rw [gD] at tOk tNe h3
  have tLe := (okB_yes tOk).1
  have TXL : Hid (y.tx.size ≤ 200) := tLe
  have HT : Hid (takeP ns S i = { S with inn := S.inn ++ [-1], tx := S.tx ++ y.tx }) := by
    show _ = _
    unfold takeP
    rw [gD]
    rw [if_neg (by unfold goneP; rw [decide_eq_true_eq, gD]; rintro (h | h); exact ha h.2; exact h3 h), if_pos ht, if_pos hq]
  rw [HT.out]
  show Calls _ _ _ _ fun e w' => e = .returned (.bool S.ok) ∧ _
  rw [hS]
  clear HT
  have hr := hnd.rows i y hy
  have hn40 := hnd.le
  have lp := lies_lt hbg.lies
  have hBs : B ≤ w.heap.size := Nat.le_trans hbg.hp (Nat.le_of_lt lp)
  have c0 : w.cell? ⟨p, 0, none⟩ = some (.slice (some ⟨b, off, none⟩) n cap) := (lies_cell hbg.lies 0).trans rfl
  have BK := fun W => boxKind_any y.st W
  have TX := fun W => implIsText_any y W
  rw [hTt] at TX
  obtain ⟨u, hu, eu, _⟩ := (hns.stands i hin).ups h0
  have hyu : y.up = (u : Int) := by rw [← gU]; exact eu
  have hin' : S.inn.length = i := hok.len
  obtain ⟨gi, ci, hvi⟩ := own_some hbg.oi (by omega)
  rw [hin'] at hvi
  subst hvi
  have hoi := hbg.oi
  rw [hin'] at hoi
  have HAR : Hid (arP ns S i = S.inn.getD u 0) := by show _ = _; unfold arP; rw [gU, hyu, if_pos (by omega)]; rfl
  obtain ⟨ar, har0⟩ : ∃ ar, ar = S.inn.getD u 0 := ⟨_, rfl⟩
  have HA2 : Hid (arP ns S i = ar) := HAR.out.trans har0.symm
  rw [HA2.out] at ha hq
  have qi : w.cell? ⟨gi, u, none⟩ = some (.int .i64 ar) := by
    have h := (hoi.cellAt u (by omega))
    rw [h, List.getElem?_map, har0, List.getD_eq_getElem?_getD, List.getElem?_eq_getElem (by omega)]
    rfl
  have lgi : gi < w.heap.size := (hbg.oi.lt gi rfl).2
  clear har0 hoi eu HAR
  have c2w : w.cell? ⟨p, 2, none⟩ = some (.slice (some ⟨gi, 0, none⟩) i ci) := (lies_cell hbg.lies 2).trans rfl
  have hui : (u : Int) < (i : Int) := by omega
  have HG : Hid (Bg w B p (.slice (some ⟨b, off, none⟩) n cap) S vb (.slice (some ⟨gi, 0, none⟩) i ci) vt) := hbg
  clear hbg
  go_enter Tryd.func36, Tryd.ntmps36
  go_wp2_with (first
    | (with_reducible show wpList _ _ _ (⟨some 15, Op.load 65 _, _, _, _, _⟩ :: _) _ _; refine wpList_load_mid rfl 65 _ rfl b (off + i * 28) rfl (ndL y) _ hr Tryd.underlying65 rfl (by kernel_rfl) ?_)
    | (with_reducible show wpList _ _ _ (⟨none, Op.store 65 _ _, _, _, _, _⟩ :: _) _ _; refine wpList_store_box rfl 65 _ _ rfl rfl (#[.int .i64 y.up, .string y.tx, .int .i64 y.st.sh, .int .i64 y.st.fl, .int .i64 y.st.cl, .bool y.st.w.a, .bool y.st.w.p, .int .i64 y.st.w.n, .bool y.st.h.a, .bool y.st.h.p, .int .i64 y.st.h.n, .int .i64 y.st.mn, .int .i64 y.st.mx, .int .i64 y.st.mt, .bool y.st.mr.a, .bool y.st.mr.p, .int .i64 y.st.mr.n, .int .i64 y.st.mb, .bool y.st.ml.a, .bool y.st.ml.p, .int .i64 y.st.ml.n, .int .i64 y.st.bo, .int .i64 y.st.pa, .int .i64 y.st.wh, .int .i64 y.st.al, .int .i64 y.st.lh, .int .i64 y.st.ri, .int .i64 y.st.dn]) rfl rfl (by kernel_rfl) rfl (by kernel_rfl) ?_; intro W bel l0 hsz; refine stay ?_)
    | fail)
  unfold Stay
  have cu : W.cell? ⟨w.heap.size, 0, none⟩ = some (.int .i64 ((u : Int))) := (lies_cell l0 0).trans (by rw [hyu]; rfl)
  have RS : Hid (W.rangeAt w.heap.size 2 (stCells y.st).toList) := fun j v hj => (lies_cell l0 (2 + j)).trans (by rw [← hj, show (stCells y.st).toList = (#[.int .i64 y.up, .string y.tx, .int .i64 y.st.sh, .int .i64 y.st.fl, .int .i64 y.st.cl, .bool y.st.w.a, .bool y.st.w.p, .int .i64 y.st.w.n, .bool y.st.h.a, .bool y.st.h.p, .int .i64 y.st.h.n, .int .i64 y.st.mn, .int .i64 y.st.mx, .int .i64 y.st.mt, .bool y.st.mr.a, .bool y.st.mr.p, .int .i64 y.st.mr.n, .int .i64 y.st.mb, .bool y.st.ml.a, .bool y.st.ml.p, .int .i64 y.st.ml.n, .int .i64 y.st.bo, .int .i64 y.st.pa, .int .i64 y.st.wh, .int .i64 y.st.al, .int .i64 y.st.lh, .int .i64 y.st.ri, .int .i64 y.st.dn] : Array Value).toList.drop 2 from rfl, List.getElem?_drop]; simp)
  have cp2 : W.cell? ⟨p, 2, none⟩ = some (.slice (some ⟨gi, 0, none⟩) i ci) := (bel.cell (p := ⟨p, 2, none⟩) lp).trans c2w
  have cgi : W.cell? ⟨gi, u, none⟩ = some (.int .i64 ar) := (bel.cell (p := ⟨gi, u, none⟩) lgi).trans qi
  have HL0 : Hid (W.heap[w.heap.size]? = some (.cells (#[.int .i64 y.up, .string y.tx, .int .i64 y.st.sh, .int .i64 y.st.fl, .int .i64 y.st.cl, .bool y.st.w.a, .bool y.st.w.p, .int .i64 y.st.w.n, .bool y.st.h.a, .bool y.st.h.p, .int .i64 y.st.h.n, .int .i64 y.st.mn, .int .i64 y.st.mx, .int .i64 y.st.mt, .bool y.st.mr.a, .bool y.st.mr.p, .int .i64 y.st.mr.n, .int .i64 y.st.mb, .bool y.st.ml.a, .bool y.st.ml.p, .int .i64 y.st.ml.n, .int .i64 y.st.bo, .int .i64 y.st.pa, .int .i64 y.st.wh, .int .i64 y.st.al, .int .i64 y.st.lh, .int .i64 y.st.ri, .int .i64 y.st.dn]) 65 (0, 0))) := l0
  clear l0 qi c2w hr c0
  go_wp2_with fail
  go_quiet (fail)
  go_wp2_with (first
    | (with_reducible show wpList _ _ _ (⟨some 28, Op.load 49 _, _, _, _, _⟩ :: _) _ _; refine wpList_load_mid rfl 49 _ rfl w.heap.size 2 rfl (stCells y.st).toList _ (range_drewN RS.out) Tryd.underlying49 rfl (by kernel_rfl) ?_)
    | fail)
  refine (BK _).mono ?_
  rintro e w2 ⟨rfl, hb⟩
  have hbW : Below W.heap.size W w2 := ⟨hb.os, hb.tape, hb.output, hb.size, hb.block⟩
  have b2 : Below w.heap.size w w2 := bel.trans (hbW.mono bel.size)
  have G2 := HG.out.keep b2
  have l2 : Hid (w2.heap[w.heap.size]? = some (.cells (#[.int .i64 y.up, .string y.tx, .int .i64 y.st.sh, .int .i64 y.st.fl, .int .i64 y.st.cl, .bool y.st.w.a, .bool y.st.w.p, .int .i64 y.st.w.n, .bool y.st.h.a, .bool y.st.h.p, .int .i64 y.st.h.n, .int .i64 y.st.mn, .int .i64 y.st.mx, .int .i64 y.st.mt, .bool y.st.mr.a, .bool y.st.mr.p, .int .i64 y.st.mr.n, .int .i64 y.st.mb, .bool y.st.ml.a, .bool y.st.ml.p, .int .i64 y.st.ml.n, .int .i64 y.st.bo, .int .i64 y.st.pa, .int .i64 y.st.wh, .int .i64 y.st.al, .int .i64 y.st.lh, .int .i64 y.st.ri, .int .i64 y.st.dn]) 65 (0, 0))) := below_lies hbW HL0.out (by omega)
  have B2 : Below B w w2 := b2.mono hBs
  have s0 : w2.cell? ⟨w.heap.size, 2, none⟩ = some (.int .i64 y.st.sh) := (lies_cell l2.out 2).trans rfl
  have s1 : w2.cell? ⟨w.heap.size, 1, none⟩ = some (.string y.tx) := (lies_cell l2.out 1).trans rfl
  have c2 : w2.cell? ⟨p, 2, none⟩ = some (.slice (some ⟨gi, 0, none⟩) i ci) := (lies_cell G2.lies 2).trans rfl
  have f2 : w2.frozen? ⟨p, 2, none⟩ = false := Lib.frozen_of_heap G2.lies 2
  have lw : w.heap.size < w2.heap.size := lies_lt l2.out
  clear hb hbW HL0 RS cu cp2 cgi bel HG BK b2
  have hi0 : (0 : Int) < (i : Int) := by omega
  subst hq
  have hb1 : (S.ti == -1) = false := by simpa using ha
  have hb2 : (y.st.sh == 3) = false := by simpa using h3
  have rb := range_box l2.out
  go_wp2_with (first
    | (with_reducible show wpList _ _ _ (⟨some 53, Op.load 65 _, _, _, _, _⟩ :: _) _ _; refine wpList_load_mid rfl 65 _ rfl w.heap.size 0 rfl (ndL y) _ rb Tryd.underlying65 rfl (by kernel_rfl) ?_)
    | fail)
  refine (TX _).mono ?_
  rintro e w5 ⟨rfl, hb5⟩
  have G5 := G2.keep hb5
  have B5 : Below B w w5 := B2.trans (hb5.mono (Nat.le_trans hBs B2.size))
  have s5 : w5.cell? ⟨w.heap.size, 1, none⟩ = some (.string y.tx) := (hb5.cell (p := ⟨w.heap.size, 1, none⟩) lw).trans s1
  have c5 : w5.cell? ⟨p, 2, none⟩ = some (.slice (some ⟨gi, 0, none⟩) i ci) := (lies_cell G5.lies 2).trans rfl
  have f5 : w5.frozen? ⟨p, 2, none⟩ = false := Lib.frozen_of_heap G5.lies 2
  have lw5 : w.heap.size < w5.heap.size := Nat.lt_of_lt_of_le lw hb5.size
  clear rb hb5 l2 s0 s1 c2 f2 G2 B2 TX lw
  have HG2 : Hid (Bg w5 B p (.slice (some ⟨b, off, none⟩) n cap) S vb (.slice (some ⟨gi, 0, none⟩) i ci) vt) := G5
  have o2 : w5.ownsRow B 3 1 (.slice (some ⟨gi, 0, none⟩) i ci) i (S.inn.map (Value.int .i64)) := by have h := HG2.out.oi; rw [hin'] at h; exact h
  have hBw : B ≤ w5.heap.size := Nat.le_trans hBs B5.size
  have HB2 : Hid (Below B w w5) := B5
  clear G5 B5
  go_wp2_with (at_builtin; refine wpList_append_own_at _ rfl (.tmp 59) (.tmp 60) 68 rfl B 3 i0 (.int .i64 0) 1 8 Tryd.underlying68 hinf hz0 hz1 hz2 rfl (by decide) _ _ _ rfl (o2.alloc _) ⟨w5.heap.size, 0, none⟩ 1 1 [.int .i64 (-1)] rfl rfl (cell_one_new _ _ _) (one_i64 _) (by unfold maxLen; omega) (by omega) (by simp; omega) ?_)
  intro v' w3 hown3 hgrow3 _ _
  obtain ⟨a3, k3, rfl⟩ := own_form hown3
  have GA := HG2.out.keep ((Below.refl _ _).alloc (Nat.le_refl _) (.cells #[.int .i64 (-1)] 3))
  have l3 : w3.heap[p]? = _ := (hgrow3.block p (lies_lt GA.lies) (fun e => own_ne GA.oi GA.lies (by decide) e.symm)).trans GA.lies
  have d2 : w3.cell? ⟨p, 2, none⟩ = some (.slice (some ⟨gi, 0, none⟩) i ci) := (lies_cell l3 2).trans rfl
  have g2 : w3.frozen? ⟨p, 2, none⟩ = false := Lib.frozen_of_heap l3 2
  have R := GA.putI (l := S.inn ++ [-1]) hgrow3 (snocI hin'.symm hown3)
  have RB := ((HB2.out.alloc hBw _).grown hgrow3 (by simp; omega) (fun k hk => (GA.oi.lt k hk).1)).setCell (p := ⟨p, 2, none⟩) GA.hp (.slice a3 (i + 1) k3)
  have HR : Hid (_ ∧ _) := And.intro R RB
  have hne : ¬ w.heap.size = p := by omega
  have e1 : w3.cell? ⟨w.heap.size, 1, none⟩ = some (.string y.tx) := by
    rw [hgrow3.cell_far ⟨w.heap.size, 1, none⟩ (by simp; omega) (fun e => by have h : w.heap.size = gi := Option.some.inj e; omega)]
    rw [World.cell?_alloc_some _ _ _ (by rw [s5]; rfl)]
    exact s5
  have s6 : (w3.setCell ⟨p, 2, none⟩ (.slice a3 (i + 1) k3)).cell? ⟨w.heap.size, 1, none⟩ = some (.string y.tx) := by
    rw [World.cell?_setCell_far _ _ _ _ (fun e => hne e.symm)]
    exact e1
  clear R RB GA l3 hown3 hgrow3 o2 HG2 HB2 c5 f5 s5
  go_wp2_with fail
  refine (addText_same B p (.slice (some ⟨b, off, none⟩) n cap) { S with inn := S.inn ++ [-1] } vb _ vt y.tx _ HR.out.1 (by have := hok.size; show S.tx.size ≤ 8000; omega) TXL.out).mono ?_
  rintro e w7 ⟨rfl, ⟨vt', G7⟩, B7⟩
  have B8 := HR.out.2.trans B7
  clear HR B7 s6 e1 d2 g2
  go_wp2
  go_ret
  exact ⟨rfl, ⟨_, _, _, G7.okp true⟩, B8⟩
set_option maxRecDepth 100000 in
set_option maxHeartbeats 8000000 in
theorem take_text2 (B p i b off n cap : Nat) (ns : List Nd) (S : Ps) (vb vi vt : Value) (w : World) (hbg : Bg w B p (.slice (some ⟨b, off, none⟩) n cap) S vb vi vt) (hok : PsOk ns i S) (hns : NsOk ns) (hi : i < n) (hnd : NdAt w B b off n ns) (hwh : WhOk ns) (hS : S.ok = true) (h0 : 0 < i) (ha : ¬ arP ns S i = -1) (h3 : ¬ (ns.getD i nd0).st.sh = 3) (ht : isT ns i = true) (hq : ¬ arP ns S i = S.ti) :
    Calls Tryd.prog 36 #[.pointer (some ⟨p, 0, none⟩), .int .i64 (i : Int)] w fun e w' => e = .returned (.bool (takeP ns S i).ok) ∧ (∃ vb' vi' vt', Bg w' B p (.slice (some ⟨b, off, none⟩) n cap) (takeP ns S i) vb' vi' vt') ∧ Below B w w' := by
  obtain ⟨i0, hinf, hz0, hz1, hz2⟩ := bgInfo3
  have hin : i < ns.length := by rw [← hnd.len]; exact hi
  obtain ⟨y, hy⟩ : ∃ y, ns[i]? = some y := ⟨_, List.getElem?_eq_getElem hin⟩
  obtain ⟨gU, gT, gD⟩ := getI hy
  have hTt : zeroS y.st = true := by rw [← gT]; exact ht
  obtain ⟨tOk, tNe⟩ := hns.texts i hin ht
  rw [gD] at tOk tNe h3
  have tLe := (okB_yes tOk).1
  have TXL : Hid (y.tx.size ≤ 200) := tLe
  have HT : Hid (takeP ns S i = { bs := endB ns S, inn := S.inn ++ [-1], tx := y.tx, ti := arP ns S i, ok := S.ok && endO S }) := by
    show _ = _
    unfold takeP
    rw [gD]
    rw [if_neg (by unfold goneP; rw [decide_eq_true_eq, gD]; rintro (h | h); exact ha h.2; exact h3 h), if_pos ht, if_neg hq]
  rw [HT.out, hS, Bool.true_and]
  show Calls _ _ _ _ fun e w' => e = .returned (.bool (endO S)) ∧ _
  clear HT
  have hr := hnd.rows i y hy
  have hn40 := hnd.le
  have lp := lies_lt hbg.lies
  have hBs : B ≤ w.heap.size := Nat.le_trans hbg.hp (Nat.le_of_lt lp)
  have c0 : w.cell? ⟨p, 0, none⟩ = some (.slice (some ⟨b, off, none⟩) n cap) := (lies_cell hbg.lies 0).trans rfl
  have BK := fun W => boxKind_any y.st W
  have TX := fun W => implIsText_any y W
  rw [hTt] at TX
  obtain ⟨u, hu, eu, _⟩ := (hns.stands i hin).ups h0
  have hyu : y.up = (u : Int) := by rw [← gU]; exact eu
  have hin' : S.inn.length = i := hok.len
  obtain ⟨gi, ci, hvi⟩ := own_some hbg.oi (by omega)
  rw [hin'] at hvi
  subst hvi
  have hoi := hbg.oi
  rw [hin'] at hoi
  have HAR : Hid (arP ns S i = S.inn.getD u 0) := by show _ = _; unfold arP; rw [gU, hyu, if_pos (by omega)]; rfl
  obtain ⟨ar, har0⟩ : ∃ ar, ar = S.inn.getD u 0 := ⟨_, rfl⟩
  have HA2 : Hid (arP ns S i = ar) := HAR.out.trans har0.symm
  rw [HA2.out] at ha hq ⊢
  have qi : w.cell? ⟨gi, u, none⟩ = some (.int .i64 ar) := by
    have h := (hoi.cellAt u (by omega))
    rw [h, List.getElem?_map, har0, List.getD_eq_getElem?_getD, List.getElem?_eq_getElem (by omega)]
    rfl
  have lgi : gi < w.heap.size := (hbg.oi.lt gi rfl).2
  clear har0 hoi eu HAR
  have c2w : w.cell? ⟨p, 2, none⟩ = some (.slice (some ⟨gi, 0, none⟩) i ci) := (lies_cell hbg.lies 2).trans rfl
  have hui : (u : Int) < (i : Int) := by omega
  have HG : Hid (Bg w B p (.slice (some ⟨b, off, none⟩) n cap) S vb (.slice (some ⟨gi, 0, none⟩) i ci) vt) := hbg
  clear hbg
  go_enter Tryd.func36, Tryd.ntmps36
  go_wp2_with (first
    | (with_reducible show wpList _ _ _ (⟨some 15, Op.load 65 _, _, _, _, _⟩ :: _) _ _; refine wpList_load_mid rfl 65 _ rfl b (off + i * 28) rfl (ndL y) _ hr Tryd.underlying65 rfl (by kernel_rfl) ?_)
    | (with_reducible show wpList _ _ _ (⟨none, Op.store 65 _ _, _, _, _, _⟩ :: _) _ _; refine wpList_store_box rfl 65 _ _ rfl rfl (#[.int .i64 y.up, .string y.tx, .int .i64 y.st.sh, .int .i64 y.st.fl, .int .i64 y.st.cl, .bool y.st.w.a, .bool y.st.w.p, .int .i64 y.st.w.n, .bool y.st.h.a, .bool y.st.h.p, .int .i64 y.st.h.n, .int .i64 y.st.mn, .int .i64 y.st.mx, .int .i64 y.st.mt, .bool y.st.mr.a, .bool y.st.mr.p, .int .i64 y.st.mr.n, .int .i64 y.st.mb, .bool y.st.ml.a, .bool y.st.ml.p, .int .i64 y.st.ml.n, .int .i64 y.st.bo, .int .i64 y.st.pa, .int .i64 y.st.wh, .int .i64 y.st.al, .int .i64 y.st.lh, .int .i64 y.st.ri, .int .i64 y.st.dn]) rfl rfl (by kernel_rfl) rfl (by kernel_rfl) ?_; intro W bel l0 hsz; refine stay ?_)
    | fail)
  unfold Stay
  have cu : W.cell? ⟨w.heap.size, 0, none⟩ = some (.int .i64 ((u : Int))) := (lies_cell l0 0).trans (by rw [hyu]; rfl)
  have RS : Hid (W.rangeAt w.heap.size 2 (stCells y.st).toList) := fun j v hj => (lies_cell l0 (2 + j)).trans (by rw [← hj, show (stCells y.st).toList = (#[.int .i64 y.up, .string y.tx, .int .i64 y.st.sh, .int .i64 y.st.fl, .int .i64 y.st.cl, .bool y.st.w.a, .bool y.st.w.p, .int .i64 y.st.w.n, .bool y.st.h.a, .bool y.st.h.p, .int .i64 y.st.h.n, .int .i64 y.st.mn, .int .i64 y.st.mx, .int .i64 y.st.mt, .bool y.st.mr.a, .bool y.st.mr.p, .int .i64 y.st.mr.n, .int .i64 y.st.mb, .bool y.st.ml.a, .bool y.st.ml.p, .int .i64 y.st.ml.n, .int .i64 y.st.bo, .int .i64 y.st.pa, .int .i64 y.st.wh, .int .i64 y.st.al, .int .i64 y.st.lh, .int .i64 y.st.ri, .int .i64 y.st.dn] : Array Value).toList.drop 2 from rfl, List.getElem?_drop]; simp)
  have cp2 : W.cell? ⟨p, 2, none⟩ = some (.slice (some ⟨gi, 0, none⟩) i ci) := (bel.cell (p := ⟨p, 2, none⟩) lp).trans c2w
  have cgi : W.cell? ⟨gi, u, none⟩ = some (.int .i64 ar) := (bel.cell (p := ⟨gi, u, none⟩) lgi).trans qi
  have HL0 : Hid (W.heap[w.heap.size]? = some (.cells (#[.int .i64 y.up, .string y.tx, .int .i64 y.st.sh, .int .i64 y.st.fl, .int .i64 y.st.cl, .bool y.st.w.a, .bool y.st.w.p, .int .i64 y.st.w.n, .bool y.st.h.a, .bool y.st.h.p, .int .i64 y.st.h.n, .int .i64 y.st.mn, .int .i64 y.st.mx, .int .i64 y.st.mt, .bool y.st.mr.a, .bool y.st.mr.p, .int .i64 y.st.mr.n, .int .i64 y.st.mb, .bool y.st.ml.a, .bool y.st.ml.p, .int .i64 y.st.ml.n, .int .i64 y.st.bo, .int .i64 y.st.pa, .int .i64 y.st.wh, .int .i64 y.st.al, .int .i64 y.st.lh, .int .i64 y.st.ri, .int .i64 y.st.dn]) 65 (0, 0))) := l0
  clear l0 qi c2w hr c0
  go_wp2_with fail
  go_quiet (fail)
  go_wp2_with (first
    | (with_reducible show wpList _ _ _ (⟨some 28, Op.load 49 _, _, _, _, _⟩ :: _) _ _; refine wpList_load_mid rfl 49 _ rfl w.heap.size 2 rfl (stCells y.st).toList _ (range_drewN RS.out) Tryd.underlying49 rfl (by kernel_rfl) ?_)
    | fail)
  refine (BK _).mono ?_
  rintro e w2 ⟨rfl, hb⟩
  have hbW : Below W.heap.size W w2 := ⟨hb.os, hb.tape, hb.output, hb.size, hb.block⟩
  have b2 : Below w.heap.size w w2 := bel.trans (hbW.mono bel.size)
  have G2 := HG.out.keep b2
  have l2 : Hid (w2.heap[w.heap.size]? = some (.cells (#[.int .i64 y.up, .string y.tx, .int .i64 y.st.sh, .int .i64 y.st.fl, .int .i64 y.st.cl, .bool y.st.w.a, .bool y.st.w.p, .int .i64 y.st.w.n, .bool y.st.h.a, .bool y.st.h.p, .int .i64 y.st.h.n, .int .i64 y.st.mn, .int .i64 y.st.mx, .int .i64 y.st.mt, .bool y.st.mr.a, .bool y.st.mr.p, .int .i64 y.st.mr.n, .int .i64 y.st.mb, .bool y.st.ml.a, .bool y.st.ml.p, .int .i64 y.st.ml.n, .int .i64 y.st.bo, .int .i64 y.st.pa, .int .i64 y.st.wh, .int .i64 y.st.al, .int .i64 y.st.lh, .int .i64 y.st.ri, .int .i64 y.st.dn]) 65 (0, 0))) := below_lies hbW HL0.out (by omega)
  have B2 : Below B w w2 := b2.mono hBs
  have s0 : w2.cell? ⟨w.heap.size, 2, none⟩ = some (.int .i64 y.st.sh) := (lies_cell l2.out 2).trans rfl
  have s1 : w2.cell? ⟨w.heap.size, 1, none⟩ = some (.string y.tx) := (lies_cell l2.out 1).trans rfl
  have c2 : w2.cell? ⟨p, 2, none⟩ = some (.slice (some ⟨gi, 0, none⟩) i ci) := (lies_cell G2.lies 2).trans rfl
  have f2 : w2.frozen? ⟨p, 2, none⟩ = false := Lib.frozen_of_heap G2.lies 2
  have lw : w.heap.size < w2.heap.size := lies_lt l2.out
  clear hb hbW HL0 RS cu cp2 cgi bel HG BK b2
  have hi0 : (0 : Int) < (i : Int) := by omega
  have hb1 : (ar == -1) = false := by simpa using ha
  have hb2 : (y.st.sh == 3) = false := by simpa using h3
  have rb := range_box l2.out
  go_wp2_with (first
    | (with_reducible show wpList _ _ _ (⟨some 53, Op.load 65 _, _, _, _, _⟩ :: _) _ _; refine wpList_load_mid rfl 65 _ rfl w.heap.size 0 rfl (ndL y) _ rb Tryd.underlying65 rfl (by kernel_rfl) ?_)
    | fail)
  refine (TX _).mono ?_
  rintro e w5 ⟨rfl, hb5⟩
  have G5 := G2.keep hb5
  have B5 : Below B w w5 := B2.trans (hb5.mono (Nat.le_trans hBs B2.size))
  have s5 : w5.cell? ⟨w.heap.size, 1, none⟩ = some (.string y.tx) := (hb5.cell (p := ⟨w.heap.size, 1, none⟩) lw).trans s1
  have c5 : w5.cell? ⟨p, 2, none⟩ = some (.slice (some ⟨gi, 0, none⟩) i ci) := (lies_cell G5.lies 2).trans rfl
  have f5 : w5.frozen? ⟨p, 2, none⟩ = false := Lib.frozen_of_heap G5.lies 2
  have lw5 : w.heap.size < w5.heap.size := Nat.lt_of_lt_of_le lw hb5.size
  clear rb hb5 l2 s0 s1 c2 f2 G2 B2 TX lw
  have HG2 : Hid (Bg w5 B p (.slice (some ⟨b, off, none⟩) n cap) S vb (.slice (some ⟨gi, 0, none⟩) i ci) vt) := G5
  have o2 : w5.ownsRow B 3 1 (.slice (some ⟨gi, 0, none⟩) i ci) i (S.inn.map (Value.int .i64)) := by have h := HG2.out.oi; rw [hin'] at h; exact h
  have hBw : B ≤ w5.heap.size := Nat.le_trans hBs B5.size
  have HB2 : Hid (Below B w w5) := B5
  clear G5 B5
  go_wp2_with (at_builtin; refine wpList_append_own_at _ rfl (.tmp 59) (.tmp 60) 68 rfl B 3 i0 (.int .i64 0) 1 8 Tryd.underlying68 hinf hz0 hz1 hz2 rfl (by decide) _ _ _ rfl (o2.alloc _) ⟨w5.heap.size, 0, none⟩ 1 1 [.int .i64 (-1)] rfl rfl (cell_one_new _ _ _) (one_i64 _) (by unfold maxLen; omega) (by omega) (by simp; omega) ?_)
  intro v' w3 hown3 hgrow3 _ _
  obtain ⟨a3, k3, rfl⟩ := own_form hown3
  have GA := HG2.out.keep ((Below.refl _ _).alloc (Nat.le_refl _) (.cells #[.int .i64 (-1)] 3))
  have l3 : w3.heap[p]? = _ := (hgrow3.block p (lies_lt GA.lies) (fun e => own_ne GA.oi GA.lies (by decide) e.symm)).trans GA.lies
  have d2 : w3.cell? ⟨p, 2, none⟩ = some (.slice (some ⟨gi, 0, none⟩) i ci) := (lies_cell l3 2).trans rfl
  have g2 : w3.frozen? ⟨p, 2, none⟩ = false := Lib.frozen_of_heap l3 2
  have R := GA.putI (l := S.inn ++ [-1]) hgrow3 (snocI hin'.symm hown3)
  have RB := ((HB2.out.alloc hBw _).grown hgrow3 (by simp; omega) (fun k hk => (GA.oi.lt k hk).1)).setCell (p := ⟨p, 2, none⟩) GA.hp (.slice a3 (i + 1) k3)
  have HR : Hid (_ ∧ _) := And.intro R RB
  have hne : ¬ w.heap.size = p := by omega
  have e1 : w3.cell? ⟨w.heap.size, 1, none⟩ = some (.string y.tx) := by
    rw [hgrow3.cell_far ⟨w.heap.size, 1, none⟩ (by simp; omega) (fun e => by have h : w.heap.size = gi := Option.some.inj e; omega)]
    rw [World.cell?_alloc_some _ _ _ (by rw [s5]; rfl)]
    exact s5
  have s6 : (w3.setCell ⟨p, 2, none⟩ (.slice a3 (i + 1) k3)).cell? ⟨w.heap.size, 1, none⟩ = some (.string y.tx) := by
    rw [World.cell?_setCell_far _ _ _ _ (fun e => hne e.symm)]
    exact e1
  clear R RB GA l3 hown3 hgrow3 o2 HG2 HB2 c5 f5 s5
  go_wp2_with fail
  refine (addText_other B p i b off n cap ns { S with inn := S.inn ++ [-1] } vb _ vt ar y.tx _ HR.out.1 ⟨hok.many, hok.size, hok.good, hok.ti, hok.nds⟩ (Nat.le_of_lt hi) (hnd.below HR.out.2) hwh hq TXL.out).mono ?_
  rintro e w7 ⟨rfl, ⟨vb', vt', G7⟩, B7⟩
  have B8 := HR.out.2.trans B7
  have G8 : Bg w7 B p (.slice (some ⟨b, off, none⟩) n cap) { bs := endB ns S, inn := S.inn ++ [-1], tx := y.tx, ti := ar, ok := endO S } vb' (.slice a3 (i + 1) k3) vt' := G7.okp (endO S)
  clear HR B7 s6 e1 d2 g2 G7
  have e7 : endO ({ S with inn := S.inn ++ [-1] } : Ps) = endO S := rfl
  rw [e7]
  go_wp2
  go_ret
  exact ⟨rfl, ⟨_, _, _, G8⟩, B8⟩
end Go.Proofs.YtbphninknpfcmaaDoor

namespace Go.Proofs.YtbphninknpfcmaaDoor
open Go.ChangeShapes Go.WideShapes Go.ChangeAt Go.RowKit
set_option linter.unusedVariables false

set_option maxRecDepth 100000 in
set_option maxHeartbeats 8000000 in
theorem take_inline (B p i b off n cap : Nat) (ns : List Nd) (S : Ps) (vb vi vt : Value) (w : World) (hbg : Bg w B p (.slice (some ⟨b, off, none⟩) n cap) S vb vi vt) (hok : PsOk ns i S) (hns : NsOk ns) (hi : i < n) (hnd : NdAt w B b off n ns) (hwh : WhOk ns) (hS : S.ok = true) (h0 : 0 < i) (ha : ¬ arP ns S i = -1) (h3 : ¬ (ns.getD i nd0).st.sh = 3) (ht : isT ns i = false) (hkd : kindS (ns.getD i nd0).st = 0) :
    Calls Tryd.prog 36 #[.pointer (some ⟨p, 0, none⟩), .int .i64 (i : Int)] w fun e w' => e = .returned (.bool (takeP ns S i).ok) ∧ (∃ vb' vi' vt', Bg w' B p (.slice (some ⟨b, off, none⟩) n cap) (takeP ns S i) vb' vi' vt') ∧ Below B w w' := by
  obtain ⟨i0, hinf, hz0, hz1, hz2⟩ := bgInfo3
  have hin : i < ns.length := by rw [← hnd.len]; exact hi
  obtain ⟨y, hy⟩ : ∃ y, ns[i]? = some y := ⟨_, List.getElem?_eq_getElem hin⟩
  obtain ⟨gU, gT, gD⟩ := getI hy
  have hTt : zeroS y.st = false := by rw [← gT]; exact ht
  rw [gD] at h3 hkd
  have HT : Hid (takeP ns S i = { S with inn := S.inn ++ [arP ns S i] }) := by
    show _ = _
    unfold takeP
    rw [gD]
    rw [if_neg (by unfold goneP; rw [decide_eq_true_eq, gD]; rintro (h | h); exact ha h.2; exact h3 h), if_neg (by rw [ht]; decide), if_pos hkd]
  rw [HT.out]
  show Calls _ _ _ _ fun e w' => e = .returned (.bool S.ok) ∧ _
  rw [hS]
  clear HT
  have hr := hnd.rows i y hy
  have hn40 := hnd.le
  have lp := lies_lt hbg.lies
  have hBs : B ≤ w.heap.size := Nat.le_trans hbg.hp (Nat.le_of_lt lp)
  have c0 : w.cell? ⟨p, 0, none⟩ = some (.slice (some ⟨b, off, none⟩) n cap) := (lies_cell hbg.lies 0).trans rfl
  have BK := fun W => boxKind_any y.st W
  have TX := fun W => implIsText_any y W
  rw [hTt] at TX
  rw [hkd] at BK
  obtain ⟨u, hu, eu, _⟩ := (hns.stands i hin).ups h0
  have hyu : y.up = (u : Int) := by rw [← gU]; exact eu
  have hin' : S.inn.length = i := hok.len
  obtain ⟨gi, ci, hvi⟩ := own_some hbg.oi (by omega)
  rw [hin'] at hvi
  subst hvi
  have hoi := hbg.oi
  rw [hin'] at hoi
  have HAR : Hid (arP ns S i = S.inn.getD u 0) := by show _ = _; unfold arP; rw [gU, hyu, if_pos (by omega)]; rfl
  obtain ⟨ar, har0⟩ : ∃ ar, ar = S.inn.getD u 0 := ⟨_, rfl⟩
  have HA2 : Hid (arP ns S i = ar) := HAR.out.trans har0.symm
  rw [HA2.out] at ha ⊢
  have qi : w.cell? ⟨gi, u, none⟩ = some (.int .i64 ar) := by
    have h := (hoi.cellAt u (by omega))
    rw [h, List.getElem?_map, har0, List.getD_eq_getElem?_getD, List.getElem?_eq_getElem (by omega)]
    rfl
  have lgi : gi < w.heap.size := (hbg.oi.lt gi rfl).2
  clear har0 hoi eu HAR
  have c2w : w.cell? ⟨p, 2, none⟩ = some (.slice (some ⟨gi, 0, none⟩) i ci) := (lies_cell hbg.lies 2).trans rfl
  have hui : (u : Int) < (i : Int) := by omega
  have HG : Hid (Bg w B p (.slice (some ⟨b, off, none⟩) n cap) S vb (.slice (some ⟨gi, 0, none⟩) i ci) vt) := hbg
  clear hbg
  go_enter Tryd.func36, Tryd.ntmps36
  go_wp2_with (first
    | (with_reducible show wpList _ _ _ (⟨some 15, Op.load 65 _, _, _, _, _⟩ :: _) _ _; refine wpList_load_mid rfl 65 _ rfl b (off + i * 28) rfl (ndL y) _ hr Tryd.underlying65 rfl (by kernel_rfl) ?_)
    | (with_reducible show wpList _ _ _ (⟨none, Op.store 65 _ _, _, _, _, _⟩ :: _) _ _; refine wpList_store_box rfl 65 _ _ rfl rfl (#[.int .i64 y.up, .string y.tx, .int .i64 y.st.sh, .int .i64 y.st.fl, .int .i64 y.st.cl, .bool y.st.w.a, .bool y.st.w.p, .int .i64 y.st.w.n, .bool y.st.h.a, .bool y.st.h.p, .int .i64 y.st.h.n, .int .i64 y.st.mn, .int .i64 y.st.mx, .int .i64 y.st.mt, .bool y.st.mr.a, .bool y.st.mr.p, .int .i64 y.st.mr.n, .int .i64 y.st.mb, .bool y.st.ml.a, .bool y.st.ml.p, .int .i64 y.st.ml.n, .int .i64 y.st.bo, .int .i64 y.st.pa, .int .i64 y.st.wh, .int .i64 y.st.al, .int .i64 y.st.lh, .int .i64 y.st.ri, .int .i64 y.st.dn]) rfl rfl (by kernel_rfl) rfl (by kernel_rfl) ?_; intro W bel l0 hsz; refine stay ?_)
    | fail)
  unfold Stay
  have cu : W.cell? ⟨w.heap.size, 0, none⟩ = some (.int .i64 ((u : Int))) := (lies_cell l0 0).trans (by rw [hyu]; rfl)
  have RS : Hid (W.rangeAt w.heap.size 2 (stCells y.st).toList) := fun j v hj => (lies_cell l0 (2 + j)).trans (by rw [← hj, show (stCells y.st).toList = (#[.int .i64 y.up, .string y.tx, .int .i64 y.st.sh, .int .i64 y.st.fl, .int .i64 y.st.cl, .bool y.st.w.a, .bool y.st.w.p, .int .i64 y.st.w.n, .bool y.st.h.a, .bool y.st.h.p, .int .i64 y.st.h.n, .int .i64 y.st.mn, .int .i64 y.st.mx, .int .i64 y.st.mt, .bool y.st.mr.a, .bool y.st.mr.p, .int .i64 y.st.mr.n, .int .i64 y.st.mb, .bool y.st.ml.a, .bool y.st.ml.p, .int .i64 y.st.ml.n, .int .i64 y.st.bo, .int .i64 y.st.pa, .int .i64 y.st.wh, .int .i64 y.st.al, .int .i64 y.st.lh, .int .i64 y.st.ri, .int .i64 y.st.dn] : Array Value).toList.drop 2 from rfl, List.getElem?_drop]; simp)
  have cp2 : W.cell? ⟨p, 2, none⟩ = some (.slice (some ⟨gi, 0, none⟩) i ci) := (bel.cell (p := ⟨p, 2, none⟩) lp).trans c2w
  have cgi : W.cell? ⟨gi, u, none⟩ = some (.int .i64 ar) := (bel.cell (p := ⟨gi, u, none⟩) lgi).trans qi
  have HL0 : Hid (W.heap[w.heap.size]? = some (.cells (#[.int .i64 y.up, .string y.tx, .int .i64 y.st.sh, .int .i64 y.st.fl, .int .i64 y.st.cl, .bool y.st.w.a, .bool y.st.w.p, .int .i64 y.st.w.n, .bool y.st.h.a, .bool y.st.h.p, .int .i64 y.st.h.n, .int .i64 y.st.mn, .int .i64 y.st.mx, .int .i64 y.st.mt, .bool y.st.mr.a, .bool y.st.mr.p, .int .i64 y.st.mr.n, .int .i64 y.st.mb, .bool y.st.ml.a, .bool y.st.ml.p, .int .i64 y.st.ml.n, .int .i64 y.st.bo, .int .i64 y.st.pa, .int .i64 y.st.wh, .int .i64 y.st.al, .int .i64 y.st.lh, .int .i64 y.st.ri, .int .i64 y.st.dn]) 65 (0, 0))) := l0
  clear l0 qi c2w hr c0
  go_wp2_with fail
  go_quiet (fail)
  go_wp2_with (first
    | (with_reducible show wpList _ _ _ (⟨some 28, Op.load 49 _, _, _, _, _⟩ :: _) _ _; refine wpList_load_mid rfl 49 _ rfl w.heap.size 2 rfl (stCells y.st).toList _ (range_drewN RS.out) Tryd.underlying49 rfl (by kernel_rfl) ?_)
    | fail)
  refine (BK _).mono ?_
  rintro e w2 ⟨rfl, hb⟩
  have hbW : Below W.heap.size W w2 := ⟨hb.os, hb.tape, hb.output, hb.size, hb.block⟩
  have b2 : Below w.heap.size w w2 := bel.trans (hbW.mono bel.size)
  have G2 := HG.out.keep b2
  have l2 : Hid (w2.heap[w.heap.size]? = some (.cells (#[.int .i64 y.up, .string y.tx, .int .i64 y.st.sh, .int .i64 y.st.fl, .int .i64 y.st.cl, .bool y.st.w.a, .bool y.st.w.p, .int .i64 y.st.w.n, .bool y.st.h.a, .bool y.st.h.p, .int .i64 y.st.h.n, .int .i64 y.st.mn, .int .i64 y.st.mx, .int .i64 y.st.mt, .bool y.st.mr.a, .bool y.st.mr.p, .int .i64 y.st.mr.n, .int .i64 y.st.mb, .bool y.st.ml.a, .bool y.st.ml.p, .int .i64 y.st.ml.n, .int .i64 y.st.bo, .int .i64 y.st.pa, .int .i64 y.st.wh, .int .i64 y.st.al, .int .i64 y.st.lh, .int .i64 y.st.ri, .int .i64 y.st.dn]) 65 (0, 0))) := below_lies hbW HL0.out (by omega)
  have B2 : Below B w w2 := b2.mono hBs
  have s0 : w2.cell? ⟨w.heap.size, 2, none⟩ = some (.int .i64 y.st.sh) := (lies_cell l2.out 2).trans rfl
  have s1 : w2.cell? ⟨w.heap.size, 1, none⟩ = some (.string y.tx) := (lies_cell l2.out 1).trans rfl
  have c2 : w2.cell? ⟨p, 2, none⟩ = some (.slice (some ⟨gi, 0, none⟩) i ci) := (lies_cell G2.lies 2).trans rfl
  have f2 : w2.frozen? ⟨p, 2, none⟩ = false := Lib.frozen_of_heap G2.lies 2
  have lw : w.heap.size < w2.heap.size := lies_lt l2.out
  clear hb hbW HL0 RS cu cp2 cgi bel HG BK b2
  have hi0 : (0 : Int) < (i : Int) := by omega
  have hb1 : (ar == -1) = false := by simpa using ha
  have hb2 : (y.st.sh == 3) = false := by simpa using h3
  have rb := range_box l2.out
  go_wp2_with (first
    | (with_reducible show wpList _ _ _ (⟨some 53, Op.load 65 _, _, _, _, _⟩ :: _) _ _; refine wpList_load_mid rfl 65 _ rfl w.heap.size 0 rfl (ndL y) _ rb Tryd.underlying65 rfl (by kernel_rfl) ?_)
    | fail)
  refine (TX _).mono ?_
  rintro e w5 ⟨rfl, hb5⟩
  have G5 := G2.keep hb5
  have B5 : Below B w w5 := B2.trans (hb5.mono (Nat.le_trans hBs B2.size))
  have s5 : w5.cell? ⟨w.heap.size, 1, none⟩ = some (.string y.tx) := (hb5.cell (p := ⟨w.heap.size, 1, none⟩) lw).trans s1
  have c5 : w5.cell? ⟨p, 2, none⟩ = some (.slice (some ⟨gi, 0, none⟩) i ci) := (lies_cell G5.lies 2).trans rfl
  have f5 : w5.frozen? ⟨p, 2, none⟩ = false := Lib.frozen_of_heap G5.lies 2
  have lw5 : w.heap.size < w5.heap.size := Nat.lt_of_lt_of_le lw hb5.size
  clear rb hb5 l2 s0 s1 c2 f2 G2 B2 TX lw
  have HG2 : Hid (Bg w5 B p (.slice (some ⟨b, off, none⟩) n cap) S vb (.slice (some ⟨gi, 0, none⟩) i ci) vt) := G5
  have o2 : w5.ownsRow B 3 1 (.slice (some ⟨gi, 0, none⟩) i ci) i (S.inn.map (Value.int .i64)) := by have h := HG2.out.oi; rw [hin'] at h; exact h
  have hBw : B ≤ w5.heap.size := Nat.le_trans hBs B5.size
  have HB2 : Hid (Below B w w5) := B5
  clear G5 B5
  go_wp2_with (at_builtin; refine wpList_append_own_at _ rfl (.tmp 76) (.tmp 78) 68 rfl B 3 i0 (.int .i64 0) 1 8 Tryd.underlying68 hinf hz0 hz1 hz2 rfl (by decide) _ _ _ rfl (o2.alloc _) ⟨w5.heap.size, 0, none⟩ 1 1 [.int .i64 (ar)] rfl rfl (cell_one_new _ _ _) (one_i64 _) (by unfold maxLen; omega) (by omega) (by simp; omega) ?_)
  intro v' w3 hown3 hgrow3 _ _
  obtain ⟨a3, k3, rfl⟩ := own_form hown3
  have GA := HG2.out.keep ((Below.refl _ _).alloc (Nat.le_refl _) (.cells #[.int .i64 (ar)] 3))
  have l3 : w3.heap[p]? = _ := (hgrow3.block p (lies_lt GA.lies) (fun e => own_ne GA.oi GA.lies (by decide) e.symm)).trans GA.lies
  have d2 : w3.cell? ⟨p, 2, none⟩ = some (.slice (some ⟨gi, 0, none⟩) i ci) := (lies_cell l3 2).trans rfl
  have g2 : w3.frozen? ⟨p, 2, none⟩ = false := Lib.frozen_of_heap l3 2
  have R := GA.putI (l := S.inn ++ [ar]) hgrow3 (snocI hin'.symm hown3)
  have RB := ((HB2.out.alloc hBw _).grown hgrow3 (by simp; omega) (fun k hk => (GA.oi.lt k hk).1)).setCell (p := ⟨p, 2, none⟩) GA.hp (.slice a3 (i + 1) k3)
  have HR : Hid (_ ∧ _) := And.intro R RB
  clear R RB c5 f5 s5 GA l3 hown3 hgrow3 o2 HG2 HB2
  go_wp2
  go_ret
  refine ⟨rfl, ?_, HR.out.2⟩
  have h := HR.out.1
  rw [hS] at h
  exact ⟨_, _, _, h⟩
end Go.Proofs.YtbphninknpfcmaaDoor

namespace Go.Proofs.YtbphninknpfcmaaDoor
open Go.ChangeShapes Go.WideShapes Go.ChangeAt Go.RowKit
set_option linter.unusedVariables false

theorem one4 (a b c : Int) (t : ByteArray) : ∀ u ∈ [Value.int .i64 a, .int .i64 b, .int .i64 c, .string t], u.oneCell' = true := by
  intro u hu
  simp only [List.mem_cons, List.not_mem_nil, or_false] at hu
  rcases hu with rfl | rfl | rfl | rfl <;> rfl
set_option maxRecDepth 100000 in
set_option maxHeartbeats 8000000 in
theorem take_block (B p i b off n cap : Nat) (ns : List Nd) (S : Ps) (vb vi vt : Value) (w : World) (hbg : Bg w B p (.slice (some ⟨b, off, none⟩) n cap) S vb vi vt) (hok : PsOk ns i S) (hns : NsOk ns) (hi : i < n) (hnd : NdAt w B b off n ns) (hwh : WhOk ns) (hS : S.ok = true) (h0 : 0 < i) (ha : ¬ arP ns S i = -1) (h3 : ¬ (ns.getD i nd0).st.sh = 3) (ht : isT ns i = false) (hkd : ¬ kindS (ns.getD i nd0).st = 0) :
    Calls Tryd.prog 36 #[.pointer (some ⟨p, 0, none⟩), .int .i64 (i : Int)] w fun e w' => e = .returned (.bool (takeP ns S i).ok) ∧ (∃ vb' vi' vt', Bg w' B p (.slice (some ⟨b, off, none⟩) n cap) (takeP ns S i) vb' vi' vt') ∧ Below B w w' := by
  obtain ⟨i0, hinf, hz0, hz1, hz2⟩ := bgInfo3
  have hin : i < ns.length := by rw [← hnd.len]; exact hi
  obtain ⟨y, hy⟩ : ∃ y, ns[i]? = some y := ⟨_, List.getElem?_eq_getElem hin⟩
  obtain ⟨gU, gT, gD⟩ := getI hy
  obtain ⟨inf, hif, hx0, hx1, hx2⟩ := info_parts infoBox
  have hTt : zeroS y.st = false := by rw [← gT]; exact ht
  rw [gD] at hkd h3
  have HT : Hid (takeP ns S i = { bs := endB ns S ++ [⟨kindS y.st, (i : Nat), arP ns S i, ByteArray.empty⟩], inn := S.inn ++ [((endB ns S).length : Int)], tx := ByteArray.empty, ti := S.ti, ok := S.ok && endO S }) := by
    show _ = _
    unfold takeP
    rw [gD]
    rw [if_neg (by unfold goneP; rw [decide_eq_true_eq, gD]; rintro (h | h); exact ha h.2; exact h3 h), if_neg (by rw [ht]; decide), if_neg hkd]
  rw [HT.out, hS, Bool.true_and]
  show Calls _ _ _ _ fun e w' => e = .returned (.bool (endO S)) ∧ _
  clear HT
  obtain ⟨kd, hkd0⟩ : ∃ kd, kd = kindS y.st := ⟨_, rfl⟩
  rw [← hkd0] at hkd ⊢
  have HKD : Hid (kd = kindS y.st) := hkd0
  clear hkd0
  have hb3 : (kd == 0) = false := by simpa using hkd
  have hr := hnd.rows i y hy
  have hn40 := hnd.le
  have lp := lies_lt hbg.lies
  have hBs : B ≤ w.heap.size := Nat.le_trans hbg.hp (Nat.le_of_lt lp)
  have c0 : w.cell? ⟨p, 0, none⟩ = some (.slice (some ⟨b, off, none⟩) n cap) := (lies_cell hbg.lies 0).trans rfl
  have BK := fun W => boxKind_any y.st W
  have TX := fun W => implIsText_any y W
  rw [hTt] at TX
  rw [← HKD.out] at BK
  obtain ⟨u, hu, eu, _⟩ := (hns.stands i hin).ups h0
  have hyu : y.up = (u : Int) := by rw [← gU]; exact eu
  have hin' : S.inn.length = i := hok.len
  obtain ⟨gi, ci, hvi⟩ := own_some hbg.oi (by omega)
  rw [hin'] at hvi
  subst hvi
  have hoi := hbg.oi
  rw [hin'] at hoi
  have HAR : Hid (arP ns S i = S.inn.getD u 0) := by show _ = _; unfold arP; rw [gU, hyu, if_pos (by omega)]; rfl
  obtain ⟨ar, har0⟩ : ∃ ar, ar = S.inn.getD u 0 := ⟨_, rfl⟩
  have HA2 : Hid (arP ns S i = ar) := HAR.out.trans har0.symm
  rw [HA2.out] at ha ⊢
  have qi : w.cell? ⟨gi, u, none⟩ = some (.int .i64 ar) := by
    have h := (hoi.cellAt u (by omega))
    rw [h, List.getElem?_map, har0, List.getD_eq_getElem?_getD, List.getElem?_eq_getElem (by omega)]
    rfl
  have lgi : gi < w.heap.size := (hbg.oi.lt gi rfl).2
  clear har0 hoi eu HAR
  have c2w : w.cell? ⟨p, 2, none⟩ = some (.slice (some ⟨gi, 0, none⟩) i ci) := (lies_cell hbg.lies 2).trans rfl
  have hui : (u : Int) < (i : Int) := by omega
  have HG : Hid (Bg w B p (.slice (some ⟨b, off, none⟩) n cap) S vb (.slice (some ⟨gi, 0, none⟩) i ci) vt) := hbg
  clear hbg
  go_enter Tryd.func36, Tryd.ntmps36
  go_wp2_with (first
    | (with_reducible show wpList _ _ _ (⟨some 15, Op.load 65 _, _, _, _, _⟩ :: _) _ _; refine wpList_load_mid rfl 65 _ rfl b (off + i * 28) rfl (ndL y) _ hr Tryd.underlying65 rfl (by kernel_rfl) ?_)
    | (with_reducible show wpList _ _ _ (⟨none, Op.store 65 _ _, _, _, _, _⟩ :: _) _ _; refine wpList_store_box rfl 65 _ _ rfl rfl (#[.int .i64 y.up, .string y.tx, .int .i64 y.st.sh, .int .i64 y.st.fl, .int .i64 y.st.cl, .bool y.st.w.a, .bool y.st.w.p, .int .i64 y.st.w.n, .bool y.st.h.a, .bool y.st.h.p, .int .i64 y.st.h.n, .int .i64 y.st.mn, .int .i64 y.st.mx, .int .i64 y.st.mt, .bool y.st.mr.a, .bool y.st.mr.p, .int .i64 y.st.mr.n, .int .i64 y.st.mb, .bool y.st.ml.a, .bool y.st.ml.p, .int .i64 y.st.ml.n, .int .i64 y.st.bo, .int .i64 y.st.pa, .int .i64 y.st.wh, .int .i64 y.st.al, .int .i64 y.st.lh, .int .i64 y.st.ri, .int .i64 y.st.dn]) rfl rfl (by kernel_rfl) rfl (by kernel_rfl) ?_; intro W bel l0 hsz; refine stay ?_)
    | fail)
  unfold Stay
  have cu : W.cell? ⟨w.heap.size, 0, none⟩ = some (.int .i64 ((u : Int))) := (lies_cell l0 0).trans (by rw [hyu]; rfl)
  have RS : Hid (W.rangeAt w.heap.size 2 (stCells y.st).toList) := fun j v hj => (lies_cell l0 (2 + j)).trans (by rw [← hj, show (stCells y.st).toList = (#[.int .i64 y.up, .string y.tx, .int .i64 y.st.sh, .int .i64 y.st.fl, .int .i64 y.st.cl, .bool y.st.w.a, .bool y.st.w.p, .int .i64 y.st.w.n, .bool y.st.h.a, .bool y.st.h.p, .int .i64 y.st.h.n, .int .i64 y.st.mn, .int .i64 y.st.mx, .int .i64 y.st.mt, .bool y.st.mr.a, .bool y.st.mr.p, .int .i64 y.st.mr.n, .int .i64 y.st.mb, .bool y.st.ml.a, .bool y.st.ml.p, .int .i64 y.st.ml.n, .int .i64 y.st.bo, .int .i64 y.st.pa, .int .i64 y.st.wh, .int .i64 y.st.al, .int .i64 y.st.lh, .int .i64 y.st.ri, .int .i64 y.st.dn] : Array Value).toList.drop 2 from rfl, List.getElem?_drop]; simp)
  have cp2 : W.cell? ⟨p, 2, none⟩ = some (.slice (some ⟨gi, 0, none⟩) i ci) := (bel.cell (p := ⟨p, 2, none⟩) lp).trans c2w
  have cgi : W.cell? ⟨gi, u, none⟩ = some (.int .i64 ar) := (bel.cell (p := ⟨gi, u, none⟩) lgi).trans qi
  have HL0 : Hid (W.heap[w.heap.size]? = some (.cells (#[.int .i64 y.up, .string y.tx, .int .i64 y.st.sh, .int .i64 y.st.fl, .int .i64 y.st.cl, .bool y.st.w.a, .bool y.st.w.p, .int .i64 y.st.w.n, .bool y.st.h.a, .bool y.st.h.p, .int .i64 y.st.h.n, .int .i64 y.st.mn, .int .i64 y.st.mx, .int .i64 y.st.mt, .bool y.st.mr.a, .bool y.st.mr.p, .int .i64 y.st.mr.n, .int .i64 y.st.mb, .bool y.st.ml.a, .bool y.st.ml.p, .int .i64 y.st.ml.n, .int .i64 y.st.bo, .int .i64 y.st.pa, .int .i64 y.st.wh, .int .i64 y.st.al, .int .i64 y.st.lh, .int .i64 y.st.ri, .int .i64 y.st.dn]) 65 (0, 0))) := l0
  clear l0 qi c2w hr c0
  go_wp2_with fail
  go_quiet (fail)
  go_wp2_with (first
    | (with_reducible show wpList _ _ _ (⟨some 28, Op.load 49 _, _, _, _, _⟩ :: _) _ _; refine wpList_load_mid rfl 49 _ rfl w.heap.size 2 rfl (stCells y.st).toList _ (range_drewN RS.out) Tryd.underlying49 rfl (by kernel_rfl) ?_)
    | fail)
  refine (BK _).mono ?_
  rintro e w2 ⟨rfl, hb⟩
  have hbW : Below W.heap.size W w2 := ⟨hb.os, hb.tape, hb.output, hb.size, hb.block⟩
  have b2 : Below w.heap.size w w2 := bel.trans (hbW.mono bel.size)
  have G2 := HG.out.keep b2
  have l2 : Hid (w2.heap[w.heap.size]? = some (.cells (#[.int .i64 y.up, .string y.tx, .int .i64 y.st.sh, .int .i64 y.st.fl, .int .i64 y.st.cl, .bool y.st.w.a, .bool y.st.w.p, .int .i64 y.st.w.n, .bool y.st.h.a, .bool y.st.h.p, .int .i64 y.st.h.n, .int .i64 y.st.mn, .int .i64 y.st.mx, .int .i64 y.st.mt, .bool y.st.mr.a, .bool y.st.mr.p, .int .i64 y.st.mr.n, .int .i64 y.st.mb, .bool y.st.ml.a, .bool y.st.ml.p, .int .i64 y.st.ml.n, .int .i64 y.st.bo, .int .i64 y.st.pa, .int .i64 y.st.wh, .int .i64 y.st.al, .int .i64 y.st.lh, .int .i64 y.st.ri, .int .i64 y.st.dn]) 65 (0, 0))) := below_lies hbW HL0.out (by omega)
  have B2 : Below B w w2 := b2.mono hBs
  have s0 : w2.cell? ⟨w.heap.size, 2, none⟩ = some (.int .i64 y.st.sh) := (lies_cell l2.out 2).trans rfl
  have s1 : w2.cell? ⟨w.heap.size, 1, none⟩ = some (.string y.tx) := (lies_cell l2.out 1).trans rfl
  have c2 : w2.cell? ⟨p, 2, none⟩ = some (.slice (some ⟨gi, 0, none⟩) i ci) := (lies_cell G2.lies 2).trans rfl
  have f2 : w2.frozen? ⟨p, 2, none⟩ = false := Lib.frozen_of_heap G2.lies 2
  have lw : w.heap.size < w2.heap.size := lies_lt l2.out
  clear hb hbW HL0 RS cu cp2 cgi bel HG BK b2
  have hi0 : (0 : Int) < (i : Int) := by omega
  have hb1 : (ar == -1) = false := by simpa using ha
  have hb2 : (y.st.sh == 3) = false := by simpa using h3
  have rb := range_box l2.out
  go_wp2_with (first
    | (with_reducible show wpList _ _ _ (⟨some 53, Op.load 65 _, _, _, _, _⟩ :: _) _ _; refine wpList_load_mid rfl 65 _ rfl w.heap.size 0 rfl (ndL y) _ rb Tryd.underlying65 rfl (by kernel_rfl) ?_)
    | fail)
  refine (TX _).mono ?_
  rintro e w5 ⟨rfl, hb5⟩
  have G5 := G2.keep hb5
  have B5 : Below B w w5 := B2.trans (hb5.mono (Nat.le_trans hBs B2.size))
  have s5 : w5.cell? ⟨w.heap.size, 1, none⟩ = some (.string y.tx) := (hb5.cell (p := ⟨w.heap.size, 1, none⟩) lw).trans s1
  have c5 : w5.cell? ⟨p, 2, none⟩ = some (.slice (some ⟨gi, 0, none⟩) i ci) := (lies_cell G5.lies 2).trans rfl
  have f5 : w5.frozen? ⟨p, 2, none⟩ = false := Lib.frozen_of_heap G5.lies 2
  have lw5 : w.heap.size < w5.heap.size := Nat.lt_of_lt_of_le lw hb5.size
  clear rb hb5 l2 s0 s1 c2 f2 G2 B2 TX lw
  have o5 : w5.ownsRow B 3 1 (.slice (some ⟨gi, 0, none⟩) i ci) i (S.inn.map (Value.int .i64)) := by have h := G5.oi; rw [hin'] at h; exact h
  clear s5 c5 f5
  go_wp2_with fail
  refine (endText_any B p i b off n cap ns S vb (.slice (some ⟨gi, 0, none⟩) i ci) vt _ G5 hok.w (Nat.le_of_lt hi) (hnd.below B5) hwh).mono ?_
  rintro e w7 ⟨rfl, ⟨vb', vt', G7⟩, B7⟩
  have hm40 : (endB ns S).length ≤ 40 := by have := (endB_ok hok).2.1; omega
  obtain ⟨ab, cb, hvb⟩ := own_form G7.ob
  have B77 : Below B w w7 := B5.trans B7
  have hBw7 : B ≤ w7.heap.size := Nat.le_trans hBs B77.size
  obtain ⟨m, hmm⟩ : ∃ m, m = (endB ns S).length := ⟨_, rfl⟩
  have hvb2 : vb' = .slice ab m cb := by rw [hmm]; exact hvb
  clear hvb
  subst hvb2
  have HMM : Hid (m = (endB ns S).length) := hmm
  rw [← hmm] at hm40
  have o7 : w7.ownsRow B 3 1 (.slice (some ⟨gi, 0, none⟩) i ci) i (S.inn.map (Value.int .i64)) := by have h := G7.oi; rw [show ({ S with bs := endB ns S, tx := ByteArray.empty } : Ps).inn.length = i from hin'] at h; exact h
  have c1 : w7.cell? ⟨p, 1, none⟩ = some (.slice ab m cb) := (lies_cell G7.lies 1).trans rfl
  have c2 : w7.cell? ⟨p, 2, none⟩ = some (.slice (some ⟨gi, 0, none⟩) i ci) := (lies_cell G7.lies 2).trans rfl
  have HG7 : Hid (Bg w7 B p (.slice (some ⟨b, off, none⟩) n cap) { S with bs := endB ns S, tx := ByteArray.empty } (.slice ab m cb) (.slice (some ⟨gi, 0, none⟩) i ci) vt') := G7
  have HB7 : Hid (Below B w w7) := B77
  have HOW : Hid (∀ W : World, W.heap = (w7.alloc (.cells #[.int .i64 (m : Int)] 3)).heap → W.ownsRow B 3 1 (.slice (some ⟨gi, 0, none⟩) i ci) i (S.inn.map (Value.int .i64))) := by
    show ∀ W : World, _
    intro W hW
    have h := o7.alloc (.cells #[.int .i64 (m : Int)] 3)
    unfold World.ownsRow at h ⊢
    rw [hW]
    exact h
  have HNW : Hid (∀ W : World, W.heap = (w7.alloc (.cells #[.int .i64 (m : Int)] 3)).heap → ∀ j u, [Value.int .i64 (m : Int)][j]? = some u → W.cell? ((⟨w7.heap.size, 0, none⟩ : Addr).add j) = some u) := by
    show ∀ W : World, _
    intro W hW
    exact World.news_of_block (cs := #[.int .i64 (m : Int)]) (t := 3) (fr := (0, 0)) (by rw [hW]; exact heap_at _ _ _ rfl)
  have l7 : Hid (∀ W w8 : World, W.grownBy w8 (Value.ownBlock (.slice (some ⟨gi, 0, none⟩) i ci)) → W.heap = (w7.alloc (.cells #[.int .i64 (m : Int)] 3)).heap → w8.heap[p]? = some (.cells #[.slice (some ⟨b, off, none⟩) n cap, .slice ab m cb, .slice (some ⟨gi, 0, none⟩) i ci, vt', .int .i64 S.ti] 71 (0, 0))) := by
    show ∀ W w8 : World, _
    intro W w8 hg hW
    have hWp : W.heap[p]? = _ := (congrArg (fun h => h[p]?) hW).trans (heap_in HG7.out.lies)
    exact (hg.block p (lies_lt hWp) (fun e => own_ne (HOW.out W hW) hWp (by decide) e.symm)).trans hWp
  have gb7 : Hid (∀ W w8 : World, ∀ v', W.grownBy w8 (Value.ownBlock (.slice (some ⟨gi, 0, none⟩) i ci)) → w8.ownsRow B 3 1 v' (i + 1) (S.inn.map (Value.int .i64) ++ [.int .i64 (m : Int)]) → W.heap = (w7.alloc (.cells #[.int .i64 (m : Int)] 3)).heap → W.os = w7.os → W.tape = w7.tape → W.output = w7.output → Bg (w8.setCell ⟨p, 2, none⟩ v') B p (.slice (some ⟨b, off, none⟩) n cap) { S with bs := endB ns S, inn := S.inn ++ [(m : Int)], tx := ByteArray.empty } (.slice ab m cb) v' vt' ∧ Below B w (w8.setCell ⟨p, 2, none⟩ v')) := by
    show ∀ W w8 : World, _
    intro W w8 v' hg hown hW ho ht hp
    have bW : Below w7.heap.size w7 W := ⟨ho, ht, hp, by rw [hW]; simp, fun k hk => by rw [hW]; exact heap_alloc_old w7 _ hk⟩
    have GW := HG7.out.keep bW
    refine ⟨GW.putI (l := S.inn ++ [(m : Int)]) hg (snocI hin'.symm hown), ?_⟩
    exact ((HB7.out.trans (bW.mono hBw7)).grown hg (Nat.le_trans hBw7 bW.size) (fun k hk => ((HOW.out W hW).lt k hk).1)).setCell (p := ⟨p, 2, none⟩) GW.hp _
  have lp7 : p < w7.heap.size := lies_lt HG7.out.lies
  clear G7 B7 G5 B5 B77 o5 o7 hmm
  go_wp2_with fail
  go_region_law (refine step_append_lies _ (by rfl) _ _ _ (by rfl) B 3 i0 _ 1 8 Tryd.underlying68 hinf hz0 hz1 hz2 rfl (by omega) (.slice (some ⟨gi, 0, none⟩) i ci) i (S.inn.map (Value.int .i64)) (by rfl) (HOW.out _ rfl) ⟨w7.heap.size, 0, none⟩ 1 1 [.int .i64 (m : Int)] (by rfl) (by rfl) (HNW.out _ rfl) (one_i64 _) (by omega) (by unfold maxLen; omega) (by omega) (by simp; omega) _ rfl ?_; intro g9 cap9 w8 hown8 hgrow8 hat8 hlt8; have l8 := l7.out _ w8 hgrow8 rfl; have e2 : w8.cell? ⟨p, 2, none⟩ = some (.slice (some ⟨gi, 0, none⟩) i ci) := (lies_cell l8 2).trans rfl; have f2 : w8.frozen? ⟨p, 2, none⟩ = false := Lib.frozen_of_heap l8 2; have GG := gb7.out _ w8 _ hgrow8 hown8 rfl rfl rfl rfl)
  all_goals
    obtain ⟨G8, B8⟩ := GG
    clear l8 e2 f2 hown8 hgrow8 hat8 hlt8 HOW HNW l7 gb7 c1 c2 HG7 HB7
    generalize World.setCell w8 _ _ = w9 at G8 B8 ⊢
    have c1 : w9.cell? ⟨p, 1, none⟩ = some (.slice ab m cb) := (lies_cell G8.lies 1).trans rfl
    have o9 : w9.ownsRow B 76 4 (.slice ab m cb) m (flatB (endB ns S)) := by have h := G8.ob; rw [show ({ S with bs := endB ns S, inn := S.inn ++ [(m : Int)], tx := ByteArray.empty } : Ps).bs.length = m from HMM.out.symm] at h; exact h
    have hB9 : B ≤ w9.heap.size := Nat.le_trans hBs B8.size
    have HG9 : Hid (Bg w9 B p (.slice (some ⟨b, off, none⟩) n cap) { S with bs := endB ns S, inn := S.inn ++ [(m : Int)], tx := ByteArray.empty } (.slice ab m cb) _ vt') := G8
    have HB9 : Hid (Below B w w9) := B8
    clear G8 B8
    go_wp2_with (at_builtin; refine wpList_append_own_at _ rfl (.tmp 102) (.tmp 107) 24 rfl B 76 inf _ 4 40 Tryd.underlying24 hif hx0 hx1 hx2 rfl (by decide) _ _ _ rfl (o9.alloc _) ⟨w9.heap.size, 0, none⟩ 1 1 [.int .i64 kd, .int .i64 (i : Int), .int .i64 ar, .string ByteArray.empty] rfl rfl (World.news_of_block (cs := #[.int .i64 kd, .int .i64 (i : Int), .int .i64 ar, .string ByteArray.empty]) (heap_at _ _ _ rfl)) (one4 _ _ _ _) (by unfold maxLen; omega) (by omega) (by simp; omega) ?_)
    intro v' w10 hown10 hgrow10 _ _
    obtain ⟨a10, k10, rfl⟩ := own_form hown10
    have GA := HG9.out.keep ((Below.refl _ _).alloc (Nat.le_refl _) (.cells #[.int .i64 kd, .int .i64 (i : Int), .int .i64 ar, .string ByteArray.empty] 76))
    have l10 : w10.heap[p]? = _ := (hgrow10.block p (lies_lt GA.lies) (fun e => own_ne GA.ob GA.lies (by decide) e.symm)).trans GA.lies
    have d1 : w10.cell? ⟨p, 1, none⟩ = some (.slice ab m cb) := (lies_cell l10 1).trans rfl
    have g1 : w10.frozen? ⟨p, 1, none⟩ = false := Lib.frozen_of_heap l10 1
    have R := GA.putB (bs' := endB ns S ++ [⟨kd, (i : Int), ar, ByteArray.empty⟩]) hgrow10 (by rw [flatB_snoc, List.length_append, ← HMM.out]; exact hown10)
    have RB := ((HB9.out.alloc hB9 _).grown hgrow10 (by simp; omega) (fun k hk => (GA.ob.lt k hk).1)).setCell (p := ⟨p, 1, none⟩) GA.hp (.slice a10 (m + 1) k10)
    have HR : Hid (_ ∧ _) := And.intro R RB
    clear R RB GA l10 hown10 hgrow10 o9 HG9 HB9 c1
    go_wp2
    go_ret
    refine ⟨rfl, ?_, HR.out.2⟩
    rw [← HMM.out]
    exact ⟨_, _, _, HR.out.1.okp (endO S)⟩
end Go.Proofs.YtbphninknpfcmaaDoor

namespace Go.Proofs.YtbphninknpfcmaaDoor
open Go.ChangeShapes Go.WideShapes Go.ChangeAt Go.RowKit
set_option linter.unusedVariables false

set_option maxRecDepth 100000 in
set_option maxHeartbeats 8000000 in
theorem take_root (B p b off n cap : Nat) (ns : List Nd) (S : Ps) (vb vi vt : Value) (w : World) (hbg : Bg w B p (.slice (some ⟨b, off, none⟩) n cap) S vb vi vt) (hok : PsOk ns 0 S) (hns : NsOk ns) (hi : 0 < n) (hnd : NdAt w B b off n ns) (hwh : WhOk ns) (hS : S.ok = true) (h3 : ¬ (ns.getD 0 nd0).st.sh = 3) (ht : isT ns 0 = false) (hkd : ¬ kindS (ns.getD 0 nd0).st = 0) :
    Calls Tryd.prog 36 #[.pointer (some ⟨p, 0, none⟩), .int .i64 0] w fun e w' => e = .returned (.bool (takeP ns S 0).ok) ∧ (∃ vb' vi' vt', Bg w' B p (.slice (some ⟨b, off, none⟩) n cap) (takeP ns S 0) vb' vi' vt') ∧ Below B w w' := by
  obtain ⟨i0, hinf, hz0, hz1, hz2⟩ := bgInfo3
  have hin : 0 < ns.length := by rw [← hnd.len]; exact hi
  obtain ⟨y, hy⟩ : ∃ y, ns[0]? = some y := ⟨_, List.getElem?_eq_getElem hin⟩
  obtain ⟨gU, gT, gD⟩ := getI hy
  obtain ⟨inf, hif, hx0, hx1, hx2⟩ := info_parts infoBox
  have hTt : zeroS y.st = false := by rw [← gT]; exact ht
  rw [gD] at hkd h3
  have HT : Hid (takeP ns S 0 = { bs := endB ns S ++ [⟨kindS y.st, (0 : Nat), arP ns S 0, ByteArray.empty⟩], inn := S.inn ++ [((endB ns S).length : Int)], tx := ByteArray.empty, ti := S.ti, ok := S.ok && endO S }) := by
    show _ = _
    unfold takeP
    rw [gD]
    rw [if_neg (by unfold goneP; rw [decide_eq_true_eq, gD]; rintro (h | h); exact absurd h.1 (by omega); exact h3 h), if_neg (by rw [ht]; decide), if_neg hkd]
  rw [HT.out, hS, Bool.true_and]
  show Calls _ _ _ _ fun e w' => e = .returned (.bool (endO S)) ∧ _
  clear HT
  obtain ⟨kd, hkd0⟩ : ∃ kd, kd = kindS y.st := ⟨_, rfl⟩
  rw [← hkd0] at hkd ⊢
  have HKD : Hid (kd = kindS y.st) := hkd0
  clear hkd0
  have hb3 : (kd == 0) = false := by simpa using hkd
  have hr := hnd.rows 0 y hy
  rw [Nat.zero_mul, Nat.add_zero] at hr
  have hn40 := hnd.le
  have lp := lies_lt hbg.lies
  have hBs : B ≤ w.heap.size := Nat.le_trans hbg.hp (Nat.le_of_lt lp)
  have c0 : w.cell? ⟨p, 0, none⟩ = some (.slice (some ⟨b, off, none⟩) n cap) := (lies_cell hbg.lies 0).trans rfl
  have BK := fun W => boxKind_any y.st W
  have TX := fun W => implIsText_any y W
  rw [hTt] at TX
  rw [← HKD.out] at BK
  have hyu : y.up = -1 := by rw [← gU]; exact (hns.stands 0 hin).top rfl
  obtain ⟨ai, ci, hvi⟩ := own_form hbg.oi
  have hin' : S.inn.length = 0 := hok.len
  rw [hin'] at hvi
  subst hvi
  have HA2 : Hid (arP ns S 0 = -1) := by show _ = _; unfold arP; rw [gU, hyu]; rfl
  rw [HA2.out]
  have HG : Hid (Bg w B p (.slice (some ⟨b, off, none⟩) n cap) S vb (.slice ai 0 ci) vt) := hbg
  clear hbg
  go_enter Tryd.func36, Tryd.ntmps36
  go_wp2_with (first
    | (with_reducible show wpList _ _ _ (⟨some 15, Op.load 65 _, _, _, _, _⟩ :: _) _ _; refine wpList_load_mid rfl 65 _ rfl b off rfl (ndL y) _ hr Tryd.underlying65 rfl (by kernel_rfl) ?_)
    | (with_reducible show wpList _ _ _ (⟨none, Op.store 65 _ _, _, _, _, _⟩ :: _) _ _; refine wpList_store_box rfl 65 _ _ rfl rfl (#[.int .i64 y.up, .string y.tx, .int .i64 y.st.sh, .int .i64 y.st.fl, .int .i64 y.st.cl, .bool y.st.w.a, .bool y.st.w.p, .int .i64 y.st.w.n, .bool y.st.h.a, .bool y.st.h.p, .int .i64 y.st.h.n, .int .i64 y.st.mn, .int .i64 y.st.mx, .int .i64 y.st.mt, .bool y.st.mr.a, .bool y.st.mr.p, .int .i64 y.st.mr.n, .int .i64 y.st.mb, .bool y.st.ml.a, .bool y.st.ml.p, .int .i64 y.st.ml.n, .int .i64 y.st.bo, .int .i64 y.st.pa, .int .i64 y.st.wh, .int .i64 y.st.al, .int .i64 y.st.lh, .int .i64 y.st.ri, .int .i64 y.st.dn]) rfl rfl (by kernel_rfl) rfl (by kernel_rfl) ?_; intro W bel l0 hsz; refine stay ?_)
    | fail)
  unfold Stay
  have cu : W.cell? ⟨w.heap.size, 0, none⟩ = some (.int .i64 (-1)) := (lies_cell l0 0).trans (by rw [hyu]; rfl)
  have RS : Hid (W.rangeAt w.heap.size 2 (stCells y.st).toList) := fun j v hj => (lies_cell l0 (2 + j)).trans (by rw [← hj, show (stCells y.st).toList = (#[.int .i64 y.up, .string y.tx, .int .i64 y.st.sh, .int .i64 y.st.fl, .int .i64 y.st.cl, .bool y.st.w.a, .bool y.st.w.p, .int .i64 y.st.w.n, .bool y.st.h.a, .bool y.st.h.p, .int .i64 y.st.h.n, .int .i64 y.st.mn, .int .i64 y.st.mx, .int .i64 y.st.mt, .bool y.st.mr.a, .bool y.st.mr.p, .int .i64 y.st.mr.n, .int .i64 y.st.mb, .bool y.st.ml.a, .bool y.st.ml.p, .int .i64 y.st.ml.n, .int .i64 y.st.bo, .int .i64 y.st.pa, .int .i64 y.st.wh, .int .i64 y.st.al, .int .i64 y.st.lh, .int .i64 y.st.ri, .int .i64 y.st.dn] : Array Value).toList.drop 2 from rfl, List.getElem?_drop]; simp)
  have HL0 : Hid (W.heap[w.heap.size]? = some (.cells (#[.int .i64 y.up, .string y.tx, .int .i64 y.st.sh, .int .i64 y.st.fl, .int .i64 y.st.cl, .bool y.st.w.a, .bool y.st.w.p, .int .i64 y.st.w.n, .bool y.st.h.a, .bool y.st.h.p, .int .i64 y.st.h.n, .int .i64 y.st.mn, .int .i64 y.st.mx, .int .i64 y.st.mt, .bool y.st.mr.a, .bool y.st.mr.p, .int .i64 y.st.mr.n, .int .i64 y.st.mb, .bool y.st.ml.a, .bool y.st.ml.p, .int .i64 y.st.ml.n, .int .i64 y.st.bo, .int .i64 y.st.pa, .int .i64 y.st.wh, .int .i64 y.st.al, .int .i64 y.st.lh, .int .i64 y.st.ri, .int .i64 y.st.dn]) 65 (0, 0))) := l0
  clear l0 hr c0
  go_wp2_with (first
    | (with_reducible show wpList _ _ _ (⟨some 28, Op.load 49 _, _, _, _, _⟩ :: _) _ _; refine wpList_load_mid rfl 49 _ rfl w.heap.size 2 rfl (stCells y.st).toList _ RS.out Tryd.underlying49 rfl (by kernel_rfl) ?_)
    | fail)
  refine (BK _).mono ?_
  rintro e w2 ⟨rfl, hb⟩
  have hbW : Below W.heap.size W w2 := ⟨hb.os, hb.tape, hb.output, hb.size, hb.block⟩
  have b2 : Below w.heap.size w w2 := bel.trans (hbW.mono bel.size)
  have G2 := HG.out.keep b2
  have l2 : Hid (w2.heap[w.heap.size]? = some (.cells (#[.int .i64 y.up, .string y.tx, .int .i64 y.st.sh, .int .i64 y.st.fl, .int .i64 y.st.cl, .bool y.st.w.a, .bool y.st.w.p, .int .i64 y.st.w.n, .bool y.st.h.a, .bool y.st.h.p, .int .i64 y.st.h.n, .int .i64 y.st.mn, .int .i64 y.st.mx, .int .i64 y.st.mt, .bool y.st.mr.a, .bool y.st.mr.p, .int .i64 y.st.mr.n, .int .i64 y.st.mb, .bool y.st.ml.a, .bool y.st.ml.p, .int .i64 y.st.ml.n, .int .i64 y.st.bo, .int .i64 y.st.pa, .int .i64 y.st.wh, .int .i64 y.st.al, .int .i64 y.st.lh, .int .i64 y.st.ri, .int .i64 y.st.dn]) 65 (0, 0))) := below_lies hbW HL0.out (by omega)
  have B2 : Below B w w2 := b2.mono hBs
  have s0 : w2.cell? ⟨w.heap.size, 2, none⟩ = some (.int .i64 y.st.sh) := (lies_cell l2.out 2).trans rfl
  have s1 : w2.cell? ⟨w.heap.size, 1, none⟩ = some (.string y.tx) := (lies_cell l2.out 1).trans rfl
  have c2 : w2.cell? ⟨p, 2, none⟩ = some (.slice ai 0 ci) := (lies_cell G2.lies 2).trans rfl
  have f2 : w2.frozen? ⟨p, 2, none⟩ = false := Lib.frozen_of_heap G2.lies 2
  have lw : w.heap.size < w2.heap.size := lies_lt l2.out
  clear hb hbW HL0 RS cu bel HG BK b2
  have hb2 : (y.st.sh == 3) = false := by simpa using h3
  have rb := range_box l2.out
  go_wp2_with (first
    | (with_reducible show wpList _ _ _ (⟨some 53, Op.load 65 _, _, _, _, _⟩ :: _) _ _; refine wpList_load_mid rfl 65 _ rfl w.heap.size 0 rfl (ndL y) _ rb Tryd.underlying65 rfl (by kernel_rfl) ?_)
    | fail)
  refine (TX _).mono ?_
  rintro e w5 ⟨rfl, hb5⟩
  have G5 := G2.keep hb5
  have B5 : Below B w w5 := B2.trans (hb5.mono (Nat.le_trans hBs B2.size))
  have s5 : w5.cell? ⟨w.heap.size, 1, none⟩ = some (.string y.tx) := (hb5.cell (p := ⟨w.heap.size, 1, none⟩) lw).trans s1
  have c5 : w5.cell? ⟨p, 2, none⟩ = some (.slice ai 0 ci) := (lies_cell G5.lies 2).trans rfl
  have f5 : w5.frozen? ⟨p, 2, none⟩ = false := Lib.frozen_of_heap G5.lies 2
  have lw5 : w.heap.size < w5.heap.size := Nat.lt_of_lt_of_le lw hb5.size
  clear rb hb5 l2 s0 s1 c2 f2 G2 B2 TX lw
  have o5 : w5.ownsRow B 3 1 (.slice ai 0 ci) 0 (S.inn.map (Value.int .i64)) := by have h := G5.oi; rw [hin'] at h; exact h
  clear s5 c5 f5
  go_wp2_with fail
  refine (endText_any B p 0 b off n cap ns S vb (.slice ai 0 ci) vt _ G5 hok.w (Nat.le_of_lt hi) (hnd.below B5) hwh).mono ?_
  rintro e w7 ⟨rfl, ⟨vb', vt', G7⟩, B7⟩
  have hm40 : (endB ns S).length ≤ 40 := by have := (endB_ok hok).2.1; omega
  obtain ⟨ab, cb, hvb⟩ := own_form G7.ob
  have B77 : Below B w w7 := B5.trans B7
  have hBw7 : B ≤ w7.heap.size := Nat.le_trans hBs B77.size
  obtain ⟨m, hmm⟩ : ∃ m, m = (endB ns S).length := ⟨_, rfl⟩
  have hvb2 : vb' = .slice ab m cb := by rw [hmm]; exact hvb
  clear hvb
  subst hvb2
  have HMM : Hid (m = (endB ns S).length) := hmm
  rw [← hmm] at hm40
  have o7 : w7.ownsRow B 3 1 (.slice ai 0 ci) 0 (S.inn.map (Value.int .i64)) := by have h := G7.oi; rw [show ({ S with bs := endB ns S, tx := ByteArray.empty } : Ps).inn.length = 0 from hin'] at h; exact h
  have c1 : w7.cell? ⟨p, 1, none⟩ = some (.slice ab m cb) := (lies_cell G7.lies 1).trans rfl
  have c2 : w7.cell? ⟨p, 2, none⟩ = some (.slice ai 0 ci) := (lies_cell G7.lies 2).trans rfl
  have HG7 : Hid (Bg w7 B p (.slice (some ⟨b, off, none⟩) n cap) { S with bs := endB ns S, tx := ByteArray.empty } (.slice ab m cb) (.slice ai 0 ci) vt') := G7
  have HB7 : Hid (Below B w w7) := B77
  have HOW : Hid (∀ W : World, W.heap = (w7.alloc (.cells #[.int .i64 (m : Int)] 3)).heap → W.ownsRow B 3 1 (.slice ai 0 ci) 0 (S.inn.map (Value.int .i64))) := by
    show ∀ W : World, _
    intro W hW
    have h := o7.alloc (.cells #[.int .i64 (m : Int)] 3)
    unfold World.ownsRow at h ⊢
    rw [hW]
    exact h
  have HNW : Hid (∀ W : World, W.heap = (w7.alloc (.cells #[.int .i64 (m : Int)] 3)).heap → ∀ j u, [Value.int .i64 (m : Int)][j]? = some u → W.cell? ((⟨w7.heap.size, 0, none⟩ : Addr).add j) = some u) := by
    show ∀ W : World, _
    intro W hW
    exact World.news_of_block (cs := #[.int .i64 (m : Int)]) (t := 3) (fr := (0, 0)) (by rw [hW]; exact heap_at _ _ _ rfl)
  have l7 : Hid (∀ W w8 : World, W.grownBy w8 (Value.ownBlock (.slice ai 0 ci)) → W.heap = (w7.alloc (.cells #[.int .i64 (m : Int)] 3)).heap → w8.heap[p]? = some (.cells #[.slice (some ⟨b, off, none⟩) n cap, .slice ab m cb, .slice ai 0 ci, vt', .int .i64 S.ti] 71 (0, 0))) := by
    show ∀ W w8 : World, _
    intro W w8 hg hW
    have hWp : W.heap[p]? = _ := (congrArg (fun h => h[p]?) hW).trans (heap_in HG7.out.lies)
    exact (hg.block p (lies_lt hWp) (fun e => own_ne (HOW.out W hW) hWp (by decide) e.symm)).trans hWp
  have gb7 : Hid (∀ W w8 : World, ∀ v', W.grownBy w8 (Value.ownBlock (.slice ai 0 ci)) → w8.ownsRow B 3 1 v' (0 + 1) (S.inn.map (Value.int .i64) ++ [.int .i64 (m : Int)]) → W.heap = (w7.alloc (.cells #[.int .i64 (m : Int)] 3)).heap → W.os = w7.os → W.tape = w7.tape → W.output = w7.output → Bg (w8.setCell ⟨p, 2, none⟩ v') B p (.slice (some ⟨b, off, none⟩) n cap) { S with bs := endB ns S, inn := S.inn ++ [(m : Int)], tx := ByteArray.empty } (.slice ab m cb) v' vt' ∧ Below B w (w8.setCell ⟨p, 2, none⟩ v')) := by
    show ∀ W w8 : World, _
    intro W w8 v' hg hown hW ho ht hp
    have bW : Below w7.heap.size w7 W := ⟨ho, ht, hp, by rw [hW]; simp, fun k hk => by rw [hW]; exact heap_alloc_old w7 _ hk⟩
    have GW := HG7.out.keep bW
    refine ⟨GW.putI (l := S.inn ++ [(m : Int)]) hg (snocI hin'.symm hown), ?_⟩
    exact ((HB7.out.trans (bW.mono hBw7)).grown hg (Nat.le_trans hBw7 bW.size) (fun k hk => ((HOW.out W hW).lt k hk).1)).setCell (p := ⟨p, 2, none⟩) GW.hp _
  have lp7 : p < w7.heap.size := lies_lt HG7.out.lies
  clear G7 B7 G5 B5 B77 o5 o7 hmm
  go_wp2_with fail
  go_region_law (refine step_append_lies _ (by rfl) _ _ _ (by rfl) B 3 i0 _ 1 8 Tryd.underlying68 hinf hz0 hz1 hz2 rfl (by omega) (.slice ai 0 ci) 0 (S.inn.map (Value.int .i64)) (by rfl) (HOW.out _ rfl) ⟨w7.heap.size, 0, none⟩ 1 1 [.int .i64 (m : Int)] (by rfl) (by rfl) (HNW.out _ rfl) (one_i64 _) (by omega) (by unfold maxLen; omega) (by omega) (by simp; omega) _ rfl ?_; intro g9 cap9 w8 hown8 hgrow8 hat8 hlt8; have l8 := l7.out _ w8 hgrow8 rfl; have e2 : w8.cell? ⟨p, 2, none⟩ = some (.slice ai 0 ci) := (lies_cell l8 2).trans rfl; have f2 : w8.frozen? ⟨p, 2, none⟩ = false := Lib.frozen_of_heap l8 2; have GG := gb7.out _ w8 _ hgrow8 hown8 rfl rfl rfl rfl)
  all_goals
    obtain ⟨G8, B8⟩ := GG
    clear l8 e2 f2 hown8 hgrow8 hat8 hlt8 HOW HNW l7 gb7 c1 c2 HG7 HB7
    generalize World.setCell w8 _ _ = w9 at G8 B8 ⊢
    have c1 : w9.cell? ⟨p, 1, none⟩ = some (.slice ab m cb) := (lies_cell G8.lies 1).trans rfl
    have o9 : w9.ownsRow B 76 4 (.slice ab m cb) m (flatB (endB ns S)) := by have h := G8.ob; rw [show ({ S with bs := endB ns S, inn := S.inn ++ [(m : Int)], tx := ByteArray.empty } : Ps).bs.length = m from HMM.out.symm] at h; exact h
    have hB9 : B ≤ w9.heap.size := Nat.le_trans hBs B8.size
    have HG9 : Hid (Bg w9 B p (.slice (some ⟨b, off, none⟩) n cap) { S with bs := endB ns S, inn := S.inn ++ [(m : Int)], tx := ByteArray.empty } (.slice ab m cb) _ vt') := G8
    have HB9 : Hid (Below B w w9) := B8
    clear G8 B8
    go_wp2_with (at_builtin; refine wpList_append_own_at _ rfl (.tmp 102) (.tmp 107) 24 rfl B 76 inf _ 4 40 Tryd.underlying24 hif hx0 hx1 hx2 rfl (by decide) _ _ _ rfl (o9.alloc _) ⟨w9.heap.size, 0, none⟩ 1 1 [.int .i64 kd, .int .i64 (0 : Int), .int .i64 (-1), .string ByteArray.empty] rfl rfl (World.news_of_block (cs := #[.int .i64 kd, .int .i64 (0 : Int), .int .i64 (-1), .string ByteArray.empty]) (heap_at _ _ _ rfl)) (one4 _ _ _ _) (by unfold maxLen; omega) (by omega) (by simp; omega) ?_)
    intro v' w10 hown10 hgrow10 _ _
    obtain ⟨a10, k10, rfl⟩ := own_form hown10
    have GA := HG9.out.keep ((Below.refl _ _).alloc (Nat.le_refl _) (.cells #[.int .i64 kd, .int .i64 (0 : Int), .int .i64 (-1), .string ByteArray.empty] 76))
    have l10 : w10.heap[p]? = _ := (hgrow10.block p (lies_lt GA.lies) (fun e => own_ne GA.ob GA.lies (by decide) e.symm)).trans GA.lies
    have d1 : w10.cell? ⟨p, 1, none⟩ = some (.slice ab m cb) := (lies_cell l10 1).trans rfl
    have g1 : w10.frozen? ⟨p, 1, none⟩ = false := Lib.frozen_of_heap l10 1
    have R := GA.putB (bs' := endB ns S ++ [⟨kd, 0, (-1), ByteArray.empty⟩]) hgrow10 (by rw [flatB_snoc, List.length_append, ← HMM.out]; exact hown10)
    have RB := ((HB9.out.alloc hB9 _).grown hgrow10 (by simp; omega) (fun k hk => (GA.ob.lt k hk).1)).setCell (p := ⟨p, 1, none⟩) GA.hp (.slice a10 (m + 1) k10)
    have HR : Hid (_ ∧ _) := And.intro R RB
    clear R RB GA l10 hown10 hgrow10 o9 HG9 HB9 c1
    go_wp2
    go_ret
    refine ⟨rfl, ?_, HR.out.2⟩
    rw [← HMM.out]
    exact ⟨_, _, _, HR.out.1.okp (endO S)⟩
end Go.Proofs.YtbphninknpfcmaaDoor

namespace Go.Proofs.YtbphninknpfcmaaDoor
open Go.ChangeShapes Go.WideShapes Go.ChangeAt Go.RowKit
set_option linter.unusedVariables false

/-- Whatever the node is. -/
theorem take_any (B p i b off n cap : Nat) (ns : List Nd) (S : Ps) (vb vi vt : Value) (w : World) (hbg : Bg w B p (.slice (some ⟨b, off, none⟩) n cap) S vb vi vt) (hok : PsOk ns i S) (hns : NsOk ns) (hi : i < n) (hnd : NdAt w B b off n ns) (hwh : WhOk ns) (hS : S.ok = true) (hroot : kindS (ns.getD 0 nd0).st = 1) :
    Calls Tryd.prog 36 #[.pointer (some ⟨p, 0, none⟩), .int .i64 (i : Int)] w fun e w' => e = .returned (.bool (takeP ns S i).ok) ∧ (∃ vb' vi' vt', Bg w' B p (.slice (some ⟨b, off, none⟩) n cap) (takeP ns S i) vb' vi' vt') ∧ Below B w w' := by
  by_cases h0 : 0 < i
  · by_cases ha : arP ns S i = -1
    · exact take_gone1 B p i b off n cap ns S vb vi vt w hbg hok hns hi hnd hwh hS h0 ha
    · by_cases h3 : (ns.getD i nd0).st.sh = 3
      · exact take_gone2 B p i b off n cap ns S vb vi vt w hbg hok hns hi hnd hwh hS h0 ha h3
      · cases ht : isT ns i
        · by_cases hkd : kindS (ns.getD i nd0).st = 0
          · exact take_inline B p i b off n cap ns S vb vi vt w hbg hok hns hi hnd hwh hS h0 ha h3 ht hkd
          · exact take_block B p i b off n cap ns S vb vi vt w hbg hok hns hi hnd hwh hS h0 ha h3 ht hkd
        · by_cases hq : arP ns S i = S.ti
          · exact take_text1 B p i b off n cap ns S vb vi vt w hbg hok hns hi hnd hwh hS h0 ha h3 ht hq
          · exact take_text2 B p i b off n cap ns S vb vi vt w hbg hok hns hi hnd hwh hS h0 ha h3 ht hq
  · obtain rfl : i = 0 := by omega
    exact take_root B p b off n cap ns S vb vi vt w hbg hok hns hi hnd hwh hS (fun h => by rw [kindS, if_pos h] at hroot; omega) hns.root (by omega)

theorem treeB_parts {tB : ByteArray → Bool} {sB : St → Bool} {ns : List Nd} (h : treeB tB sB ns = true) : (1 ≤ ns.length ∧ ns.length ≤ 40) ∧ ∀ j, j < ns.length → okUp ns j = true ∧ okN tB sB (ns.getD j nd0) = true := by
  unfold treeB at h
  simp only [Bool.and_eq_true, decide_eq_true_eq, List.all_eq_true, List.mem_range] at h
  refine ⟨h.1, fun j hj => ?_⟩
  have := h.2 j hj
  unfold okAt at this
  simpa using this
theorem ns_ok {ns : List Nd} (h : treeB (okB true) styleB ns = true) : NsOk ns ∧ WhOk ns := by
  obtain ⟨⟨h1, h40⟩, hp⟩ := treeB_parts h
  refine ⟨⟨stands_of _ (fun j hj => (hp j hj).1), fun j hj hT => ?_, ?_⟩, fun j hj hT => ?_⟩
  · have := (hp j hj).2
    unfold okN at this
    unfold isT at hT
    rw [if_pos hT] at this
    simp only [Bool.and_eq_true, decide_eq_true_eq] at this
    exact ⟨this.2, this.1⟩
  · have := (hp 0 (by omega)).1
    unfold okUp at this
    simpa using (by simpa using this : _ ∧ _).2
  · have := (hp j hj).2
    unfold okN at this
    unfold isT at hT
    rw [if_neg (by rw [hT]; decide)] at this
    simp only [Bool.and_eq_true, decide_eq_true_eq] at this
    have h2 := this.2
    unfold styleB gA at h2
    simp only [Bool.and_eq_true] at h2
    exact h2.1.1.1.1.1.2
/-- What BoxesOf answers. -/
def boxB (ns : List Nd) : Bool := treeB (okB true) styleB ns && decide (kindS (ns.getD 0 nd0).st = 1) && boxesOkP ns
def boxR (ns : List Nd) : List Bx := if boxB ns then boxesL ns else []
/-- The slice v owns the boxes bs, in a block from B on. -/
def OwnX (w : World) (B : Nat) (v : Value) (bs : List Bx) : Prop := w.ownsRow B 76 4 v bs.length (flatB bs)
theorem ownX_nil (w : World) (B : Nat) : OwnX w B (.slice none 0 0) [] := World.ownsRow_nil w B _ 4
theorem boxR_no {ns : List Nd} (h : boxB ns = false) : boxR ns = [] := by unfold boxR; rw [h]; rfl
theorem boxR_yes {ns : List Nd} (h : boxB ns = true) : boxR ns = boxesL ns := by unfold boxR; rw [h]; rfl
set_option maxRecDepth 100000 in
set_option maxHeartbeats 8000000 in
theorem implBoxes_any (a : Option Addr) (cap : Nat) (ns : List Nd) (w : World) (hr : NdRow w a ns) (hl : ns.length ≤ 1048576) (hs : ∀ x ∈ ns, x.tx.size ≤ 1048576)
    (et : TypeId) (ev : Value) (he : w.cell? ⟨0, 0, none⟩ = some (.iface et ev)) :
    Calls Tryd.prog 11 #[.slice a ns.length cap] w fun e w' => ∃ v, e = .returned (.tuple #[v, .bool (boxB ns)]) ∧ OwnX w' w.heap.size v (boxR ns) ∧ Below w.heap.size w w' := by
  have GT := implTree_any a cap ns w hr hl hs et ev he
  obtain ⟨n, hn⟩ : ∃ n, n = ns.length := ⟨_, rfl⟩
  have HN : Hid (n = ns.length) := hn
  cases hT : treeB (okB true) styleB ns
  · have HB : Hid (boxB ns = false) := by show _ = _; unfold boxB; rw [hT]; rfl
    rw [hT] at GT
    rw [← hn] at GT ⊢
    clear hr hl hs he hn
    go_enter Tryd.func11, Tryd.ntmps11
    go_wp2_with fail
    refine GT.mono ?_
    rintro e w1 ⟨rfl, b1⟩
    go_wp2
    go_ret2
    exact ⟨_, by rw [HB.out]; rfl, by rw [boxR_no HB.out]; exact ownX_nil _ _, b1⟩
  rw [hT] at GT
  obtain ⟨⟨h1, h40⟩, _⟩ := treeB_parts hT
  obtain ⟨hns, hwh⟩ := ns_ok hT
  obtain ⟨b, off, rfl, hc⟩ : ∃ b off, a = some ⟨b, off, none⟩ ∧ ∀ i n, ns[i]? = some n → w.rangeAt b (off + i * 28) (ndL n) := by
    rcases hr with h | h
    · rw [h] at h1; simp at h1
    · exact h
  obtain ⟨y, hy⟩ : ∃ y, ns[0]? = some y := ⟨_, List.getElem?_eq_getElem (by omega)⟩
  have gD : ns.getD 0 nd0 = y := getD_of hy
  have hr0 := hc 0 y hy
  rw [Nat.zero_mul, Nat.add_zero] at hr0
  have lb := range_lt hr0
  have RS : Hid (∀ W, Below w.heap.size w W → W.rangeAt b (off + 2) (stCells y.st).toList) := by
    show ∀ W, _
    intro W hb j v hj
    have := range_below hr0 hb lb (2 + j) v (by rw [← hj, show (stCells y.st).toList = (ndL y).drop 2 from rfl, List.getElem?_drop])
    rwa [← Nat.add_assoc] at this
  have HND : Hid (∀ W B, w.heap.size ≤ B → Below w.heap.size w W → NdAt W B b off n ns) := by
    show ∀ W B, _
    intro W B hB hb
    exact ⟨Nat.lt_of_lt_of_le lb hB, HN.out, by rw [HN.out]; exact h40, fun i x hx => range_below (hc i x hx) hb (range_lt (hc i x hx))⟩
  have BK := fun W => boxKind_any y.st W
  rw [← hn] at GT h1 h40 ⊢
  clear hr hl hs he hn hc hr0
  by_cases hk : kindS y.st = 1
  rotate_left
  · have HB : Hid (boxB ns = false) := by show _ = _; unfold boxB; rw [gD]; simp [hk]
    generalize kindS y.st = kd at BK hk
    go_enter Tryd.func11, Tryd.ntmps11
    go_wp2_with fail
    refine GT.mono ?_
    rintro e w1 ⟨rfl, b1⟩
    have RS1 := RS.out w1 b1
    clear GT
    have hkb : (kd == 1) = false := by simpa using hk
    go_wp2_with (with_reducible show wpList _ _ _ (⟨some 13, Op.load 49 _, _, _, _, _⟩ :: _) _ _; refine wpList_load_midG ?qa1 49 _ rfl b (off + 2) ?qb1 (stCells y.st).toList _ RS1 Tryd.underlying49 rfl (by kernel_rfl) ?_)
    try (case qb1 => rfl)
    go_wp2_with fail
    refine (BK _).mono ?_
    rintro e w2 ⟨rfl, hb2⟩
    have b2 := b1.trans (hb2.mono b1.size)
    clear hb2 BK RS1
    go_wp2
    go_ret2
    exact ⟨_, by rw [HB.out]; rfl, by rw [boxR_no HB.out]; exact ownX_nil _ _, b2⟩
  have hroot : kindS (ns.getD 0 nd0).st = 1 := by rw [gD]; exact hk
  rw [hk] at BK
  have HRoot : Hid (kindS (ns.getD 0 nd0).st = 1) := hroot
  have HP : Hid (∀ k, k ≤ n → PsOk ns k (passP ns k)) := by show ∀ k, _; intro k hk; exact pass_ok hns k (by rw [← HN.out]; exact hk)
  have HBX : Hid (boxB ns = boxesOkP ns) := by show _ = _; unfold boxB; rw [hT, hroot]; rfl
  clear hroot hk
  go_enter Tryd.func11, Tryd.ntmps11
  go_wp2_with fail
  refine GT.mono ?_
  rintro e w1 ⟨rfl, b1⟩
  have RS1 := RS.out w1 b1
  clear GT
  go_wp2_with (with_reducible show wpList _ _ _ (⟨some 13, Op.load 49 _, _, _, _, _⟩ :: _) _ _; refine wpList_load_midG ?qa2 49 _ rfl b (off + 2) ?qb2 (stCells y.st).toList _ RS1 Tryd.underlying49 rfl (by kernel_rfl) ?_)
  try (case qb2 => rfl)
  go_wp2_with fail
  refine (BK _).mono ?_
  rintro e w2 ⟨rfl, hb2⟩
  have b2 := b1.trans (hb2.mono b1.size)
  clear hb2 BK RS1 b1
  go_wp2_with fail
  have G0 : Bg (w2.alloc (.cells #[.slice (some ⟨b, off, none⟩) n cap, .slice none 0 0, .slice none 0 0, .slice none 0 0, .int .i64 (-1)] 71)) w.heap.size w2.heap.size (.slice (some ⟨b, off, none⟩) n cap) (passP ns 0) (.slice none 0 0) (.slice none 0 0) (.slice none 0 0) :=
    ⟨b2.size, heap_at _ _ _ rfl, World.ownsRow_nil _ _ _ _, World.ownsRow_nil _ _ _ _, World.ownsRow_nil _ _ _ _⟩
  have b3 := b2.alloc b2.size (.cells #[.slice (some ⟨b, off, none⟩) n cap, .slice none 0 0, .slice none 0 0, .slice none 0 0, .int .i64 (-1)] 71)
  go_loopw [21] (fun i wr => ∃ k : Nat, k ≤ n ∧ i = .int .i64 k ∧ (passP ns k).ok = true ∧ (∃ vb vi vt, Bg wr w.heap.size w2.heap.size (.slice (some ⟨b, off, none⟩) n cap) (passP ns k) vb vi vt) ∧ Below w.heap.size w wr) (fun i _ => n - (intOf i).toNat)
  case atStart => exact ⟨0, Nat.zero_le _, rfl, rfl, ⟨_, _, _, G0⟩, b3⟩
  case round =>
    obtain ⟨k, hk, rfl, hok, ⟨vb, vi, vt, hG⟩, hbw⟩ := hrel
    have HG : Hid (Bg wr w.heap.size w2.heap.size (.slice (some ⟨b, off, none⟩) n cap) (passP ns k) vb vi vt) := hG
    clear G0 b3 hG
    by_cases hlt : k < n
    · have TA := take_any w.heap.size w2.heap.size k b off n cap ns (passP ns k) vb vi vt wr HG.out (HP.out k hk) hns hlt (HND.out wr w.heap.size (Nat.le_refl _) hbw) hwh hok HRoot.out
      have hpk : takeP ns (passP ns k) k = passP ns (k + 1) := rfl
      rw [hpk] at TA
      cases hno : (passP ns (k + 1)).ok
      · rw [hno] at TA
        have HB : Hid (boxB ns = false) := by show _ = _; rw [HBX.out]; unfold boxesOkP; rw [ok_le hno (by rw [← HN.out]; omega)]; rfl
        go_wp2_with fail
        refine TA.mono ?_
        rintro e w4 ⟨rfl, _, B4⟩
        have b4 := hbw.trans B4
        clear B4 hbw TA
        go_wp2
        go_ret2
        exact ⟨_, by rw [HB.out]; rfl, by rw [boxR_no HB.out]; exact ownX_nil _ _, b4⟩
      · rw [hno] at TA
        go_wp2_with fail
        refine TA.mono ?_
        rintro e w4 ⟨rfl, ⟨vb', vi', vt', G4⟩, B4⟩
        have b4 := hbw.trans B4
        have HG4 : Hid (Bg w4 w.heap.size w2.heap.size (.slice (some ⟨b, off, none⟩) n cap) (passP ns (k + 1)) vb' vi' vt') := G4
        clear B4 hbw TA G4
        go_wp2
        go_roundw
        case rel => exact ⟨k + 1, by omega, by go_num, hno, ⟨_, _, _, HG4.out⟩, b4⟩
        case measure => simp [intOf]; omega
    · have e : k = n := by omega
      subst e
      have ET := endText_any w.heap.size w2.heap.size k b off k cap ns (passP ns k) vb vi vt wr HG.out (HP.out k hk).w (Nat.le_refl _) (HND.out wr w.heap.size (Nat.le_refl _) hbw) hwh
      have HOE : Hid (boxB ns = endO (passP ns k)) := by show _ = _; rw [HBX.out]; unfold boxesOkP; rw [← HN.out, hok]; rfl
      have HLE : Hid (boxesL ns = endB ns (passP ns k)) := by show _ = _; unfold boxesL; rw [← HN.out]
      cases hE : endO (passP ns k)
      · rw [hE] at ET HOE
        go_wp2_with fail
        refine ET.mono ?_
        rintro e w4 ⟨rfl, _, B4⟩
        have b4 := hbw.trans B4
        clear B4 hbw ET
        go_wp2
        go_ret2
        exact ⟨_, by rw [HOE.out]; rfl, by rw [boxR_no HOE.out]; exact ownX_nil _ _, b4⟩
      · rw [hE] at ET HOE
        go_wp2_with fail
        refine ET.mono ?_
        rintro e w4 ⟨rfl, ⟨vb', vt', G4⟩, B4⟩
        have b4 := hbw.trans B4
        have c1 : w4.cell? ⟨w2.heap.size, 1, none⟩ = some vb' := (lies_cell G4.lies 1).trans rfl
        have O4 : OwnX w4 w.heap.size vb' (boxR ns) := by rw [boxR_yes HOE.out, HLE.out]; exact G4.ob
        clear B4 hbw ET G4
        go_wp2
        go_ret2
        exact ⟨_, by rw [HOE.out]; rfl, O4, b4⟩
end Go.Proofs.YtbphninknpfcmaaDoor
