/-
 The model's widths of blocks, whatever the numbers are.
 The model's widths of floats, whatever the numbers are.
-/
import Derived.Test.YtjnmloaopnbpgaaGreatDoorMg18
import Derived.Deep.DeepCutAuto
import Derived.Deep.CutBlock
namespace Go.Proofs.YtjnmloaopnbpgaaGreatDoor
open Go.ChangeShapes Go.WideShapes Go.ChangeAt Go.RowKit
set_option linter.unusedVariables false
/-- What stands while widths are reckoned. -/
def Sw (s:St) (w W:World):Prop:=Below w.heap.size w W ∧ W.heap[w.heap.size]? = some (.cells (stCells s) 73 (0,0)) ∧ W.heap[w.heap.size + 1]? = some (.cells (#[.int .i64 0,.int .i64 0,.int .i64 0]) 110 (0,0))
theorem Sw_call {s:St} {w W W':World} (h:Sw s w W) (hb:Below W.heap.size W W'):Sw s w W':=⟨h.1.trans (hb.mono h.1.size),below_lies hb h.2.1 (lies_lt h.2.1),below_lies hb h.2.2 (lies_lt h.2.2)⟩
theorem Sw_alloc {s:St} {w W:World} (h:Sw s w W) (o:Obj):Sw s w (W.alloc o):=⟨h.1.alloc h.1.size o,heap_in h.2.1,heap_in h.2.2⟩
theorem Sw_put {s:St} {w W W':World} {p:Nat} (h:Sw s w W) (hp:Put p W W') (hne:w.heap.size + 1 < p):Sw s w W':=⟨hp.below h.1 (by omega),hp.lies h.2.1 (by omega),hp.lies h.2.2 (by omega)⟩
theorem Sw_drew {s:St} {w W:World} (h:Sw s w W):Sw s w W.drew:=⟨h.1.drew,h.2.1,h.2.2⟩
theorem sw_start (s:St) (w:World):Sw s w ((w.alloc (.cells (stCells s) 73)).alloc (.cells #[.int .i64 0,.int .i64 0,.int .i64 0] 110)) :=
 ⟨((Below.refl _ _).alloc (Nat.le_refl _) _).alloc (by simp) _,heap_in (heap_at _ _ _ rfl),heap_at _ _ _ (by simp)⟩
theorem Sw_set {s:St} {w W:World} {p i:Nat} {v:Value} (h:Sw s w W) (hne:w.heap.size + 1 < p):Sw s w (W.setCell ⟨p,i,none⟩ v) :=
 ⟨h.1.setCell (p:=⟨p,i,none⟩) (by show w.heap.size ≤ p;omega) v,(Below.heap_setCell W ⟨p,i,none⟩ v _ (by show w.heap.size ≠ p;omega)).trans h.2.1,(Below.heap_setCell W ⟨p,i,none⟩ v _ (by show w.heap.size + 1 ≠ p;omega)).trans h.2.2⟩
/-- The reckoned widths lie in block g5. -/
def A5 (W:World) (g5:Nat) (a b c:Int):Prop:=W.heap[g5]? = some (.cells #[.int .i64 a,.int .i64 b,.int .i64 c] 110 (0,0))
theorem A5.call {W W':World} {g5:Nat} {a b c:Int} (h:A5 W g5 a b c) (hb:Below W.heap.size W W'):A5 W' g5 a b c:=below_lies hb h (lies_lt h)
theorem A5.set0 {W:World} {g5:Nat} {a b c:Int} (h:A5 W g5 a b c) (z:Int):A5 (W.setCell ⟨g5,0,none⟩ (.int .i64 z)) g5 z b c:=lies_set h
theorem A5.set1 {W:World} {g5:Nat} {a b c:Int} (h:A5 W g5 a b c) (z:Int):A5 (W.setCell ⟨g5,1,none⟩ (.int .i64 z)) g5 a z c:=lies_set h
theorem A5.cells {W:World} {g5:Nat} {a b c:Int} (h:A5 W g5 a b c):W.cell? ⟨g5,0,none⟩ = some (.int .i64 a) ∧ W.cell? ⟨g5,1,none⟩ = some (.int .i64 b) ∧ W.cell? ⟨g5,2,none⟩ = some (.int .i64 c) ∧ W.frozen? ⟨g5,0,none⟩ = false ∧ W.frozen? ⟨g5,1,none⟩ = false ∧ W.frozen? ⟨g5,2,none⟩ = false :=
 ⟨(lies_cell h 0).trans rfl,(lies_cell h 1).trans rfl,(lies_cell h 2).trans rfl,Lib.frozen_of_heap h 0,Lib.frozen_of_heap h 1,Lib.frozen_of_heap h 2⟩
/-- The cells of a style that widths are reckoned of. -/
theorem st_cells {s:St} {w W:World} (h:Sw s w W):W.cell? ⟨w.heap.size,16,none⟩ = some (.bool s.ml.a) ∧ W.cell? ⟨w.heap.size,12,none⟩ = some (.bool s.mr.a) ∧ W.cell? ⟨w.heap.size,3,none⟩ = some (.bool s.w.a) ∧ W.cell? ⟨w.heap.size,4,none⟩ = some (.bool s.w.p) ∧ W.cell? ⟨w.heap.size,5,none⟩ = some (.int .i64 s.w.n) ∧ W.cell? ⟨w.heap.size,9,none⟩ = some (.int .i64 s.mn) ∧ W.cell? ⟨w.heap.size,10,none⟩ = some (.int .i64 s.mx) :=
 ⟨(lies_cell h.2.1 16).trans rfl,(lies_cell h.2.1 12).trans rfl,(lies_cell h.2.1 3).trans rfl,(lies_cell h.2.1 4).trans rfl,(lies_cell h.2.1 5).trans rfl,(lies_cell h.2.1 9).trans rfl,(lies_cell h.2.1 10).trans rfl⟩
def AcrRet (e:Ending):Prop:=∃ a b c:Int,e = .returned (.agg #[.int .i64 a,.int .i64 b,.int .i64 c])
theorem acrRet (a b c:Int):AcrRet (.returned (.agg #[.int .i64 a,.int .i64 b,.int .i64 c])):=⟨a,b,c,rfl⟩
set_option maxRecDepth 1000000 in
set_option maxHeartbeats 20000000 in
theorem across_ret (s:St) (around:Int) (w:World):Calls Tryz.prog 56 #[.agg (stCells s),.int .i64 around] w fun e w'=>AcrRet e ∧ Below w.heap.size w w':=by
 have h0:=sw_start s w
 obtain ⟨W0,hW0⟩:∃ W,W = (w.alloc (.cells (stCells s) 73)).alloc (.cells #[.int .i64 0,.int .i64 0,.int .i64 0] 110):=⟨_,rfl⟩
 rw [← hW0] at h0
 have HW0:Hid (W0 = (w.alloc (.cells (stCells s) 73)).alloc (.cells #[.int .i64 0,.int .i64 0,.int .i64 0] 110)):=hW0
 clear hW0
 go_enter Tryz.func56,Tryz.ntmps56
 go_upto_region 1 with fail
 rw [← HW0.out]
 clear HW0
 go_cut [5] (fun p wx=>∃ (g5:Nat) (aL aR:Int),p = .pointer (some ⟨g5,0,none⟩) ∧ A5 wx g5 aL 0 aR ∧ w.heap.size + 1 < g5 ∧ Sw s w wx)
 case first =>
  refine wp_region_held_drew (S:=Sw s w) (by kernel_rfl) (Sw_drew h0) (fun hHeld=>?_)
  refine wpAnyH_take (i:=0) (oi:=⟨some 8,Op.fieldAddr 73 (.tmp 2) 10,0,"l6_width.go:27",#[],none⟩) (v:=.pointer (some ⟨w.heap.size,16,none⟩)) rfl (by kernel_rfl) (by kernel_rfl) (by kernel_rfl) (fun _ _ _ h=>h) (Or.inl ⟨by rfl,by intro wz hSw;go_simp⟩) hHeld ?_
  simp only [Act.put,List.setIfInBounds_toArray,List.set_cons_zero,List.set_cons_succ]
  refine wpAnyH_take (i:=1) (oi:=⟨some 9,Op.load 71 (.tmp 8),71,"l6_width.go:27",#[⟨0,.data⟩],none⟩) (v:=.agg #[.bool s.ml.a,.bool s.ml.p,.int .i64 s.ml.n]) rfl (by kernel_rfl) (by kernel_rfl) (by kernel_rfl) (fun _ _ _ h=>h) (yieldsIf_load_mid (by rfl) 71 _ rfl (w.heap.size) 16 rfl ([.bool s.ml.a,.bool s.ml.p,.int .i64 s.ml.n]) _ (fun wz hw=>range9 hw.2.1 16 (by rfl)) Tryz.underlying71 rfl (by kernel_rfl)) hHeld ?_
  simp only [Act.put,List.setIfInBounds_toArray,List.set_cons_zero,List.set_cons_succ]
  refine wpAnyH_take (i:=2) (oi:=⟨some 10,Op.move (.tmp 1),3,"l6_width.go:27",#[],none⟩) (v:=.int .i64 around) rfl (by kernel_rfl) (by kernel_rfl) (by kernel_rfl) (fun _ _ _ h=>h) (Or.inl ⟨by rfl,by intro wz hSw;go_simp⟩) hHeld ?_
  simp only [Act.put,List.setIfInBounds_toArray,List.set_cons_zero,List.set_cons_succ]
  refine wpAnyH_take (i:=4) (oi:=⟨some 12,Op.fieldAddr 73 (.tmp 2) 8,0,"l6_width.go:27",#[],none⟩) (v:=.pointer (some ⟨w.heap.size,12,none⟩)) rfl (by kernel_rfl) (by kernel_rfl) (by kernel_rfl) (fun _ _ _ h=>h) (Or.inl ⟨by rfl,by intro wz hSw;go_simp⟩) hHeld ?_
  simp only [Act.put,List.setIfInBounds_toArray,List.set_cons_zero,List.set_cons_succ]
  refine wpAnyH_take (i:=5) (oi:=⟨some 13,Op.load 71 (.tmp 12),71,"l6_width.go:27",#[⟨4,.data⟩],none⟩) (v:=.agg #[.bool s.mr.a,.bool s.mr.p,.int .i64 s.mr.n]) rfl (by kernel_rfl) (by kernel_rfl) (by kernel_rfl) (fun _ _ _ h=>h) (yieldsIf_load_mid (by rfl) 71 _ rfl (w.heap.size) 12 rfl ([.bool s.mr.a,.bool s.mr.p,.int .i64 s.mr.n]) _ (fun wz hw=>range9 hw.2.1 12 (by rfl)) Tryz.underlying71 rfl (by kernel_rfl)) hHeld ?_
  simp only [Act.put,List.setIfInBounds_toArray,List.set_cons_zero,List.set_cons_succ]
  refine wpAnyH_take (i:=6) (oi:=⟨some 14,Op.move (.tmp 1),3,"l6_width.go:27",#[],none⟩) (v:=.int .i64 around) rfl (by kernel_rfl) (by kernel_rfl) (by kernel_rfl) (fun _ _ _ h=>h) (Or.inl ⟨by rfl,by intro wz hSw;go_simp⟩) hHeld ?_
  simp only [Act.put,List.setIfInBounds_toArray,List.set_cons_zero,List.set_cons_succ]
  refine wpAnyH_ready (rs:=[3,9]) (by kernel_rfl) (by simp) ?_
  refine AllReadyH.cons (o:=⟨some 11,Op.call { callee:=Callee.value (Operand.func 78),args:=#[.tmp 9,.tmp 10],argTypes:=#[71,3] },3,"l6_width.go:27",#[⟨1,.data⟩,⟨2,.data⟩],none⟩) rfl (fun K hK=>?_) (AllReadyH.cons (o:=⟨some 5,Op.alloc 110,0,"l6_width.go:27",#[],none⟩) rfl (fun K hK=>?_) AllReadyH.nil)
  ·go_simp
   refine (size_some s.ml.a s.ml.p s.ml.n around _).mono ?_
   rintro e v1 ⟨⟨z1,rfl⟩,hb1⟩
   go_wp2_with fail
   refine hK.out _ _ (Sw_call hHeld hb1) (fun hH1=>?_)
   clear hK K
   try simp only [Act.put,List.setIfInBounds_toArray,List.set_cons_zero,List.set_cons_succ]
   refine wpAnyH_ready (rs:=[7,9]) (by kernel_rfl) (by simp) ?_
   refine AllReadyH.cons (o:=⟨some 15,Op.call { callee:=Callee.value (Operand.func 78),args:=#[.tmp 13,.tmp 14],argTypes:=#[71,3] },3,"l6_width.go:27",#[⟨5,.data⟩,⟨6,.data⟩,⟨3,.chain⟩],none⟩) rfl (fun K hK=>?_) (AllReadyH.cons (o:=⟨some 5,Op.alloc 110,0,"l6_width.go:27",#[],none⟩) rfl (fun K hK=>?_) AllReadyH.nil)
   ·go_simp
    refine (size_some s.mr.a s.mr.p s.mr.n around _).mono ?_
    rintro e v2 ⟨⟨z2,rfl⟩,hb2⟩
    go_wp2_with fail
    refine hK.out _ _ (Sw_call hH1 hb2) (fun hH2=>?_)
    clear hK K
    try simp only [Act.put,List.setIfInBounds_toArray,List.set_cons_zero,List.set_cons_succ]
    refine wpAnyH_take (i:=8) (oi:=⟨some 16,Op.build 110 #[(0,.tmp 11),(2,.tmp 15)],110,"l6_width.go:27",#[⟨3,.data⟩,⟨7,.data⟩],none⟩) (v:=.agg #[.int .i64 z1,.int .i64 0,.int .i64 z2]) rfl (by kernel_rfl) (by kernel_rfl) (by kernel_rfl) (fun _ _ _ h=>h) (Or.inl ⟨by rfl,by intro wz hSw;go_simp⟩) hH2 ?_
    simp only [Act.put,List.setIfInBounds_toArray,List.set_cons_zero,List.set_cons_succ]
    refine wpAnyH_ready (rs:=[9]) (by kernel_rfl) (by simp) ?_
    refine AllReadyH.cons (o:=⟨some 5,Op.alloc 110,0,"l6_width.go:27",#[],none⟩) rfl (fun K hK=>?_) AllReadyH.nil
    go_simp
    refine hK.out _ _ (Sw_alloc hH2 _) (fun hH3=>?_)
    clear hK K
    try simp only [Act.put,List.setIfInBounds_toArray,List.set_cons_zero,List.set_cons_succ]
    have f5:=heap_at (v2) (.cells (#[.int .i64 0,.int .i64 0,.int .i64 0]) 110) _ rfl
    have hf5:=lies_lt hH2.2.2
    refine wpAnyH_ready (rs:=[10]) (by kernel_rfl) (by simp) ?_
    refine AllReadyH.cons (o:=⟨none,Op.store 110 (.tmp 5) (.tmp 16),0,"l6_width.go:27",#[⟨9,.data⟩,⟨8,.data⟩,⟨7,.chain⟩,⟨0,.phase⟩,⟨1,.phase⟩,⟨2,.phase⟩,⟨3,.phase⟩,⟨4,.phase⟩,⟨5,.phase⟩,⟨6,.phase⟩,⟨7,.phase⟩,⟨8,.phase⟩,⟨9,.phase⟩],none⟩) rfl (fun K hK=>?_) AllReadyH.nil
    rw [if_pos (by rfl)]
    refine wp_put9 110 _ _ rfl rfl _ 0 3 [.int .i64 z1,.int .i64 0,.int .i64 z2] _ _ rfl rfl f5 rfl (by kernel_rfl) (by kernel_rfl) (by kernel_rfl) ?_
    intro v4 p9 l9
    have f5:=l9.trans (congrArg (fun c=>some (Obj.cells c 110 (0,0))) (show _ = (#[.int .i64 z1,.int .i64 0,.int .i64 z2]:Array Value) by kernel_rfl))
    refine hK.out _ _ (Sw_put hH3 p9 hf5) (fun hH4=>?_)
    clear hK K l9
    try simp only [Act.put,List.setIfInBounds_toArray,List.set_cons_zero,List.set_cons_succ]
    refine wpAnyH_done (by kernel_rfl) ?_ _
    have F5:=f5
    have HH:=hH4
    clear f5
    go_wp2_with fail
    go_meet
    case rel=>exact ⟨_,_,_,rfl,F5,hf5,HH⟩
   ·go_simp
    refine hK.out _ _ (Sw_alloc hH1 _) (fun hH5=>?_)
    clear hK K
    try simp only [Act.put,List.setIfInBounds_toArray,List.set_cons_zero,List.set_cons_succ]
    have f5:=heap_at (v1) (.cells (#[.int .i64 0,.int .i64 0,.int .i64 0]) 110) _ rfl
    have hf5:=lies_lt hH1.2.2
    refine wpAnyH_ready (rs:=[7]) (by kernel_rfl) (by simp) ?_
    refine AllReadyH.cons (o:=⟨some 15,Op.call { callee:=Callee.value (Operand.func 78),args:=#[.tmp 13,.tmp 14],argTypes:=#[71,3] },3,"l6_width.go:27",#[⟨5,.data⟩,⟨6,.data⟩,⟨3,.chain⟩],none⟩) rfl (fun K hK=>?_) AllReadyH.nil
    go_simp
    refine (size_some s.mr.a s.mr.p s.mr.n around _).mono ?_
    rintro e v6 ⟨⟨z6,rfl⟩,hb6⟩
    have f5:=below_lies hb6 f5 (lies_lt f5)
    go_wp2_with fail
    refine hK.out _ _ (Sw_call hH5 hb6) (fun hH6=>?_)
    clear hK K
    try simp only [Act.put,List.setIfInBounds_toArray,List.set_cons_zero,List.set_cons_succ]
    refine wpAnyH_take (i:=8) (oi:=⟨some 16,Op.build 110 #[(0,.tmp 11),(2,.tmp 15)],110,"l6_width.go:27",#[⟨3,.data⟩,⟨7,.data⟩],none⟩) (v:=.agg #[.int .i64 z1,.int .i64 0,.int .i64 z6]) rfl (by kernel_rfl) (by kernel_rfl) (by kernel_rfl) (fun _ _ _ h=>h) (Or.inl ⟨by rfl,by intro wz hSw;go_simp⟩) hH6 ?_
    simp only [Act.put,List.setIfInBounds_toArray,List.set_cons_zero,List.set_cons_succ]
    refine wpAnyH_ready (rs:=[10]) (by kernel_rfl) (by simp) ?_
    refine AllReadyH.cons (o:=⟨none,Op.store 110 (.tmp 5) (.tmp 16),0,"l6_width.go:27",#[⟨9,.data⟩,⟨8,.data⟩,⟨7,.chain⟩,⟨0,.phase⟩,⟨1,.phase⟩,⟨2,.phase⟩,⟨3,.phase⟩,⟨4,.phase⟩,⟨5,.phase⟩,⟨6,.phase⟩,⟨7,.phase⟩,⟨8,.phase⟩,⟨9,.phase⟩],none⟩) rfl (fun K hK=>?_) AllReadyH.nil
    rw [if_pos (by rfl)]
    refine wp_put9 110 _ _ rfl rfl _ 0 3 [.int .i64 z1,.int .i64 0,.int .i64 z6] _ _ rfl rfl f5 rfl (by kernel_rfl) (by kernel_rfl) (by kernel_rfl) ?_
    intro v7 p9 l9
    have f5:=l9.trans (congrArg (fun c=>some (Obj.cells c 110 (0,0))) (show _ = (#[.int .i64 z1,.int .i64 0,.int .i64 z6]:Array Value) by kernel_rfl))
    refine hK.out _ _ (Sw_put hH6 p9 hf5) (fun hH7=>?_)
    clear hK K l9
    try simp only [Act.put,List.setIfInBounds_toArray,List.set_cons_zero,List.set_cons_succ]
    refine wpAnyH_done (by kernel_rfl) ?_ _
    have F5:=f5
    have HH:=hH7
    clear f5
    go_wp2_with fail
    go_meet
    case rel=>exact ⟨_,_,_,rfl,F5,hf5,HH⟩
  ·go_simp
   refine hK.out _ _ (Sw_alloc hHeld _) (fun hH8=>?_)
   clear hK K
   try simp only [Act.put,List.setIfInBounds_toArray,List.set_cons_zero,List.set_cons_succ]
   have f5:=heap_at (W0.drew) (.cells (#[.int .i64 0,.int .i64 0,.int .i64 0]) 110) W0.heap.size rfl
   have hf5:w.heap.size + 1 < W0.heap.size:=lies_lt hHeld.2.2
   refine wpAnyH_ready (rs:=[3]) (by kernel_rfl) (by simp) ?_
   refine AllReadyH.cons (o:=⟨some 11,Op.call { callee:=Callee.value (Operand.func 78),args:=#[.tmp 9,.tmp 10],argTypes:=#[71,3] },3,"l6_width.go:27",#[⟨1,.data⟩,⟨2,.data⟩],none⟩) rfl (fun K hK=>?_) AllReadyH.nil
   go_simp
   refine (size_some s.ml.a s.ml.p s.ml.n around _).mono ?_
   rintro e v9 ⟨⟨z9,rfl⟩,hb9⟩
   have f5:=below_lies hb9 f5 (lies_lt f5)
   go_wp2_with fail
   refine hK.out _ _ (Sw_call hH8 hb9) (fun hH9=>?_)
   clear hK K
   try simp only [Act.put,List.setIfInBounds_toArray,List.set_cons_zero,List.set_cons_succ]
   refine wpAnyH_ready (rs:=[7]) (by kernel_rfl) (by simp) ?_
   refine AllReadyH.cons (o:=⟨some 15,Op.call { callee:=Callee.value (Operand.func 78),args:=#[.tmp 13,.tmp 14],argTypes:=#[71,3] },3,"l6_width.go:27",#[⟨5,.data⟩,⟨6,.data⟩,⟨3,.chain⟩],none⟩) rfl (fun K hK=>?_) AllReadyH.nil
   go_simp
   refine (size_some s.mr.a s.mr.p s.mr.n around _).mono ?_
   rintro e v10 ⟨⟨z10,rfl⟩,hb10⟩
   have f5:=below_lies hb10 f5 (lies_lt f5)
   go_wp2_with fail
   refine hK.out _ _ (Sw_call hH9 hb10) (fun hH10=>?_)
   clear hK K
   try simp only [Act.put,List.setIfInBounds_toArray,List.set_cons_zero,List.set_cons_succ]
   refine wpAnyH_take (i:=8) (oi:=⟨some 16,Op.build 110 #[(0,.tmp 11),(2,.tmp 15)],110,"l6_width.go:27",#[⟨3,.data⟩,⟨7,.data⟩],none⟩) (v:=.agg #[.int .i64 z9,.int .i64 0,.int .i64 z10]) rfl (by kernel_rfl) (by kernel_rfl) (by kernel_rfl) (fun _ _ _ h=>h) (Or.inl ⟨by rfl,by intro wz hSw;go_simp⟩) hH10 ?_
   simp only [Act.put,List.setIfInBounds_toArray,List.set_cons_zero,List.set_cons_succ]
   refine wpAnyH_ready (rs:=[10]) (by kernel_rfl) (by simp) ?_
   refine AllReadyH.cons (o:=⟨none,Op.store 110 (.tmp 5) (.tmp 16),0,"l6_width.go:27",#[⟨9,.data⟩,⟨8,.data⟩,⟨7,.chain⟩,⟨0,.phase⟩,⟨1,.phase⟩,⟨2,.phase⟩,⟨3,.phase⟩,⟨4,.phase⟩,⟨5,.phase⟩,⟨6,.phase⟩,⟨7,.phase⟩,⟨8,.phase⟩,⟨9,.phase⟩],none⟩) rfl (fun K hK=>?_) AllReadyH.nil
   rw [if_pos (by rfl)]
   refine wp_put9 110 _ _ rfl rfl _ 0 3 [.int .i64 z9,.int .i64 0,.int .i64 z10] _ _ rfl rfl f5 rfl (by kernel_rfl) (by kernel_rfl) (by kernel_rfl) ?_
   intro v11 p9 l9
   have f5:=l9.trans (congrArg (fun c=>some (Obj.cells c 110 (0,0))) (show _ = (#[.int .i64 z9,.int .i64 0,.int .i64 z10]:Array Value) by kernel_rfl))
   refine hK.out _ _ (Sw_put hH10 p9 hf5) (fun hH11=>?_)
   clear hK K l9
   try simp only [Act.put,List.setIfInBounds_toArray,List.set_cons_zero,List.set_cons_succ]
   refine wpAnyH_done (by kernel_rfl) ?_ _
   have F5:=f5
   have HH:=hH11
   clear f5
   go_wp2_with fail
   go_meet
   case rel=>exact ⟨_,_,_,rfl,F5,hf5,HH⟩
 case rest =>
  obtain ⟨g5,aL,aR,rfl,ha5,hg5,hsw⟩:=hcut
  have ES:=edge_some s
  clear h0
  go_wp2_with (first | ((with_reducible show wpList _ _ _ (⟨some 18,Op.load 73 _,_,_,_,_⟩ :: _) _ _);refine wpList_load_row rfl 73 _ rfl w.heap.size rfl _ (stCells s) _ _ hsw.2.1 Tryz.underlying73 rfl (by kernel_rfl) ?_) | fail)
  refine (ES _).mono ?_
  rintro e V1 ⟨⟨z1,rfl⟩,hb1⟩
  have s1:=Sw_call hsw hb1
  have a1:=ha5.call hb1
  obtain ⟨-,-,e3,e4,e5,-,-⟩:=st_cells s1
  have SZ:=size_some s.w.a s.w.p s.w.n around
  clear hsw ha5 hb1 ES
  go_wp2_with fail
  refine (SZ _).mono ?_
  rintro e V2 ⟨⟨z2,rfl⟩,hb2⟩
  have s2:=Sw_call s1 hb2
  have a2:=a1.call hb2
  clear s1 a1 hb2 e3 e4 e5 SZ
  obtain ⟨e16,e12,e3,e4,e5,e9,e10⟩:=st_cells s2
  obtain ⟨d0,d1,d2,f0,f1,f2⟩:=a2.cells
  have CLA:=clamp_ret
  go_upto_if 27 with fail
  generalize wrap64 (around - z1) = rest
  go_cut [7] (fun v wx=>∃ z:Int,v = .int .i64 z ∧ A5 wx g5 aL 0 aR ∧ Sw s w wx)
  case first =>
   cases hwa:s.w.a
   ·rw [hwa] at e3
    go_wp2_with fail
    go_meet
    case rel=>exact ⟨_,rfl,a2,s2⟩
   ·rw [hwa] at e3
    go_wp2_with fail
    refine (CLA _ _ _ _).mono ?_
    rintro e V3 ⟨⟨z3,rfl⟩,hw⟩
    have hw:=hw.symm
    subst hw
    go_wp2_with fail
    refine (CLA _ _ _ _).mono ?_
    rintro e V4 ⟨⟨z4,rfl⟩,hw⟩
    have hw:=hw.symm
    subst hw
    have SA:=fun v1 v2=>Sw_set (i:=2) (v:=v2) (Sw_set (i:=1) (v:=v1) s2 hg5) hg5
    by_cases hz:z4 = z3
    ·subst hz
     have hz:z4 = z4:=rfl
     clear hz
     go_wp2_with ((with_reducible show wpList _ _ _ (⟨none,Op.store 110 (Operand.tmp 4) (Operand.tmp 53),_,_,_,_⟩ :: _) _ _);refine wpList_putA rfl _ _ _ rfl rfl (w.heap.size + 1) 0 3 [.int .i64 aL,.int .i64 z4,.int .i64 (wrap64 (wrap64 (rest - aL) - z4))] #[.int .i64 0,.int .i64 0,.int .i64 0] 110 rfl (by go_simp) ((SA _ _).2.2) rfl (by kernel_rfl) (by kernel_rfl) (by kernel_rfl) ?_;intro w9 p9 l9 n9)
     exact bodyPost_ret (v:=.agg #[.int .i64 aL,.int .i64 z4,.int .i64 (wrap64 (wrap64 (rest - aL) - z4))]) (results_cell_row Tryz.results56 _ _ _ _ _ _ _ rfl l9 Tryz.underlying110 rfl (by kernel_rfl)) rfl ⟨acrRet _ _ _,p9.below ((SA _ _).1) (Nat.le_succ _)⟩
    ·have bz:(z4 == z3) = false:=by simpa using hz
     clear SA
     go_wp2_with fail
     go_meet
     case rel=>exact ⟨_,rfl,a2,s2⟩
  case rest =>
   obtain ⟨zw,rfl,ha6,hs6⟩:=hcut
   clear s2 a2 e16 e12 e3 e4 e5 e9 e10 d0 d1 d2 f0 f1 f2
   obtain ⟨e16,e12,e3,e4,e5,e9,e10⟩:=st_cells hs6
   obtain ⟨d0,d1,d2,f0,f1,f2⟩:=ha6.cells
   go_wp2_with fail
   refine (CLA _ _ _ _).mono ?_
   rintro e V7 ⟨⟨z7,rfl⟩,hw⟩
   have hw:=hw.symm
   subst hw
   have s8:=Sw_set (i:=1) (v:=.int .i64 z7) hs6 hg5
   have a8:=ha6.set1 z7
   have n1:g5 ≠ w.heap.size:=by omega
   have n2:w.heap.size ≠ g5:=by omega
   go_upto_block 0 with fail
   generalize wc.setCell ⟨g5,1,none⟩ (.int .i64 z7) = V8 at s8 a8 ⊢
   generalize wrap64 (rest - z7) = r2
   clear e16 e12 e3 e4 e5 e9 e10 d0 d1 d2 f0 f1 f2 hs6 ha6
   obtain ⟨e16,e12,-⟩:=st_cells s8
   obtain ⟨d0,d1,d2,f0,f1,f2⟩:=a8.cells
   go_cut [] (fun wx=>∃ a10:Int,A5 wx g5 a10 z7 aR ∧ Sw s w wx)
   case first =>
    have SB0:=fun v=>Sw_set (i:=0) (v:=v) s8 hg5
    have AB0:=a8.set0
    cases hl:s.ml.a
    ·rw [hl] at e16
     go_wp2_with fail
     go_meet
     case rel=>exact ⟨_,a8,s8⟩
    ·rw [hl] at e16
     cases hr:s.mr.a
     ·rw [hr] at e12
      by_cases hz:aR ≤ r2
      ·go_wp2_with fail
       go_meet
       case rel=>exact ⟨_,AB0 _,SB0 _⟩
      ·go_wp2_with fail
       go_meet
       case rel=>exact ⟨_,a8,s8⟩
     ·rw [hr] at e12
      by_cases hz:0 ≤ r2
      ·go_wp2_with fail
       refine (down2_some _ _).mono ?_
       rintro e V9 ⟨⟨z9,rfl⟩,hw⟩
       have hw:=hw.symm
       subst hw
       go_wp2_with fail
       go_meet
       case rel=>exact ⟨_,AB0 _,SB0 _⟩
      ·go_wp2_with fail
       go_meet
       case rel=>exact ⟨_,a8,s8⟩
   case rest =>
    obtain ⟨a10,ha10,hs10⟩:=hcut
    clear s8 a8 e16 e12 d0 d1 d2 f0 f1 f2
    obtain ⟨d0,d1,d2,f0,f1,f2⟩:=ha10.cells
    have SB:=fun v=>Sw_set (i:=2) (v:=v) hs10 hg5
    go_wp2_with ((with_reducible show wpList _ _ _ (⟨none,Op.store 110 (Operand.tmp 4) (Operand.tmp 107),_,_,_,_⟩ :: _) _ _);refine wpList_putA rfl _ _ _ rfl rfl (w.heap.size + 1) 0 3 [.int .i64 a10,.int .i64 z7,.int .i64 (wrap64 (r2 - a10))] #[.int .i64 0,.int .i64 0,.int .i64 0] 110 rfl (by go_simp) ((SB _).2.2) rfl (by kernel_rfl) (by kernel_rfl) (by kernel_rfl) ?_;intro w9 p9 l9 n9)
    exact bodyPost_ret (v:=.agg #[.int .i64 a10,.int .i64 z7,.int .i64 (wrap64 (r2 - a10))]) (results_cell_row Tryz.results56 _ _ _ _ _ _ _ rfl l9 Tryz.underlying110 rfl (by kernel_rfl)) rfl ⟨acrRet _ _ _,p9.below ((SB _).1) (Nat.le_succ _)⟩
theorem across_some:AcrossOk:=fun s a w=>(across_ret s a w).mono fun e w' ⟨⟨x,y,z,h⟩,hb⟩=>⟨x,y,z,h,hb⟩
def Sb (s:St) (w:World) (g9:Nat) (aL aR:Int) (W:World):Prop:=Sw s w W ∧ w.heap.size + 1 < g9 ∧ ∃ b,A5 W g9 aL b aR
theorem Sb_call {s:St} {w W W':World} {g9:Nat} {aL aR:Int} (h:Sb s w g9 aL aR W) (hb:Below W.heap.size W W'):Sb s w g9 aL aR W':=⟨Sw_call h.1 hb,h.2.1,h.2.2.elim fun b hb'=>⟨b,A5.call hb' hb⟩⟩
theorem Sb_set {s:St} {w W:World} {g9:Nat} {aL aR:Int} (h:Sb s w g9 aL aR W) (z:Int):Sb s w g9 aL aR (W.setCell ⟨g9,1,none⟩ (.int .i64 z)):=⟨Sw_set h.1 h.2.1,h.2.1,h.2.2.elim fun b hb'=>⟨z,A5.set1 hb' z⟩⟩
theorem Sb_drew {s:St} {w W:World} {g9:Nat} {aL aR:Int} (h:Sb s w g9 aL aR W):Sb s w g9 aL aR W.drew:=⟨Sw_drew h.1,h.2.1,h.2.2⟩
set_option maxRecDepth 1000000 in
set_option maxHeartbeats 20000000 in
theorem float_ret (s:St) (around:Int) (nar wid:Int) (w:World):Calls Tryz.prog 92 #[.agg (stCells s),.int .i64 around,.int .i64 nar,.int .i64 wid] w fun e w'=>AcrRet e ∧ Below w.heap.size w w':=by
 have h0:=sw_start s w
 obtain ⟨W0,hW0⟩:∃ W,W = (w.alloc (.cells (stCells s) 73)).alloc (.cells #[.int .i64 0,.int .i64 0,.int .i64 0] 110):=⟨_,rfl⟩
 rw [← hW0] at h0
 have HW0:Hid (W0 = (w.alloc (.cells (stCells s) 73)).alloc (.cells #[.int .i64 0,.int .i64 0,.int .i64 0] 110)):=hW0
 clear hW0
 go_enter Tryz.func92,Tryz.ntmps92
 go_upto_region 1 with fail
 rw [← HW0.out]
 clear HW0
 go_cut [9] (fun p wx=>∃ (g9:Nat) (aL b aR:Int),p = .pointer (some ⟨g9,0,none⟩) ∧ A5 wx g9 aL b aR ∧ w.heap.size + 1 < g9 ∧ Sw s w wx)
 case first =>
  refine wp_region_held_drew (S:=Sw s w) (by kernel_rfl) (Sw_drew h0) (fun hHeld=>?_)
  refine wpAnyH_take (i:=0) (oi:=⟨some 10,Op.fieldAddr 73 (.tmp 4) 10,0,"l6_width.go:67",#[],none⟩) (v:=.pointer (some ⟨w.heap.size,16,none⟩)) rfl (by kernel_rfl) (by kernel_rfl) (by kernel_rfl) (fun _ _ _ h=>h) (Or.inl ⟨by rfl,by intro wz hSw;go_simp⟩) hHeld ?_
  simp only [Act.put,List.setIfInBounds_toArray,List.set_cons_zero,List.set_cons_succ]
  refine wpAnyH_take (i:=1) (oi:=⟨some 11,Op.load 71 (.tmp 10),71,"l6_width.go:67",#[⟨0,.data⟩],none⟩) (v:=.agg #[.bool s.ml.a,.bool s.ml.p,.int .i64 s.ml.n]) rfl (by kernel_rfl) (by kernel_rfl) (by kernel_rfl) (fun _ _ _ h=>h) (yieldsIf_load_mid (by rfl) 71 _ rfl (w.heap.size) 16 rfl ([.bool s.ml.a,.bool s.ml.p,.int .i64 s.ml.n]) _ (fun wz hw=>range9 hw.2.1 16 (by rfl)) Tryz.underlying71 rfl (by kernel_rfl)) hHeld ?_
  simp only [Act.put,List.setIfInBounds_toArray,List.set_cons_zero,List.set_cons_succ]
  refine wpAnyH_take (i:=2) (oi:=⟨some 12,Op.move (.tmp 1),3,"l6_width.go:67",#[],none⟩) (v:=.int .i64 around) rfl (by kernel_rfl) (by kernel_rfl) (by kernel_rfl) (fun _ _ _ h=>h) (Or.inl ⟨by rfl,by intro wz hSw;go_simp⟩) hHeld ?_
  simp only [Act.put,List.setIfInBounds_toArray,List.set_cons_zero,List.set_cons_succ]
  refine wpAnyH_take (i:=4) (oi:=⟨some 14,Op.fieldAddr 73 (.tmp 4) 8,0,"l6_width.go:67",#[],none⟩) (v:=.pointer (some ⟨w.heap.size,12,none⟩)) rfl (by kernel_rfl) (by kernel_rfl) (by kernel_rfl) (fun _ _ _ h=>h) (Or.inl ⟨by rfl,by intro wz hSw;go_simp⟩) hHeld ?_
  simp only [Act.put,List.setIfInBounds_toArray,List.set_cons_zero,List.set_cons_succ]
  refine wpAnyH_take (i:=5) (oi:=⟨some 15,Op.load 71 (.tmp 14),71,"l6_width.go:67",#[⟨4,.data⟩],none⟩) (v:=.agg #[.bool s.mr.a,.bool s.mr.p,.int .i64 s.mr.n]) rfl (by kernel_rfl) (by kernel_rfl) (by kernel_rfl) (fun _ _ _ h=>h) (yieldsIf_load_mid (by rfl) 71 _ rfl (w.heap.size) 12 rfl ([.bool s.mr.a,.bool s.mr.p,.int .i64 s.mr.n]) _ (fun wz hw=>range9 hw.2.1 12 (by rfl)) Tryz.underlying71 rfl (by kernel_rfl)) hHeld ?_
  simp only [Act.put,List.setIfInBounds_toArray,List.set_cons_zero,List.set_cons_succ]
  refine wpAnyH_take (i:=6) (oi:=⟨some 16,Op.move (.tmp 1),3,"l6_width.go:67",#[],none⟩) (v:=.int .i64 around) rfl (by kernel_rfl) (by kernel_rfl) (by kernel_rfl) (fun _ _ _ h=>h) (Or.inl ⟨by rfl,by intro wz hSw;go_simp⟩) hHeld ?_
  simp only [Act.put,List.setIfInBounds_toArray,List.set_cons_zero,List.set_cons_succ]
  refine wpAnyH_take (i:=8) (oi:=⟨some 18,Op.fieldAddr 73 (.tmp 4) 3,0,"l6_width.go:67",#[],none⟩) (v:=.pointer (some ⟨w.heap.size,3,none⟩)) rfl (by kernel_rfl) (by kernel_rfl) (by kernel_rfl) (fun _ _ _ h=>h) (Or.inl ⟨by rfl,by intro wz hSw;go_simp⟩) hHeld ?_
  simp only [Act.put,List.setIfInBounds_toArray,List.set_cons_zero,List.set_cons_succ]
  refine wpAnyH_take (i:=9) (oi:=⟨some 19,Op.load 71 (.tmp 18),71,"l6_width.go:67",#[⟨8,.data⟩],none⟩) (v:=.agg #[.bool s.w.a,.bool s.w.p,.int .i64 s.w.n]) rfl (by kernel_rfl) (by kernel_rfl) (by kernel_rfl) (fun _ _ _ h=>h) (yieldsIf_load_mid (by rfl) 71 _ rfl (w.heap.size) 3 rfl ([.bool s.w.a,.bool s.w.p,.int .i64 s.w.n]) _ (fun wz hw=>range9 hw.2.1 3 (by rfl)) Tryz.underlying71 rfl (by kernel_rfl)) hHeld ?_
  simp only [Act.put,List.setIfInBounds_toArray,List.set_cons_zero,List.set_cons_succ]
  refine wpAnyH_take (i:=10) (oi:=⟨some 20,Op.move (.tmp 1),3,"l6_width.go:67",#[],none⟩) (v:=.int .i64 around) rfl (by kernel_rfl) (by kernel_rfl) (by kernel_rfl) (fun _ _ _ h=>h) (Or.inl ⟨by rfl,by intro wz hSw;go_simp⟩) hHeld ?_
  simp only [Act.put,List.setIfInBounds_toArray,List.set_cons_zero,List.set_cons_succ]
  refine wpAnyH_ready (rs:=[3,13]) (by kernel_rfl) (by simp) ?_
  refine AllReadyH.cons (o:=⟨some 13,Op.call { callee:=Callee.value (Operand.func 78),args:=#[.tmp 11,.tmp 12],argTypes:=#[71,3] },3,"l6_width.go:67",#[⟨1,.data⟩,⟨2,.data⟩],none⟩) rfl (fun K hK=>?_) (AllReadyH.cons (o:=⟨some 9,Op.alloc 110,0,"l6_width.go:67",#[],none⟩) rfl (fun K hK=>?_) AllReadyH.nil)
  ·go_simp
   refine (size_some s.ml.a s.ml.p s.ml.n around _).mono ?_
   rintro e v1 ⟨⟨z1,rfl⟩,hb1⟩
   go_wp2_with fail
   refine hK.out _ _ (Sw_call hHeld hb1) (fun hH1=>?_)
   clear hK K
   try simp only [Act.put,List.setIfInBounds_toArray,List.set_cons_zero,List.set_cons_succ]
   refine wpAnyH_ready (rs:=[7,13]) (by kernel_rfl) (by simp) ?_
   refine AllReadyH.cons (o:=⟨some 17,Op.call { callee:=Callee.value (Operand.func 78),args:=#[.tmp 15,.tmp 16],argTypes:=#[71,3] },3,"l6_width.go:67",#[⟨5,.data⟩,⟨6,.data⟩,⟨3,.chain⟩],none⟩) rfl (fun K hK=>?_) (AllReadyH.cons (o:=⟨some 9,Op.alloc 110,0,"l6_width.go:67",#[],none⟩) rfl (fun K hK=>?_) AllReadyH.nil)
   ·go_simp
    refine (size_some s.mr.a s.mr.p s.mr.n around _).mono ?_
    rintro e v2 ⟨⟨z2,rfl⟩,hb2⟩
    go_wp2_with fail
    refine hK.out _ _ (Sw_call hH1 hb2) (fun hH2=>?_)
    clear hK K
    try simp only [Act.put,List.setIfInBounds_toArray,List.set_cons_zero,List.set_cons_succ]
    refine wpAnyH_ready (rs:=[11,13]) (by kernel_rfl) (by simp) ?_
    refine AllReadyH.cons (o:=⟨some 21,Op.call { callee:=Callee.value (Operand.func 78),args:=#[.tmp 19,.tmp 20],argTypes:=#[71,3] },3,"l6_width.go:67",#[⟨9,.data⟩,⟨10,.data⟩,⟨7,.chain⟩],none⟩) rfl (fun K hK=>?_) (AllReadyH.cons (o:=⟨some 9,Op.alloc 110,0,"l6_width.go:67",#[],none⟩) rfl (fun K hK=>?_) AllReadyH.nil)
    ·go_simp
     refine (size_some s.w.a s.w.p s.w.n around _).mono ?_
     rintro e v3 ⟨⟨z3,rfl⟩,hb3⟩
     go_wp2_with fail
     refine hK.out _ _ (Sw_call hH2 hb3) (fun hH3=>?_)
     clear hK K
     try simp only [Act.put,List.setIfInBounds_toArray,List.set_cons_zero,List.set_cons_succ]
     refine wpAnyH_take (i:=12) (oi:=⟨some 22,Op.build 110 #[(0,.tmp 13),(2,.tmp 17),(1,.tmp 21)],110,"l6_width.go:67",#[⟨3,.data⟩,⟨7,.data⟩,⟨11,.data⟩],none⟩) (v:=.agg #[.int .i64 z1,.int .i64 z3,.int .i64 z2]) rfl (by kernel_rfl) (by kernel_rfl) (by kernel_rfl) (fun _ _ _ h=>h) (Or.inl ⟨by rfl,by intro wz hSw;go_simp⟩) hH3 ?_
     simp only [Act.put,List.setIfInBounds_toArray,List.set_cons_zero,List.set_cons_succ]
     refine wpAnyH_ready (rs:=[13]) (by kernel_rfl) (by simp) ?_
     refine AllReadyH.cons (o:=⟨some 9,Op.alloc 110,0,"l6_width.go:67",#[],none⟩) rfl (fun K hK=>?_) AllReadyH.nil
     go_simp
     refine hK.out _ _ (Sw_alloc hH3 _) (fun hH4=>?_)
     clear hK K
     try simp only [Act.put,List.setIfInBounds_toArray,List.set_cons_zero,List.set_cons_succ]
     have f5:=heap_at (v3) (.cells (#[.int .i64 0,.int .i64 0,.int .i64 0]) 110) _ rfl
     have hf5:=lies_lt hH3.2.2
     refine wpAnyH_ready (rs:=[14]) (by kernel_rfl) (by simp) ?_
     refine AllReadyH.cons (o:=⟨none,Op.store 110 (.tmp 9) (.tmp 22),0,"l6_width.go:67",#[⟨13,.data⟩,⟨12,.data⟩,⟨11,.chain⟩,⟨0,.phase⟩,⟨1,.phase⟩,⟨2,.phase⟩,⟨3,.phase⟩,⟨4,.phase⟩,⟨5,.phase⟩,⟨6,.phase⟩,⟨7,.phase⟩,⟨8,.phase⟩,⟨9,.phase⟩,⟨10,.phase⟩,⟨11,.phase⟩,⟨12,.phase⟩,⟨13,.phase⟩],none⟩) rfl (fun K hK=>?_) AllReadyH.nil
     rw [if_pos (by rfl)]
     refine wp_put9 110 _ _ rfl rfl _ 0 3 [.int .i64 z1,.int .i64 z3,.int .i64 z2] _ _ rfl rfl f5 rfl (by kernel_rfl) (by kernel_rfl) (by kernel_rfl) ?_
     intro v5 p9 l9
     have f5:=l9.trans (congrArg (fun c=>some (Obj.cells c 110 (0,0))) (show _ = (#[.int .i64 z1,.int .i64 z3,.int .i64 z2]:Array Value) by kernel_rfl))
     refine hK.out _ _ (Sw_put hH4 p9 hf5) (fun hH5=>?_)
     clear hK K l9
     try simp only [Act.put,List.setIfInBounds_toArray,List.set_cons_zero,List.set_cons_succ]
     refine wpAnyH_done (by kernel_rfl) ?_ _
     have F5:=f5
     have HH:=hH5
     clear f5
     go_wp2_with fail
     go_meet
     case rel=>exact ⟨_,_,_,_,rfl,F5,hf5,HH⟩
    ·go_simp
     refine hK.out _ _ (Sw_alloc hH2 _) (fun hH6=>?_)
     clear hK K
     try simp only [Act.put,List.setIfInBounds_toArray,List.set_cons_zero,List.set_cons_succ]
     have f5:=heap_at (v2) (.cells (#[.int .i64 0,.int .i64 0,.int .i64 0]) 110) _ rfl
     have hf5:=lies_lt hH2.2.2
     refine wpAnyH_ready (rs:=[11]) (by kernel_rfl) (by simp) ?_
     refine AllReadyH.cons (o:=⟨some 21,Op.call { callee:=Callee.value (Operand.func 78),args:=#[.tmp 19,.tmp 20],argTypes:=#[71,3] },3,"l6_width.go:67",#[⟨9,.data⟩,⟨10,.data⟩,⟨7,.chain⟩],none⟩) rfl (fun K hK=>?_) AllReadyH.nil
     go_simp
     refine (size_some s.w.a s.w.p s.w.n around _).mono ?_
     rintro e v7 ⟨⟨z7,rfl⟩,hb7⟩
     have f5:=below_lies hb7 f5 (lies_lt f5)
     go_wp2_with fail
     refine hK.out _ _ (Sw_call hH6 hb7) (fun hH7=>?_)
     clear hK K
     try simp only [Act.put,List.setIfInBounds_toArray,List.set_cons_zero,List.set_cons_succ]
     refine wpAnyH_take (i:=12) (oi:=⟨some 22,Op.build 110 #[(0,.tmp 13),(2,.tmp 17),(1,.tmp 21)],110,"l6_width.go:67",#[⟨3,.data⟩,⟨7,.data⟩,⟨11,.data⟩],none⟩) (v:=.agg #[.int .i64 z1,.int .i64 z7,.int .i64 z2]) rfl (by kernel_rfl) (by kernel_rfl) (by kernel_rfl) (fun _ _ _ h=>h) (Or.inl ⟨by rfl,by intro wz hSw;go_simp⟩) hH7 ?_
     simp only [Act.put,List.setIfInBounds_toArray,List.set_cons_zero,List.set_cons_succ]
     refine wpAnyH_ready (rs:=[14]) (by kernel_rfl) (by simp) ?_
     refine AllReadyH.cons (o:=⟨none,Op.store 110 (.tmp 9) (.tmp 22),0,"l6_width.go:67",#[⟨13,.data⟩,⟨12,.data⟩,⟨11,.chain⟩,⟨0,.phase⟩,⟨1,.phase⟩,⟨2,.phase⟩,⟨3,.phase⟩,⟨4,.phase⟩,⟨5,.phase⟩,⟨6,.phase⟩,⟨7,.phase⟩,⟨8,.phase⟩,⟨9,.phase⟩,⟨10,.phase⟩,⟨11,.phase⟩,⟨12,.phase⟩,⟨13,.phase⟩],none⟩) rfl (fun K hK=>?_) AllReadyH.nil
     rw [if_pos (by rfl)]
     refine wp_put9 110 _ _ rfl rfl _ 0 3 [.int .i64 z1,.int .i64 z7,.int .i64 z2] _ _ rfl rfl f5 rfl (by kernel_rfl) (by kernel_rfl) (by kernel_rfl) ?_
     intro v8 p9 l9
     have f5:=l9.trans (congrArg (fun c=>some (Obj.cells c 110 (0,0))) (show _ = (#[.int .i64 z1,.int .i64 z7,.int .i64 z2]:Array Value) by kernel_rfl))
     refine hK.out _ _ (Sw_put hH7 p9 hf5) (fun hH8=>?_)
     clear hK K l9
     try simp only [Act.put,List.setIfInBounds_toArray,List.set_cons_zero,List.set_cons_succ]
     refine wpAnyH_done (by kernel_rfl) ?_ _
     have F5:=f5
     have HH:=hH8
     clear f5
     go_wp2_with fail
     go_meet
     case rel=>exact ⟨_,_,_,_,rfl,F5,hf5,HH⟩
   ·go_simp
    refine hK.out _ _ (Sw_alloc hH1 _) (fun hH9=>?_)
    clear hK K
    try simp only [Act.put,List.setIfInBounds_toArray,List.set_cons_zero,List.set_cons_succ]
    have f5:=heap_at (v1) (.cells (#[.int .i64 0,.int .i64 0,.int .i64 0]) 110) _ rfl
    have hf5:=lies_lt hH1.2.2
    refine wpAnyH_ready (rs:=[7]) (by kernel_rfl) (by simp) ?_
    refine AllReadyH.cons (o:=⟨some 17,Op.call { callee:=Callee.value (Operand.func 78),args:=#[.tmp 15,.tmp 16],argTypes:=#[71,3] },3,"l6_width.go:67",#[⟨5,.data⟩,⟨6,.data⟩,⟨3,.chain⟩],none⟩) rfl (fun K hK=>?_) AllReadyH.nil
    go_simp
    refine (size_some s.mr.a s.mr.p s.mr.n around _).mono ?_
    rintro e v10 ⟨⟨z10,rfl⟩,hb10⟩
    have f5:=below_lies hb10 f5 (lies_lt f5)
    go_wp2_with fail
    refine hK.out _ _ (Sw_call hH9 hb10) (fun hH10=>?_)
    clear hK K
    try simp only [Act.put,List.setIfInBounds_toArray,List.set_cons_zero,List.set_cons_succ]
    refine wpAnyH_ready (rs:=[11]) (by kernel_rfl) (by simp) ?_
    refine AllReadyH.cons (o:=⟨some 21,Op.call { callee:=Callee.value (Operand.func 78),args:=#[.tmp 19,.tmp 20],argTypes:=#[71,3] },3,"l6_width.go:67",#[⟨9,.data⟩,⟨10,.data⟩,⟨7,.chain⟩],none⟩) rfl (fun K hK=>?_) AllReadyH.nil
    go_simp
    refine (size_some s.w.a s.w.p s.w.n around _).mono ?_
    rintro e v11 ⟨⟨z11,rfl⟩,hb11⟩
    have f5:=below_lies hb11 f5 (lies_lt f5)
    go_wp2_with fail
    refine hK.out _ _ (Sw_call hH10 hb11) (fun hH11=>?_)
    clear hK K
    try simp only [Act.put,List.setIfInBounds_toArray,List.set_cons_zero,List.set_cons_succ]
    refine wpAnyH_take (i:=12) (oi:=⟨some 22,Op.build 110 #[(0,.tmp 13),(2,.tmp 17),(1,.tmp 21)],110,"l6_width.go:67",#[⟨3,.data⟩,⟨7,.data⟩,⟨11,.data⟩],none⟩) (v:=.agg #[.int .i64 z1,.int .i64 z11,.int .i64 z10]) rfl (by kernel_rfl) (by kernel_rfl) (by kernel_rfl) (fun _ _ _ h=>h) (Or.inl ⟨by rfl,by intro wz hSw;go_simp⟩) hH11 ?_
    simp only [Act.put,List.setIfInBounds_toArray,List.set_cons_zero,List.set_cons_succ]
    refine wpAnyH_ready (rs:=[14]) (by kernel_rfl) (by simp) ?_
    refine AllReadyH.cons (o:=⟨none,Op.store 110 (.tmp 9) (.tmp 22),0,"l6_width.go:67",#[⟨13,.data⟩,⟨12,.data⟩,⟨11,.chain⟩,⟨0,.phase⟩,⟨1,.phase⟩,⟨2,.phase⟩,⟨3,.phase⟩,⟨4,.phase⟩,⟨5,.phase⟩,⟨6,.phase⟩,⟨7,.phase⟩,⟨8,.phase⟩,⟨9,.phase⟩,⟨10,.phase⟩,⟨11,.phase⟩,⟨12,.phase⟩,⟨13,.phase⟩],none⟩) rfl (fun K hK=>?_) AllReadyH.nil
    rw [if_pos (by rfl)]
    refine wp_put9 110 _ _ rfl rfl _ 0 3 [.int .i64 z1,.int .i64 z11,.int .i64 z10] _ _ rfl rfl f5 rfl (by kernel_rfl) (by kernel_rfl) (by kernel_rfl) ?_
    intro v12 p9 l9
    have f5:=l9.trans (congrArg (fun c=>some (Obj.cells c 110 (0,0))) (show _ = (#[.int .i64 z1,.int .i64 z11,.int .i64 z10]:Array Value) by kernel_rfl))
    refine hK.out _ _ (Sw_put hH11 p9 hf5) (fun hH12=>?_)
    clear hK K l9
    try simp only [Act.put,List.setIfInBounds_toArray,List.set_cons_zero,List.set_cons_succ]
    refine wpAnyH_done (by kernel_rfl) ?_ _
    have F5:=f5
    have HH:=hH12
    clear f5
    go_wp2_with fail
    go_meet
    case rel=>exact ⟨_,_,_,_,rfl,F5,hf5,HH⟩
  ·go_simp
   refine hK.out _ _ (Sw_alloc hHeld _) (fun hH13=>?_)
   clear hK K
   try simp only [Act.put,List.setIfInBounds_toArray,List.set_cons_zero,List.set_cons_succ]
   have f5:=heap_at (W0.drew) (.cells (#[.int .i64 0,.int .i64 0,.int .i64 0]) 110) W0.heap.size rfl
   have hf5:w.heap.size + 1 < W0.heap.size:=lies_lt hHeld.2.2
   refine wpAnyH_ready (rs:=[3]) (by kernel_rfl) (by simp) ?_
   refine AllReadyH.cons (o:=⟨some 13,Op.call { callee:=Callee.value (Operand.func 78),args:=#[.tmp 11,.tmp 12],argTypes:=#[71,3] },3,"l6_width.go:67",#[⟨1,.data⟩,⟨2,.data⟩],none⟩) rfl (fun K hK=>?_) AllReadyH.nil
   go_simp
   refine (size_some s.ml.a s.ml.p s.ml.n around _).mono ?_
   rintro e v14 ⟨⟨z14,rfl⟩,hb14⟩
   have f5:=below_lies hb14 f5 (lies_lt f5)
   go_wp2_with fail
   refine hK.out _ _ (Sw_call hH13 hb14) (fun hH14=>?_)
   clear hK K
   try simp only [Act.put,List.setIfInBounds_toArray,List.set_cons_zero,List.set_cons_succ]
   refine wpAnyH_ready (rs:=[7]) (by kernel_rfl) (by simp) ?_
   refine AllReadyH.cons (o:=⟨some 17,Op.call { callee:=Callee.value (Operand.func 78),args:=#[.tmp 15,.tmp 16],argTypes:=#[71,3] },3,"l6_width.go:67",#[⟨5,.data⟩,⟨6,.data⟩,⟨3,.chain⟩],none⟩) rfl (fun K hK=>?_) AllReadyH.nil
   go_simp
   refine (size_some s.mr.a s.mr.p s.mr.n around _).mono ?_
   rintro e v15 ⟨⟨z15,rfl⟩,hb15⟩
   have f5:=below_lies hb15 f5 (lies_lt f5)
   go_wp2_with fail
   refine hK.out _ _ (Sw_call hH14 hb15) (fun hH15=>?_)
   clear hK K
   try simp only [Act.put,List.setIfInBounds_toArray,List.set_cons_zero,List.set_cons_succ]
   refine wpAnyH_ready (rs:=[11]) (by kernel_rfl) (by simp) ?_
   refine AllReadyH.cons (o:=⟨some 21,Op.call { callee:=Callee.value (Operand.func 78),args:=#[.tmp 19,.tmp 20],argTypes:=#[71,3] },3,"l6_width.go:67",#[⟨9,.data⟩,⟨10,.data⟩,⟨7,.chain⟩],none⟩) rfl (fun K hK=>?_) AllReadyH.nil
   go_simp
   refine (size_some s.w.a s.w.p s.w.n around _).mono ?_
   rintro e v16 ⟨⟨z16,rfl⟩,hb16⟩
   have f5:=below_lies hb16 f5 (lies_lt f5)
   go_wp2_with fail
   refine hK.out _ _ (Sw_call hH15 hb16) (fun hH16=>?_)
   clear hK K
   try simp only [Act.put,List.setIfInBounds_toArray,List.set_cons_zero,List.set_cons_succ]
   refine wpAnyH_take (i:=12) (oi:=⟨some 22,Op.build 110 #[(0,.tmp 13),(2,.tmp 17),(1,.tmp 21)],110,"l6_width.go:67",#[⟨3,.data⟩,⟨7,.data⟩,⟨11,.data⟩],none⟩) (v:=.agg #[.int .i64 z14,.int .i64 z16,.int .i64 z15]) rfl (by kernel_rfl) (by kernel_rfl) (by kernel_rfl) (fun _ _ _ h=>h) (Or.inl ⟨by rfl,by intro wz hSw;go_simp⟩) hH16 ?_
   simp only [Act.put,List.setIfInBounds_toArray,List.set_cons_zero,List.set_cons_succ]
   refine wpAnyH_ready (rs:=[14]) (by kernel_rfl) (by simp) ?_
   refine AllReadyH.cons (o:=⟨none,Op.store 110 (.tmp 9) (.tmp 22),0,"l6_width.go:67",#[⟨13,.data⟩,⟨12,.data⟩,⟨11,.chain⟩,⟨0,.phase⟩,⟨1,.phase⟩,⟨2,.phase⟩,⟨3,.phase⟩,⟨4,.phase⟩,⟨5,.phase⟩,⟨6,.phase⟩,⟨7,.phase⟩,⟨8,.phase⟩,⟨9,.phase⟩,⟨10,.phase⟩,⟨11,.phase⟩,⟨12,.phase⟩,⟨13,.phase⟩],none⟩) rfl (fun K hK=>?_) AllReadyH.nil
   rw [if_pos (by rfl)]
   refine wp_put9 110 _ _ rfl rfl _ 0 3 [.int .i64 z14,.int .i64 z16,.int .i64 z15] _ _ rfl rfl f5 rfl (by kernel_rfl) (by kernel_rfl) (by kernel_rfl) ?_
   intro v17 p9 l9
   have f5:=l9.trans (congrArg (fun c=>some (Obj.cells c 110 (0,0))) (show _ = (#[.int .i64 z14,.int .i64 z16,.int .i64 z15]:Array Value) by kernel_rfl))
   refine hK.out _ _ (Sw_put hH16 p9 hf5) (fun hH17=>?_)
   clear hK K l9
   try simp only [Act.put,List.setIfInBounds_toArray,List.set_cons_zero,List.set_cons_succ]
   refine wpAnyH_done (by kernel_rfl) ?_ _
   have F5:=f5
   have HH:=hH17
   clear f5
   go_wp2_with fail
   go_meet
   case rel=>exact ⟨_,_,_,_,rfl,F5,hf5,HH⟩
 case rest =>
  obtain ⟨g9,aL,b,aR,rfl,ha5,hg9,hsw⟩:=hcut
  clear h0
  obtain ⟨e16,e12,e3,-⟩:=st_cells hsw
  have CLA:=clamp_ret
  go_upto_if 25 with fail
  go_cut [] (fun wx=>Sb s w g9 aL aR wx)
  case first =>
   cases hwa:s.w.a
   ·rw [hwa] at e3
    go_wp2_with fail
    go_meet
    case rel=>exact ⟨hsw,hg9,_,ha5⟩
   ·rw [hwa] at e3
    have hSb:Sb s w g9 aL aR wc:=⟨hsw,hg9,_,ha5⟩
    clear hsw ha5 e16 e12
    go_wp2_with fail
    refine wp_region_held_drew (S:=Sb s w g9 aL aR) (by kernel_rfl) (Sb_drew hSb) (fun hHeld=>?_)
    refine wpAnyH_take (i:=0) (oi:=⟨some 26,Op.move (.tmp 1),3,"l6_width.go:69",#[],none⟩) (v:=.int .i64 around) rfl (by kernel_rfl) (by kernel_rfl) (by kernel_rfl) (fun _ _ _ h=>h) (Or.inl ⟨by rfl,by intro wz hSw;go_simp⟩) hHeld ?_
    simp only [Act.put,List.setIfInBounds_toArray,List.set_cons_zero,List.set_cons_succ]
    refine wpAnyH_take (i:=1) (oi:=⟨some 27,Op.load 73 (.tmp 4),73,"l6_width.go:69",#[],none⟩) (v:=.agg (stCells s)) rfl (by kernel_rfl) (by kernel_rfl) (by kernel_rfl) (fun _ _ _ h=>h) (yieldsIf_load_mid (by rfl) 73 _ rfl (w.heap.size) 0 rfl ((stCells s).toList) _ (fun wz hw=>range9 hw.1.2.1 0 rfl) Tryz.underlying73 rfl (by kernel_rfl)) hHeld ?_
    simp only [Act.put,List.setIfInBounds_toArray,List.set_cons_zero,List.set_cons_succ]
    refine wpAnyH_take (i:=4) (oi:=⟨some 30,Op.fieldAddr 110 (.tmp 9) 0,0,"l6_width.go:69",#[],none⟩) (v:=.pointer (some ⟨g9,0,none⟩)) rfl (by kernel_rfl) (by kernel_rfl) (by kernel_rfl) (fun _ _ _ h=>h) (Or.inl ⟨by rfl,by intro wz hSw;go_simp⟩) hHeld ?_
    simp only [Act.put,List.setIfInBounds_toArray,List.set_cons_zero,List.set_cons_succ]
    refine wpAnyH_take (i:=5) (oi:=⟨some 31,Op.load 3 (.tmp 30),3,"l6_width.go:69",#[⟨4,.data⟩],none⟩) (v:=.int .i64 aL) rfl (by kernel_rfl) (by kernel_rfl) (by kernel_rfl) (fun _ _ _ h=>h) (Or.inl ⟨by rfl,by intro wz hSw;obtain ⟨bb,hbb⟩:=hSw.2.2;have hq:wz.cell? ⟨g9,0,none⟩ = some (.int .i64 aL):=(lies_cell hbb 0).trans rfl;clear hSw;go_simp⟩) hHeld ?_
    simp only [Act.put,List.setIfInBounds_toArray,List.set_cons_zero,List.set_cons_succ]
    refine wpAnyH_take (i:=7) (oi:=⟨some 33,Op.fieldAddr 110 (.tmp 9) 2,0,"l6_width.go:69",#[],none⟩) (v:=.pointer (some ⟨g9,2,none⟩)) rfl (by kernel_rfl) (by kernel_rfl) (by kernel_rfl) (fun _ _ _ h=>h) (Or.inl ⟨by rfl,by intro wz hSw;go_simp⟩) hHeld ?_
    simp only [Act.put,List.setIfInBounds_toArray,List.set_cons_zero,List.set_cons_succ]
    refine wpAnyH_take (i:=8) (oi:=⟨some 34,Op.load 3 (.tmp 33),3,"l6_width.go:69",#[⟨7,.data⟩],none⟩) (v:=.int .i64 aR) rfl (by kernel_rfl) (by kernel_rfl) (by kernel_rfl) (fun _ _ _ h=>h) (Or.inl ⟨by rfl,by intro wz hSw;obtain ⟨bb,hbb⟩:=hSw.2.2;have hq:wz.cell? ⟨g9,2,none⟩ = some (.int .i64 aR):=(lies_cell hbb 2).trans rfl;clear hSw;go_simp⟩) hHeld ?_
    simp only [Act.put,List.setIfInBounds_toArray,List.set_cons_zero,List.set_cons_succ]
    refine wpAnyH_take (i:=10) (oi:=⟨some 36,Op.move (.tmp 2),3,"l6_width.go:69",#[],none⟩) (v:=.int .i64 nar) rfl (by kernel_rfl) (by kernel_rfl) (by kernel_rfl) (fun _ _ _ h=>h) (Or.inl ⟨by rfl,by intro wz hSw;go_simp⟩) hHeld ?_
    simp only [Act.put,List.setIfInBounds_toArray,List.set_cons_zero,List.set_cons_succ]
    refine wpAnyH_ready (rs:=[2]) (by kernel_rfl) (by simp) ?_
    refine AllReadyH.cons (o:=⟨some 28,Op.call { callee:=Callee.value (Operand.func 79),args:=#[.tmp 27],argTypes:=#[73] },3,"l6_width.go:69",#[⟨1,.data⟩],none⟩) rfl (fun K hK=>?_) AllReadyH.nil
    go_simp
    refine (edge_some s _).mono ?_
    rintro e V3 ⟨⟨z3,rfl⟩,hb3⟩
    go_wp2_with fail
    refine hK.out _ _ (Sb_call hHeld hb3) (fun hHeld'=>?_)
    clear hK K
    try simp only [Act.put,List.setIfInBounds_toArray,List.set_cons_zero,List.set_cons_succ]
    refine wpAnyH_take (i:=3) (oi:=⟨some 29,Op.binOp BinOp.sub 3 (.tmp 26) (.tmp 28) 3,3,"l6_width.go:69",#[⟨0,.data⟩,⟨2,.data⟩],none⟩) (v:=.int .i64 (IntKind.i64.wrap (around - z3))) rfl (by kernel_rfl) (by kernel_rfl) (by kernel_rfl) (fun _ _ _ h=>h) (Or.inl ⟨by rfl,by intro wz hSw;go_simp⟩) hHeld' ?_
    simp only [Act.put,List.setIfInBounds_toArray,List.set_cons_zero,List.set_cons_succ]
    refine wpAnyH_take (i:=6) (oi:=⟨some 32,Op.binOp BinOp.sub 3 (.tmp 29) (.tmp 31) 3,3,"l6_width.go:69",#[⟨3,.data⟩,⟨5,.data⟩],none⟩) (v:=.int .i64 (IntKind.i64.wrap ((IntKind.i64.wrap (around - z3)) - aL))) rfl (by kernel_rfl) (by kernel_rfl) (by kernel_rfl) (fun _ _ _ h=>h) (Or.inl ⟨by rfl,by intro wz hSw;go_simp⟩) hHeld' ?_
    simp only [Act.put,List.setIfInBounds_toArray,List.set_cons_zero,List.set_cons_succ]
    refine wpAnyH_take (i:=9) (oi:=⟨some 35,Op.binOp BinOp.sub 3 (.tmp 32) (.tmp 34) 3,3,"l6_width.go:69",#[⟨6,.data⟩,⟨8,.data⟩],none⟩) (v:=.int .i64 (IntKind.i64.wrap ((IntKind.i64.wrap ((IntKind.i64.wrap (around - z3)) - aL)) - aR))) rfl (by kernel_rfl) (by kernel_rfl) (by kernel_rfl) (fun _ _ _ h=>h) (Or.inl ⟨by rfl,by intro wz hSw;go_simp⟩) hHeld' ?_
    simp only [Act.put,List.setIfInBounds_toArray,List.set_cons_zero,List.set_cons_succ]
    refine wpAnyH_ready (rs:=[11]) (by kernel_rfl) (by simp) ?_
    refine AllReadyH.cons (o:=⟨some 37,Op.call { callee:=Callee.value (Operand.func 61),args:=#[.tmp 35,.tmp 36,Operand.const (Value.int IntKind.i64 (-1))],argTypes:=#[3,3,3] },3,"l6_width.go:69",#[⟨9,.data⟩,⟨10,.data⟩,⟨2,.chain⟩],none⟩) rfl (fun K hK=>?_) AllReadyH.nil
    go_simp
    refine (clamp_ret _ _ _ _).mono ?_
    rintro e V4 ⟨⟨z4,rfl⟩,hw4⟩
    have hw4:=hw4.symm
    subst hw4
    go_wp2_with fail
    refine hK.out _ _ (hHeld') (fun hHeld''=>?_)
    clear hK K
    try simp only [Act.put,List.setIfInBounds_toArray,List.set_cons_zero,List.set_cons_succ]
    refine wpAnyH_take (i:=12) (oi:=⟨some 38,Op.fieldAddr 110 (.tmp 9) 1,0,"l6_width.go:69",#[⟨0,.phase⟩,⟨1,.phase⟩,⟨2,.phase⟩,⟨3,.phase⟩,⟨4,.phase⟩,⟨5,.phase⟩,⟨6,.phase⟩,⟨7,.phase⟩,⟨8,.phase⟩,⟨9,.phase⟩,⟨10,.phase⟩,⟨11,.phase⟩],none⟩) (v:=.pointer (some ⟨g9,1,none⟩)) rfl (by kernel_rfl) (by kernel_rfl) (by kernel_rfl) (fun _ _ _ h=>h) (Or.inl ⟨by rfl,by intro wz hSw;go_simp⟩) hHeld'' ?_
    simp only [Act.put,List.setIfInBounds_toArray,List.set_cons_zero,List.set_cons_succ]
    refine wpAnyH_ready (rs:=[13]) (by kernel_rfl) (by simp) ?_
    refine AllReadyH.cons (o:=⟨none,Op.store 3 (.tmp 38) (.tmp 37),0,"l6_width.go:69",#[⟨12,.data⟩,⟨11,.data⟩,⟨11,.chain⟩,⟨0,.phase⟩,⟨1,.phase⟩,⟨2,.phase⟩,⟨3,.phase⟩,⟨4,.phase⟩,⟨5,.phase⟩,⟨6,.phase⟩,⟨7,.phase⟩,⟨8,.phase⟩,⟨9,.phase⟩,⟨10,.phase⟩,⟨11,.phase⟩],none⟩) rfl (fun K hK=>?_) AllReadyH.nil
    obtain ⟨bb,hbb⟩:=hHeld''.2.2
    obtain ⟨d0,d1,d2,f0,f1,f2⟩:=A5.cells hbb
    go_simp
    refine hK.out _ _ (Sb_set hHeld'' _) (fun hHeld'''=>?_)
    clear hK K
    try simp only [Act.put,List.setIfInBounds_toArray,List.set_cons_zero,List.set_cons_succ]
    refine wpAnyH_done (by kernel_rfl) ?_ _
    have hSx:Sb s w g9 aL aR _:=hHeld'''
    generalize hVx:World.setCell _ ⟨g9,1,none⟩ _ = Vx at hSx
    obtain ⟨hs7,-,b7,ha7⟩:=hSx
    clear hVx d0 d1 d2 f0 f1 f2 hbb hSb hb3
    obtain ⟨d0,d1,d2,f0,f1,f2⟩:=ha7.cells
    by_cases hz:wid < b7
    ·go_wp2_with fail
     go_meet
     case rel=>exact ⟨Sw_set hs7 hg9,hg9,_,ha7.set1 _⟩
    ·go_wp2_with fail
     go_meet
     case rel=>exact ⟨hs7,hg9,_,ha7⟩
  case rest =>
   obtain ⟨hs8,-,b8,ha8⟩:=hcut
   clear hsw ha5 e16 e12 e3
   obtain ⟨-,-,-,-,-,e9,e10⟩:=st_cells hs8
   obtain ⟨d0,d1,d2,f0,f1,f2⟩:=ha8.cells
   go_wp2_with fail
   refine (CLA _ _ _ _).mono ?_
   rintro e V6 ⟨⟨z6,rfl⟩,hw⟩
   have hw:=hw.symm
   subst hw
   have SB:=fun v=>Sw_set (i:=1) (v:=v) hs8 hg9
   go_wp2_with ((with_reducible show wpList _ _ _ (⟨none,Op.store 110 (Operand.tmp 8) (Operand.tmp 53),_,_,_,_⟩ :: _) _ _);refine wpList_putA rfl _ _ _ rfl rfl (w.heap.size + 1) 0 3 [.int .i64 aL,.int .i64 z6,.int .i64 aR] #[.int .i64 0,.int .i64 0,.int .i64 0] 110 rfl (by go_simp) ((SB _).2.2) rfl (by kernel_rfl) (by kernel_rfl) (by kernel_rfl) ?_;intro w9 p9 l9 n9)
   exact bodyPost_ret (v:=.agg #[.int .i64 aL,.int .i64 z6,.int .i64 aR]) (results_cell_row Tryz.results92 _ _ _ _ _ _ _ rfl l9 Tryz.underlying110 rfl (by kernel_rfl)) rfl ⟨acrRet _ _ _,p9.below ((SB _).1) (Nat.le_succ _)⟩
end Go.Proofs.YtjnmloaopnbpgaaGreatDoor
