/-
  The program's reader of sizes: the first form that knows the value.
-/
import Derived.Test.YtddnphgpdnedbaaGreatDoorMRd
import Derived.Test.YtddnphgpdnedbaaGreatDoorMEr
namespace Go.Proofs.YtddnphgpdnedbaaGreatDoor
open Go.ChangeShapes Go.WideShapes Go.ChangeAt Go.RowKit
set_option linter.unusedVariables false

theorem results_row_tmp {P : Program} {fn : Func} {p q : Tmp} {ty : TypeId} (h : fn.results = #[.cell p ty, .tmp q]) (tmps : Array Value) (w : World) (g : Nat) (t : TypeId) (cs : Array Value) (fr : Nat × Nat) (d : TypeDesc) (v : Value)
    (hp : tmps.getD p undef = .pointer (some ⟨g, 0, none⟩)) (hg : w.heap[g]? = some (.cells cs t fr))
    (hu : P.underlying ty = some d) (hd : (match d with | .struct _ | .array _ _ => true | _ => false) = true) (hi : (P.info? ty).map (·.size) = some cs.size) (hq : tmps.getD q undef = v) :
    (results fn tmps).run P w = .ok (.tuple #[.agg cs, v]) w := by
  have hp' : tmps[p]?.getD undef = .pointer (some ⟨g, 0, none⟩) := by simpa using hp
  have hq' : tmps[q]?.getD undef = v := by simpa using hq
  simp [results, h, hp', hq', asAddr, run_loadVar_row w g t ty cs fr d hg hu hd hi]
def stayP (p : Prop) : Prop := p
theorem stay_p {p : Prop} (h : stayP p) : p := h
def szOk (v : ByteArray) : Bool := if autoB v then true else if pctFitB v then pctOk v else readB v
def szVal (v : ByteArray) : Sz := if autoB v then ⟨true, false, 0⟩ else if pctFitB v then ⟨false, pctOk v, if pctOk v then pctSgn v else 0⟩ else ⟨false, false, readN v⟩
/-- Of another form, or beyond. -/
def FaultE (ab : Addr) (e : Value) : Prop := FormE e ∨ e = .iface 209 (.pointer (some ab))
/-- What errors.As reads. -/
def ErrT (w : World) : Prop := w.cell? ⟨8, 0, none⟩ = some (.iface 161 (.agg #[.pointer (some ⟨12, 63, none⟩)]))
theorem ErrT.below {w w' : World} (h : ErrT w) (hb : Below w.heap.size w w') : ErrT w' := (hb.cell (p := ⟨8, 0, none⟩) (World.block_lt_of_cell? _ ⟨8, 0, none⟩ h)).trans h
def BeyE (ab : Addr) (w : World) : Prop := w.cell? ⟨5, 0, none⟩ = some (.iface 209 (.pointer (some ab)))
theorem BeyE.below {ab : Addr} {w w' : World} (h : BeyE ab w) (hb : Below w.heap.size w w') : BeyE ab w' := (hb.cell (p := ⟨5, 0, none⟩) (World.block_lt_of_cell? _ ⟨5, 0, none⟩ h)).trans h
theorem errT_lt {w : World} (h : ErrT w) : 8 < w.heap.size := World.block_lt_of_cell? _ ⟨8, 0, none⟩ h

set_option maxRecDepth 100000 in
set_option maxHeartbeats 4000000 in
theorem readSize_auto (v : ByteArray) (w : World) (h : autoB v = true) :
    Calls Tryz.prog 116 #[.string v] w fun e w' => (∃ x, e = .returned (.tuple #[.agg #[.bool true, .bool false, .int .i64 0], x]) ∧ x = .nilIface) ∧ Below w.heap.size w w' := by
  have RA := fun W => readAuto_any v W
  rw [h] at RA
  have n0 : (#[.bool false, .bool false, .int .i64 0] : Array Value).size = 3 := rfl
  have n1 := n0
  go_enter Tryz.func116, Tryz.ntmps116
  go_wp2_with fail
  refine wp_gen3 ?_
  intro W bel l0 l1 l2
  refine wp_loop_rounds 1 ?_
  rw [rounds_succ]
  have hf := lies_cell l2
  have zW := lies_lt l2
  go_wp2_with fail
  refine (RA _).mono ?_
  rintro e w1 ⟨⟨x, rfl, hx⟩, hb⟩
  obtain rfl : x = .nilIface := by rcases hx with h | h; exact h.2; cases h.1
  have lo : w1.heap[W.heap.size]? = some (.cells #[.pointer none] 173 (0, 0)) := below_lies hb (heap_at _ _ _ rfl) (by simp)
  have l0' := below_lies hb (heap_in (o := .cells #[.pointer none] 173) l0) (by simp; omega)
  have l1' := below_lies hb (heap_in (o := .cells #[.pointer none] 173) l1) (by simp; omega)
  have l2' := below_lies hb (heap_in (o := .cells #[.pointer none] 173) l2) (by simp; omega)
  have bW1 : Below W.heap.size W w1 := ((Below.refl _ _).alloc (Nat.le_refl _) _).trans (hb.mono (by simp))
  clear hb hf l0 l1 l2
  go_wp2_with (with_reducible show wpList _ _ _ (⟨none, Op.store 32 _ _, _, _, _, _⟩ :: _) _ _; refine wpList_putA rfl _ _ _ rfl rfl _ _ _ _ _ _ rfl rfl l1' n1 (by kernel_rfl) (by kernel_rfl) (by kernel_rfl) ?_; intro w2 p l1 n1'; refine stay_p ?_)
  have n1 := n1'
  have l0 := p.lies l0' (by omega)
  have l2 := p.lies l2' (by omega)
  have lo := p.lies lo (by omega)
  have bW2 : Below (w.heap.size + 1) W w2 := p.below (bW1.mono (by omega)) (Nat.le_refl _)
  have bw2 : Below w.heap.size w w2 := bel.trans (bW2.mono (by omega))
  have z2 : W.heap.size < w2.heap.size := lies_lt lo
  unfold stayP
  clear p l0' l1' l2' bW1 bW2 n1'
  go_wp2_with fail
  refine (as_nil _ _).mono ?_
  rintro e w3 ⟨rfl, hw⟩
  have hw := hw.symm
  subst hw
  go_wp2_with (first
    | (with_reducible show wpList _ _ _ (⟨some 26, Op.load 32 _, _, _, _, _⟩ :: _) _ _; refine wpList_load_row rfl 32 _ rfl _ rfl _ _ _ _ l1 Tryz.underlying32 rfl (by kernel_rfl) ?_)
    | (with_reducible show wpList _ _ _ (⟨none, Op.store 32 _ _, _, _, _, _⟩ :: _) _ _; refine wpList_putA rfl _ _ _ rfl rfl _ _ _ _ _ _ rfl rfl l0 n0 (by kernel_rfl) (by kernel_rfl) (by kernel_rfl) ?_; intro w4 p l3 n3; refine stay_p ?_))
  have bw4 := p.below bw2 (Nat.le_refl _)
  unfold stayP
  go_wp2
  exact bodyPost_ret (v := .tuple #[.agg #[.bool true, .bool false, .int .i64 0], .nilIface]) (results_row_tmp Tryz.results116 _ _ _ _ (#[.bool true, .bool false, .int .i64 0]) _ _ _ rfl (l3.trans (congrArg (fun c => some (Obj.cells c 32 (0, 0))) (show _ = (#[.bool true, .bool false, .int .i64 0] : Array Value) by kernel_rfl))) Tryz.underlying32 rfl (by kernel_rfl) rfl) rfl ⟨⟨_, rfl, rfl⟩, bw4⟩

set_option maxRecDepth 100000 in
set_option maxHeartbeats 4000000 in
theorem readSize_pct (v : ByteArray) (w : World) (hs : v.size ≤ 1048576) (h : autoB v = false) (h2 : pctFitB v = true) (h3 : pctOk v = true) (ab : Addr) (hE : BeyE ab w) (hT : ErrT w) :
    Calls Tryz.prog 116 #[.string v] w fun e w' => (∃ x, e = .returned (.tuple #[.agg #[.bool false, .bool true, .int .i64 (pctSgn v)], x]) ∧ x = .nilIface) ∧ Below w.heap.size w w' := by
  have RA := fun W => readAuto_any v W
  rw [h] at RA
  have RB := fun (W : World) (hb : Below w.heap.size w W) => readPercent_good v W hs h2 ab (hE.below hb)
  rw [h3] at RB
  rw [if_pos rfl, if_pos rfl] at RB
  generalize pctSgn v = q at RB ⊢
  have n0 : (#[.bool false, .bool false, .int .i64 0] : Array Value).size = 3 := rfl
  have n1 := n0
  go_enter Tryz.func116, Tryz.ntmps116
  go_wp2_with fail
  refine wp_gen3 ?_
  intro W bel l0 l1 l2
  refine wp_loop_rounds 2 ?_
  rw [rounds_succ]
  have hf := lies_cell l2
  have zW := lies_lt l2
  go_wp2_with fail
  refine (RA _).mono ?_
  rintro e w1 ⟨⟨x, rfl, hx⟩, hb⟩
  obtain ⟨p, rfl⟩ : FormE x := by rcases hx with h | h; cases h.1; exact h.2
  have lo : w1.heap[W.heap.size]? = some (.cells #[.pointer none] 173 (0, 0)) := below_lies hb (heap_at _ _ _ rfl) (by simp)
  have l0' := below_lies hb (heap_in (o := .cells #[.pointer none] 173) l0) (by simp; omega)
  have l1' := below_lies hb (heap_in (o := .cells #[.pointer none] 173) l1) (by simp; omega)
  have l2' := below_lies hb (heap_in (o := .cells #[.pointer none] 173) l2) (by simp; omega)
  have bW1 : Below W.heap.size W w1 := ((Below.refl _ _).alloc (Nat.le_refl _) _).trans (hb.mono (by simp))
  clear hb hf l0 l1 l2
  go_wp2_with (with_reducible show wpList _ _ _ (⟨none, Op.store 32 _ _, _, _, _, _⟩ :: _) _ _; refine wpList_putA rfl _ _ _ rfl rfl _ _ _ _ _ _ rfl rfl l1' n1 (by kernel_rfl) (by kernel_rfl) (by kernel_rfl) ?_; intro w2 p l1 n1'; refine stay_p ?_)
  have n1 := n1'
  have l0 := p.lies l0' (by omega)
  have l2 := p.lies l2' (by omega)
  have lo := p.lies lo (by omega)
  have bW2 : Below (w.heap.size + 1) W w2 := p.below (bW1.mono (by omega)) (Nat.le_refl _)
  have bw2 : Below w.heap.size w w2 := bel.trans (bW2.mono (by omega))
  have z2 : W.heap.size < w2.heap.size := lies_lt lo
  unfold stayP
  clear p l0' l1' l2' bW1 bW2 n1'
  go_wp2_with fail
  refine (as_form _ W.heap.size (.pointer none) _ (hT.below bw2) ((lies_cell lo 0).trans rfl) (by rw [World.frozen?, lo]; rfl) (by have := errT_lt hT; omega)).mono ?_
  rintro e w3 ⟨rfl, hb⟩
  have hb := hb W.heap.size (Nat.le_refl _) (by omega)
  have l0 := below_lies hb l0 (by omega)
  have l1 := below_lies hb l1 (by omega)
  have l2 := below_lies hb l2 (by omega)
  have bel := bw2.trans (hb.mono (by omega))
  clear hb lo bw2
  go_wp2_with fail
  rw [rounds_succ]
  have hf := lies_cell l2
  have zW := lies_lt l2
  go_wp2_with fail
  refine (RB _ (bel.alloc bel.size _)).mono ?_
  rintro e w4 ⟨rfl, hb⟩
  have lo : w4.heap[w3.heap.size]? = some (.cells #[.pointer none] 173 (0, 0)) := below_lies hb (heap_at _ _ _ rfl) (by simp)
  have l0' := below_lies hb (heap_in (o := .cells #[.pointer none] 173) l0) (by simp; omega)
  have l1' := below_lies hb (heap_in (o := .cells #[.pointer none] 173) l1) (by simp; omega)
  have l2' := below_lies hb (heap_in (o := .cells #[.pointer none] 173) l2) (by simp; omega)
  have bW1 : Below w3.heap.size w3 w4 := ((Below.refl _ _).alloc (Nat.le_refl _) _).trans (hb.mono (by simp))
  clear hb hf l0 l1 l2
  go_wp2_with (with_reducible show wpList _ _ _ (⟨none, Op.store 32 _ _, _, _, _, _⟩ :: _) _ _; refine wpList_putA rfl _ _ _ rfl rfl _ _ _ _ _ _ rfl rfl l1' n1 (by kernel_rfl) (by kernel_rfl) (by kernel_rfl) ?_; intro w5 p l1 n1'; refine stay_p ?_)
  have n1 := n1'
  have l0 := p.lies l0' (by omega)
  have l2 := p.lies l2' (by omega)
  have lo := p.lies lo (by omega)
  have bW2 : Below (w.heap.size + 1) w3 w5 := p.below (bW1.mono (by omega)) (Nat.le_refl _)
  have bw2 : Below w.heap.size w w5 := bel.trans (bW2.mono (by omega))
  have z2 : w3.heap.size < w5.heap.size := lies_lt lo
  unfold stayP
  clear p l0' l1' l2' bW1 bW2 n1'
  go_wp2_with fail
  refine (as_nil _ _).mono ?_
  rintro e w6 ⟨rfl, hw⟩
  have hw := hw.symm
  subst hw
  go_wp2_with (first
    | (with_reducible show wpList _ _ _ (⟨some 26, Op.load 32 _, _, _, _, _⟩ :: _) _ _; refine wpList_load_row rfl 32 _ rfl _ rfl _ _ _ _ l1 Tryz.underlying32 rfl (by kernel_rfl) ?_)
    | (with_reducible show wpList _ _ _ (⟨none, Op.store 32 _ _, _, _, _, _⟩ :: _) _ _; refine wpList_putA rfl _ _ _ rfl rfl _ _ _ _ _ _ rfl rfl l0 n0 (by kernel_rfl) (by kernel_rfl) (by kernel_rfl) ?_; intro w9 p l3 n3; refine stay_p ?_))
  have bw4 := p.below bw2 (Nat.le_refl _)
  unfold stayP
  go_wp2
  exact bodyPost_ret (v := .tuple #[.agg #[.bool false, .bool true, .int .i64 q], .nilIface]) (results_row_tmp Tryz.results116 _ _ _ _ (#[.bool false, .bool true, .int .i64 q]) _ _ _ rfl (l3.trans (congrArg (fun c => some (Obj.cells c 32 (0, 0))) (show _ = (#[.bool false, .bool true, .int .i64 q] : Array Value) by kernel_rfl))) Tryz.underlying32 rfl (by kernel_rfl) rfl) rfl ⟨⟨_, rfl, rfl⟩, bw4⟩

set_option maxRecDepth 100000 in
set_option maxHeartbeats 4000000 in
theorem readSize_far (v : ByteArray) (w : World) (hs : v.size ≤ 1048576) (h : autoB v = false) (h2 : pctFitB v = true) (h3 : pctOk v = false) (ab : Addr) (hE : BeyE ab w) (hT : ErrT w) :
    Calls Tryz.prog 116 #[.string v] w fun e w' => (∃ x, e = .returned (.tuple #[.agg #[.bool false, .bool false, .int .i64 0], x]) ∧ x = .iface 209 (.pointer (some ab))) ∧ Below w.heap.size w w' := by
  have RA := fun W => readAuto_any v W
  rw [h] at RA
  have RB := fun (W : World) (hb : Below w.heap.size w W) => readPercent_good v W hs h2 ab (hE.below hb)
  rw [h3] at RB
  rw [if_neg (by decide), if_neg (by decide)] at RB
  have n0 : (#[.bool false, .bool false, .int .i64 0] : Array Value).size = 3 := rfl
  have n1 := n0
  go_enter Tryz.func116, Tryz.ntmps116
  go_wp2_with fail
  refine wp_gen3 ?_
  intro W bel l0 l1 l2
  refine wp_loop_rounds 2 ?_
  rw [rounds_succ]
  have hf := lies_cell l2
  have zW := lies_lt l2
  go_wp2_with fail
  refine (RA _).mono ?_
  rintro e w1 ⟨⟨x, rfl, hx⟩, hb⟩
  obtain ⟨p, rfl⟩ : FormE x := by rcases hx with h | h; cases h.1; exact h.2
  have lo : w1.heap[W.heap.size]? = some (.cells #[.pointer none] 173 (0, 0)) := below_lies hb (heap_at _ _ _ rfl) (by simp)
  have l0' := below_lies hb (heap_in (o := .cells #[.pointer none] 173) l0) (by simp; omega)
  have l1' := below_lies hb (heap_in (o := .cells #[.pointer none] 173) l1) (by simp; omega)
  have l2' := below_lies hb (heap_in (o := .cells #[.pointer none] 173) l2) (by simp; omega)
  have bW1 : Below W.heap.size W w1 := ((Below.refl _ _).alloc (Nat.le_refl _) _).trans (hb.mono (by simp))
  clear hb hf l0 l1 l2
  go_wp2_with (with_reducible show wpList _ _ _ (⟨none, Op.store 32 _ _, _, _, _, _⟩ :: _) _ _; refine wpList_putA rfl _ _ _ rfl rfl _ _ _ _ _ _ rfl rfl l1' n1 (by kernel_rfl) (by kernel_rfl) (by kernel_rfl) ?_; intro w2 p l1 n1'; refine stay_p ?_)
  have n1 := n1'
  have l0 := p.lies l0' (by omega)
  have l2 := p.lies l2' (by omega)
  have lo := p.lies lo (by omega)
  have bW2 : Below (w.heap.size + 1) W w2 := p.below (bW1.mono (by omega)) (Nat.le_refl _)
  have bw2 : Below w.heap.size w w2 := bel.trans (bW2.mono (by omega))
  have z2 : W.heap.size < w2.heap.size := lies_lt lo
  unfold stayP
  clear p l0' l1' l2' bW1 bW2 n1'
  go_wp2_with fail
  refine (as_form _ W.heap.size (.pointer none) _ (hT.below bw2) ((lies_cell lo 0).trans rfl) (by rw [World.frozen?, lo]; rfl) (by have := errT_lt hT; omega)).mono ?_
  rintro e w3 ⟨rfl, hb⟩
  have hb := hb W.heap.size (Nat.le_refl _) (by omega)
  have l0 := below_lies hb l0 (by omega)
  have l1 := below_lies hb l1 (by omega)
  have l2 := below_lies hb l2 (by omega)
  have bel := bw2.trans (hb.mono (by omega))
  clear hb lo bw2
  go_wp2_with fail
  rw [rounds_succ]
  have hf := lies_cell l2
  have zW := lies_lt l2
  go_wp2_with fail
  refine (RB _ (bel.alloc bel.size _)).mono ?_
  rintro e w4 ⟨rfl, hb⟩
  have lo : w4.heap[w3.heap.size]? = some (.cells #[.pointer none] 173 (0, 0)) := below_lies hb (heap_at _ _ _ rfl) (by simp)
  have l0' := below_lies hb (heap_in (o := .cells #[.pointer none] 173) l0) (by simp; omega)
  have l1' := below_lies hb (heap_in (o := .cells #[.pointer none] 173) l1) (by simp; omega)
  have l2' := below_lies hb (heap_in (o := .cells #[.pointer none] 173) l2) (by simp; omega)
  have bW1 : Below w3.heap.size w3 w4 := ((Below.refl _ _).alloc (Nat.le_refl _) _).trans (hb.mono (by simp))
  clear hb hf l0 l1 l2
  go_wp2_with (with_reducible show wpList _ _ _ (⟨none, Op.store 32 _ _, _, _, _, _⟩ :: _) _ _; refine wpList_putA rfl _ _ _ rfl rfl _ _ _ _ _ _ rfl rfl l1' n1 (by kernel_rfl) (by kernel_rfl) (by kernel_rfl) ?_; intro w5 p l1 n1'; refine stay_p ?_)
  have n1 := n1'
  have l0 := p.lies l0' (by omega)
  have l2 := p.lies l2' (by omega)
  have lo := p.lies lo (by omega)
  have bW2 : Below (w.heap.size + 1) w3 w5 := p.below (bW1.mono (by omega)) (Nat.le_refl _)
  have bw2 : Below w.heap.size w w5 := bel.trans (bW2.mono (by omega))
  have z2 : w3.heap.size < w5.heap.size := lies_lt lo
  unfold stayP
  clear p l0' l1' l2' bW1 bW2 n1'
  go_wp2_with fail
  refine (as_beyond _ _ _ (hT.below bw2)).mono ?_
  rintro e w6 ⟨rfl, hb⟩
  have l0 := below_lies hb l0 (lies_lt l0)
  have l1 := below_lies hb l1 (lies_lt l1)
  have bw2 := bw2.trans (hb.mono bw2.size)
  clear hb
  go_wp2_with (first
    | (with_reducible show wpList _ _ _ (⟨some 26, Op.load 32 _, _, _, _, _⟩ :: _) _ _; refine wpList_load_row rfl 32 _ rfl _ rfl _ _ _ _ l1 Tryz.underlying32 rfl (by kernel_rfl) ?_)
    | (with_reducible show wpList _ _ _ (⟨none, Op.store 32 _ _, _, _, _, _⟩ :: _) _ _; refine wpList_putA rfl _ _ _ rfl rfl _ _ _ _ _ _ rfl rfl l0 n0 (by kernel_rfl) (by kernel_rfl) (by kernel_rfl) ?_; intro w4 p l3 n3; refine stay_p ?_))
  have bw4 := p.below bw2 (Nat.le_refl _)
  unfold stayP
  go_wp2
  exact bodyPost_ret (v := .tuple #[.agg #[.bool false, .bool false, .int .i64 0], .iface 209 (.pointer (some ab))]) (results_row_tmp Tryz.results116 _ _ _ _ (#[.bool false, .bool false, .int .i64 0]) _ _ _ rfl (l3.trans (congrArg (fun c => some (Obj.cells c 32 (0, 0))) (show _ = (#[.bool false, .bool false, .int .i64 0] : Array Value) by kernel_rfl))) Tryz.underlying32 rfl (by kernel_rfl) rfl) rfl ⟨⟨_, rfl, rfl⟩, bw4⟩

set_option maxRecDepth 100000 in
set_option maxHeartbeats 4000000 in
theorem readSize_px (v : ByteArray) (w : World) (hs : v.size ≤ 1048576) (h : autoB v = false) (h2 : pctFitB v = false) (h3 : readB v = true) (hT : ErrT w) :
    Calls Tryz.prog 116 #[.string v] w fun e w' => (∃ x, e = .returned (.tuple #[.agg #[.bool false, .bool false, .int .i64 (readN v)], x]) ∧ x = .nilIface) ∧ Below w.heap.size w w' := by
  have RA := fun W => readAuto_any v W
  rw [h] at RA
  have RB := fun W => readPercent_form v W hs h2
  have RC := fun W => readPixelSize_any v W hs
  rw [h3] at RC
  generalize readN v = q at RC ⊢
  have n0 : (#[.bool false, .bool false, .int .i64 0] : Array Value).size = 3 := rfl
  have n1 := n0
  go_enter Tryz.func116, Tryz.ntmps116
  go_wp2_with fail
  refine wp_gen3 ?_
  intro W bel l0 l1 l2
  refine wp_loop_rounds 3 ?_
  rw [rounds_succ]
  have hf := lies_cell l2
  have zW := lies_lt l2
  go_wp2_with fail
  refine (RA _).mono ?_
  rintro e w1 ⟨⟨x, rfl, hx⟩, hb⟩
  obtain ⟨p, rfl⟩ : FormE x := by rcases hx with h | h; cases h.1; exact h.2
  have lo : w1.heap[W.heap.size]? = some (.cells #[.pointer none] 173 (0, 0)) := below_lies hb (heap_at _ _ _ rfl) (by simp)
  have l0' := below_lies hb (heap_in (o := .cells #[.pointer none] 173) l0) (by simp; omega)
  have l1' := below_lies hb (heap_in (o := .cells #[.pointer none] 173) l1) (by simp; omega)
  have l2' := below_lies hb (heap_in (o := .cells #[.pointer none] 173) l2) (by simp; omega)
  have bW1 : Below W.heap.size W w1 := ((Below.refl _ _).alloc (Nat.le_refl _) _).trans (hb.mono (by simp))
  clear hb hf l0 l1 l2
  go_wp2_with (with_reducible show wpList _ _ _ (⟨none, Op.store 32 _ _, _, _, _, _⟩ :: _) _ _; refine wpList_putA rfl _ _ _ rfl rfl _ _ _ _ _ _ rfl rfl l1' n1 (by kernel_rfl) (by kernel_rfl) (by kernel_rfl) ?_; intro w2 p l1 n1'; refine stay_p ?_)
  have n1 := n1'
  have l0 := p.lies l0' (by omega)
  have l2 := p.lies l2' (by omega)
  have lo := p.lies lo (by omega)
  have bW2 : Below (w.heap.size + 1) W w2 := p.below (bW1.mono (by omega)) (Nat.le_refl _)
  have bw2 : Below w.heap.size w w2 := bel.trans (bW2.mono (by omega))
  have z2 : W.heap.size < w2.heap.size := lies_lt lo
  unfold stayP
  clear p l0' l1' l2' bW1 bW2 n1'
  go_wp2_with fail
  refine (as_form _ W.heap.size (.pointer none) _ (hT.below bw2) ((lies_cell lo 0).trans rfl) (by rw [World.frozen?, lo]; rfl) (by have := errT_lt hT; omega)).mono ?_
  rintro e w3 ⟨rfl, hb⟩
  have hb := hb W.heap.size (Nat.le_refl _) (by omega)
  have l0 := below_lies hb l0 (by omega)
  have l1 := below_lies hb l1 (by omega)
  have l2 := below_lies hb l2 (by omega)
  have bel := bw2.trans (hb.mono (by omega))
  clear hb lo bw2
  go_wp2_with fail
  rw [rounds_succ]
  have hf := lies_cell l2
  have zW := lies_lt l2
  go_wp2_with fail
  refine (RB _).mono ?_
  rintro e w4 ⟨⟨x, rfl, hx⟩, hb⟩
  obtain ⟨p, rfl⟩ := hx
  have lo : w4.heap[w3.heap.size]? = some (.cells #[.pointer none] 173 (0, 0)) := below_lies hb (heap_at _ _ _ rfl) (by simp)
  have l0' := below_lies hb (heap_in (o := .cells #[.pointer none] 173) l0) (by simp; omega)
  have l1' := below_lies hb (heap_in (o := .cells #[.pointer none] 173) l1) (by simp; omega)
  have l2' := below_lies hb (heap_in (o := .cells #[.pointer none] 173) l2) (by simp; omega)
  have bW1 : Below w3.heap.size w3 w4 := ((Below.refl _ _).alloc (Nat.le_refl _) _).trans (hb.mono (by simp))
  clear hb hf l0 l1 l2
  go_wp2_with (with_reducible show wpList _ _ _ (⟨none, Op.store 32 _ _, _, _, _, _⟩ :: _) _ _; refine wpList_putA rfl _ _ _ rfl rfl _ _ _ _ _ _ rfl rfl l1' n1 (by kernel_rfl) (by kernel_rfl) (by kernel_rfl) ?_; intro w5 p l1 n1'; refine stay_p ?_)
  have n1 := n1'
  have l0 := p.lies l0' (by omega)
  have l2 := p.lies l2' (by omega)
  have lo := p.lies lo (by omega)
  have bW2 : Below (w.heap.size + 1) w3 w5 := p.below (bW1.mono (by omega)) (Nat.le_refl _)
  have bw2 : Below w.heap.size w w5 := bel.trans (bW2.mono (by omega))
  have z2 : w3.heap.size < w5.heap.size := lies_lt lo
  unfold stayP
  clear p l0' l1' l2' bW1 bW2 n1'
  go_wp2_with fail
  refine (as_form _ w3.heap.size (.pointer none) _ (hT.below bw2) ((lies_cell lo 0).trans rfl) (by rw [World.frozen?, lo]; rfl) (by have := errT_lt hT; omega)).mono ?_
  rintro e w6 ⟨rfl, hb⟩
  have hb := hb w3.heap.size (Nat.le_refl _) (by omega)
  have l0 := below_lies hb l0 (by omega)
  have l1 := below_lies hb l1 (by omega)
  have l2 := below_lies hb l2 (by omega)
  have bel := bw2.trans (hb.mono (by omega))
  clear hb lo bw2
  go_wp2_with fail
  rw [rounds_succ]
  have hf := lies_cell l2
  have zW := lies_lt l2
  go_wp2_with fail
  refine (RC _).mono ?_
  rintro e w7 ⟨⟨x, rfl, hx⟩, hb⟩
  obtain rfl : x = .nilIface := by rcases hx with h | h; exact h.2; cases h.1
  have lo : w7.heap[w6.heap.size]? = some (.cells #[.pointer none] 173 (0, 0)) := below_lies hb (heap_at _ _ _ rfl) (by simp)
  have l0' := below_lies hb (heap_in (o := .cells #[.pointer none] 173) l0) (by simp; omega)
  have l1' := below_lies hb (heap_in (o := .cells #[.pointer none] 173) l1) (by simp; omega)
  have l2' := below_lies hb (heap_in (o := .cells #[.pointer none] 173) l2) (by simp; omega)
  have bW1 : Below w6.heap.size w6 w7 := ((Below.refl _ _).alloc (Nat.le_refl _) _).trans (hb.mono (by simp))
  clear hb hf l0 l1 l2
  go_wp2_with (with_reducible show wpList _ _ _ (⟨none, Op.store 32 _ _, _, _, _, _⟩ :: _) _ _; refine wpList_putA rfl _ _ _ rfl rfl _ _ _ _ _ _ rfl rfl l1' n1 (by kernel_rfl) (by kernel_rfl) (by kernel_rfl) ?_; intro w8 p l1 n1'; refine stay_p ?_)
  have n1 := n1'
  have l0 := p.lies l0' (by omega)
  have l2 := p.lies l2' (by omega)
  have lo := p.lies lo (by omega)
  have bW2 : Below (w.heap.size + 1) w6 w8 := p.below (bW1.mono (by omega)) (Nat.le_refl _)
  have bw2 : Below w.heap.size w w8 := bel.trans (bW2.mono (by omega))
  have z2 : w6.heap.size < w8.heap.size := lies_lt lo
  unfold stayP
  clear p l0' l1' l2' bW1 bW2 n1'
  go_wp2_with fail
  refine (as_nil _ _).mono ?_
  rintro e w9 ⟨rfl, hw⟩
  have hw := hw.symm
  subst hw
  go_wp2_with (first
    | (with_reducible show wpList _ _ _ (⟨some 26, Op.load 32 _, _, _, _, _⟩ :: _) _ _; refine wpList_load_row rfl 32 _ rfl _ rfl _ _ _ _ l1 Tryz.underlying32 rfl (by kernel_rfl) ?_)
    | (with_reducible show wpList _ _ _ (⟨none, Op.store 32 _ _, _, _, _, _⟩ :: _) _ _; refine wpList_putA rfl _ _ _ rfl rfl _ _ _ _ _ _ rfl rfl l0 n0 (by kernel_rfl) (by kernel_rfl) (by kernel_rfl) ?_; intro w4 p l3 n3; refine stay_p ?_))
  have bw4 := p.below bw2 (Nat.le_refl _)
  unfold stayP
  go_wp2
  exact bodyPost_ret (v := .tuple #[.agg #[.bool false, .bool false, .int .i64 q], .nilIface]) (results_row_tmp Tryz.results116 _ _ _ _ (#[.bool false, .bool false, .int .i64 q]) _ _ _ rfl (l3.trans (congrArg (fun c => some (Obj.cells c 32 (0, 0))) (show _ = (#[.bool false, .bool false, .int .i64 q] : Array Value) by kernel_rfl))) Tryz.underlying32 rfl (by kernel_rfl) rfl) rfl ⟨⟨_, rfl, rfl⟩, bw4⟩

set_option maxRecDepth 100000 in
set_option maxHeartbeats 4000000 in
theorem readSize_no (v : ByteArray) (w : World) (hs : v.size ≤ 1048576) (h : autoB v = false) (h2 : pctFitB v = false) (h3 : readB v = false) (hT : ErrT w) :
    Calls Tryz.prog 116 #[.string v] w fun e w' => (∃ x, e = .returned (.tuple #[.agg #[.bool false, .bool false, .int .i64 0], x]) ∧ FormE x) ∧ Below w.heap.size w w' := by
  have RA := fun W => readAuto_any v W
  rw [h] at RA
  have RB := fun W => readPercent_form v W hs h2
  have RC := fun W => readPixelSize_any v W hs
  rw [h3] at RC
  rw [show readN v = 0 by simp [readN, h3]] at RC
  have n0 : (#[.bool false, .bool false, .int .i64 0] : Array Value).size = 3 := rfl
  have n1 := n0
  go_enter Tryz.func116, Tryz.ntmps116
  go_wp2_with fail
  refine wp_gen3 ?_
  intro W bel l0 l1 l2
  refine wp_loop_rounds 4 ?_
  rw [rounds_succ]
  have hf := lies_cell l2
  have zW := lies_lt l2
  go_wp2_with fail
  refine (RA _).mono ?_
  rintro e w1 ⟨⟨x, rfl, hx⟩, hb⟩
  obtain ⟨p, rfl⟩ : FormE x := by rcases hx with h | h; cases h.1; exact h.2
  have lo : w1.heap[W.heap.size]? = some (.cells #[.pointer none] 173 (0, 0)) := below_lies hb (heap_at _ _ _ rfl) (by simp)
  have l0' := below_lies hb (heap_in (o := .cells #[.pointer none] 173) l0) (by simp; omega)
  have l1' := below_lies hb (heap_in (o := .cells #[.pointer none] 173) l1) (by simp; omega)
  have l2' := below_lies hb (heap_in (o := .cells #[.pointer none] 173) l2) (by simp; omega)
  have bW1 : Below W.heap.size W w1 := ((Below.refl _ _).alloc (Nat.le_refl _) _).trans (hb.mono (by simp))
  clear hb hf l0 l1 l2
  go_wp2_with (with_reducible show wpList _ _ _ (⟨none, Op.store 32 _ _, _, _, _, _⟩ :: _) _ _; refine wpList_putA rfl _ _ _ rfl rfl _ _ _ _ _ _ rfl rfl l1' n1 (by kernel_rfl) (by kernel_rfl) (by kernel_rfl) ?_; intro w2 p l1 n1'; refine stay_p ?_)
  have n1 := n1'
  have l0 := p.lies l0' (by omega)
  have l2 := p.lies l2' (by omega)
  have lo := p.lies lo (by omega)
  have bW2 : Below (w.heap.size + 1) W w2 := p.below (bW1.mono (by omega)) (Nat.le_refl _)
  have bw2 : Below w.heap.size w w2 := bel.trans (bW2.mono (by omega))
  have z2 : W.heap.size < w2.heap.size := lies_lt lo
  unfold stayP
  clear p l0' l1' l2' bW1 bW2 n1'
  go_wp2_with fail
  refine (as_form _ W.heap.size (.pointer none) _ (hT.below bw2) ((lies_cell lo 0).trans rfl) (by rw [World.frozen?, lo]; rfl) (by have := errT_lt hT; omega)).mono ?_
  rintro e w3 ⟨rfl, hb⟩
  have hb := hb W.heap.size (Nat.le_refl _) (by omega)
  have l0 := below_lies hb l0 (by omega)
  have l1 := below_lies hb l1 (by omega)
  have l2 := below_lies hb l2 (by omega)
  have bel := bw2.trans (hb.mono (by omega))
  clear hb lo bw2
  go_wp2_with fail
  rw [rounds_succ]
  have hf := lies_cell l2
  have zW := lies_lt l2
  go_wp2_with fail
  refine (RB _).mono ?_
  rintro e w4 ⟨⟨x, rfl, hx⟩, hb⟩
  obtain ⟨p, rfl⟩ := hx
  have lo : w4.heap[w3.heap.size]? = some (.cells #[.pointer none] 173 (0, 0)) := below_lies hb (heap_at _ _ _ rfl) (by simp)
  have l0' := below_lies hb (heap_in (o := .cells #[.pointer none] 173) l0) (by simp; omega)
  have l1' := below_lies hb (heap_in (o := .cells #[.pointer none] 173) l1) (by simp; omega)
  have l2' := below_lies hb (heap_in (o := .cells #[.pointer none] 173) l2) (by simp; omega)
  have bW1 : Below w3.heap.size w3 w4 := ((Below.refl _ _).alloc (Nat.le_refl _) _).trans (hb.mono (by simp))
  clear hb hf l0 l1 l2
  go_wp2_with (with_reducible show wpList _ _ _ (⟨none, Op.store 32 _ _, _, _, _, _⟩ :: _) _ _; refine wpList_putA rfl _ _ _ rfl rfl _ _ _ _ _ _ rfl rfl l1' n1 (by kernel_rfl) (by kernel_rfl) (by kernel_rfl) ?_; intro w5 p l1 n1'; refine stay_p ?_)
  have n1 := n1'
  have l0 := p.lies l0' (by omega)
  have l2 := p.lies l2' (by omega)
  have lo := p.lies lo (by omega)
  have bW2 : Below (w.heap.size + 1) w3 w5 := p.below (bW1.mono (by omega)) (Nat.le_refl _)
  have bw2 : Below w.heap.size w w5 := bel.trans (bW2.mono (by omega))
  have z2 : w3.heap.size < w5.heap.size := lies_lt lo
  unfold stayP
  clear p l0' l1' l2' bW1 bW2 n1'
  go_wp2_with fail
  refine (as_form _ w3.heap.size (.pointer none) _ (hT.below bw2) ((lies_cell lo 0).trans rfl) (by rw [World.frozen?, lo]; rfl) (by have := errT_lt hT; omega)).mono ?_
  rintro e w6 ⟨rfl, hb⟩
  have hb := hb w3.heap.size (Nat.le_refl _) (by omega)
  have l0 := below_lies hb l0 (by omega)
  have l1 := below_lies hb l1 (by omega)
  have l2 := below_lies hb l2 (by omega)
  have bel := bw2.trans (hb.mono (by omega))
  clear hb lo bw2
  go_wp2_with fail
  rw [rounds_succ]
  have hf := lies_cell l2
  have zW := lies_lt l2
  go_wp2_with fail
  refine (RC _).mono ?_
  rintro e w7 ⟨⟨x, rfl, hx⟩, hb⟩
  obtain ⟨p, rfl⟩ : FormE x := by rcases hx with h | h; cases h.1; exact h.2
  have lo : w7.heap[w6.heap.size]? = some (.cells #[.pointer none] 173 (0, 0)) := below_lies hb (heap_at _ _ _ rfl) (by simp)
  have l0' := below_lies hb (heap_in (o := .cells #[.pointer none] 173) l0) (by simp; omega)
  have l1' := below_lies hb (heap_in (o := .cells #[.pointer none] 173) l1) (by simp; omega)
  have l2' := below_lies hb (heap_in (o := .cells #[.pointer none] 173) l2) (by simp; omega)
  have bW1 : Below w6.heap.size w6 w7 := ((Below.refl _ _).alloc (Nat.le_refl _) _).trans (hb.mono (by simp))
  clear hb hf l0 l1 l2
  go_wp2_with (with_reducible show wpList _ _ _ (⟨none, Op.store 32 _ _, _, _, _, _⟩ :: _) _ _; refine wpList_putA rfl _ _ _ rfl rfl _ _ _ _ _ _ rfl rfl l1' n1 (by kernel_rfl) (by kernel_rfl) (by kernel_rfl) ?_; intro w8 p l1 n1'; refine stay_p ?_)
  have n1 := n1'
  have l0 := p.lies l0' (by omega)
  have l2 := p.lies l2' (by omega)
  have lo := p.lies lo (by omega)
  have bW2 : Below (w.heap.size + 1) w6 w8 := p.below (bW1.mono (by omega)) (Nat.le_refl _)
  have bw2 : Below w.heap.size w w8 := bel.trans (bW2.mono (by omega))
  have z2 : w6.heap.size < w8.heap.size := lies_lt lo
  unfold stayP
  clear p l0' l1' l2' bW1 bW2 n1'
  go_wp2_with fail
  refine (as_form _ w6.heap.size (.pointer none) _ (hT.below bw2) ((lies_cell lo 0).trans rfl) (by rw [World.frozen?, lo]; rfl) (by have := errT_lt hT; omega)).mono ?_
  rintro e w9 ⟨rfl, hb⟩
  have hb := hb w6.heap.size (Nat.le_refl _) (by omega)
  have l0 := below_lies hb l0 (by omega)
  have l1 := below_lies hb l1 (by omega)
  have l2 := below_lies hb l2 (by omega)
  have bel := bw2.trans (hb.mono (by omega))
  clear hb lo bw2
  go_wp2_with fail
  rw [rounds_succ]
  go_wp2_with (first
    | (with_reducible show wpList _ _ _ (⟨some 26, Op.load 32 _, _, _, _, _⟩ :: _) _ _; refine wpList_load_row rfl 32 _ rfl _ rfl _ _ _ _ l1 Tryz.underlying32 rfl (by kernel_rfl) ?_)
    | (with_reducible show wpList _ _ _ (⟨none, Op.store 32 _ _, _, _, _, _⟩ :: _) _ _; refine wpList_putA rfl _ _ _ rfl rfl _ _ _ _ _ _ rfl rfl l0 n0 (by kernel_rfl) (by kernel_rfl) (by kernel_rfl) ?_; intro w12 pp l3 n3; refine stay_p ?_))
  have bw4 := pp.below bel (Nat.le_refl _)
  unfold stayP
  go_wp2
  exact bodyPost_ret (v := .tuple #[.agg #[.bool false, .bool false, .int .i64 0], .iface 173 (.pointer (some p))]) (results_row_tmp Tryz.results116 _ _ _ _ (#[.bool false, .bool false, .int .i64 0]) _ _ _ rfl (l3.trans (congrArg (fun c => some (Obj.cells c 32 (0, 0))) (show _ = (#[.bool false, .bool false, .int .i64 0] : Array Value) by kernel_rfl))) Tryz.underlying32 rfl (by kernel_rfl) rfl) rfl ⟨⟨_, rfl, _, rfl⟩, bw4⟩

theorem readSize_any (v : ByteArray) (w : World) (hs : v.size ≤ 1048576) (ab : Addr) (hE : BeyE ab w) (hT : ErrT w) :
    Calls Tryz.prog 116 #[.string v] w fun e w' => (∃ x, e = .returned (.tuple #[.agg #[.bool (szVal v).a, .bool (szVal v).p, .int .i64 (szVal v).n], x]) ∧ ((szOk v = true ∧ x = .nilIface) ∨ (szOk v = false ∧ FaultE ab x))) ∧ Below w.heap.size w w' := by
  cases h1 : autoB v
  · cases h2 : pctFitB v
    · cases h3 : readB v
      · have e1 : szOk v = false := by simp [szOk, h1, h2, h3]
        have e2 : szVal v = ⟨false, false, 0⟩ := by simp [szVal, h1, h2, readN, h3]
        rw [e1, e2]
        exact (readSize_no v w hs h1 h2 h3 hT).mono fun e w' ⟨⟨x, hx, hf⟩, hb⟩ => ⟨⟨x, hx, .inr ⟨rfl, .inl hf⟩⟩, hb⟩
      · have e1 : szOk v = true := by simp [szOk, h1, h2, h3]
        have e2 : szVal v = ⟨false, false, readN v⟩ := by simp [szVal, h1, h2]
        rw [e1, e2]
        exact (readSize_px v w hs h1 h2 h3 hT).mono fun e w' ⟨⟨x, hx, hf⟩, hb⟩ => ⟨⟨x, hx, .inl ⟨rfl, hf⟩⟩, hb⟩
    · cases h3 : pctOk v
      · have e1 : szOk v = false := by simp [szOk, h1, h2, h3]
        have e2 : szVal v = ⟨false, false, 0⟩ := by simp [szVal, h1, h2, h3]
        rw [e1, e2]
        exact (readSize_far v w hs h1 h2 h3 ab hE hT).mono fun e w' ⟨⟨x, hx, hf⟩, hb⟩ => ⟨⟨x, hx, .inr ⟨rfl, .inr hf⟩⟩, hb⟩
      · have e1 : szOk v = true := by simp [szOk, h1, h2, h3]
        have e2 : szVal v = ⟨false, true, pctSgn v⟩ := by simp [szVal, h1, h2, h3]
        rw [e1, e2]
        exact (readSize_pct v w hs h1 h2 h3 ab hE hT).mono fun e w' ⟨⟨x, hx, hf⟩, hb⟩ => ⟨⟨x, hx, .inl ⟨rfl, hf⟩⟩, hb⟩
  · have e1 : szOk v = true := by simp [szOk, h1]
    have e2 : szVal v = ⟨true, false, 0⟩ := by simp [szVal, h1]
    rw [e1, e2]
    exact (readSize_auto v w h1).mono fun e w' ⟨⟨x, hx, hf⟩, hb⟩ => ⟨⟨x, hx, .inl ⟨rfl, hf⟩⟩, hb⟩
end Go.Proofs.YtddnphgpdnedbaaGreatDoor
