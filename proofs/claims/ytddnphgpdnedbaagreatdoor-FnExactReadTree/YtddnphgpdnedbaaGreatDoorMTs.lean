/-
  The library's Builder at this seat's own program: copyCheck and WriteString, at a builder that the call itself has made.
  The program's tellStyle, for every style: the text of a good style all of whose things can be told, else a fault.
  The program's StyleText, for every style.
-/
import Derived.Test.YtddnphgpdnedbaaGreatDoorMSb
import Derived.Lib.Builder
import Derived.Shelf.Strings.Builder1
import Derived.Test.YtddnphgpdnedbaaGreatDoorMTl
import Derived.Test.YtddnphgpdnedbaaGreatDoorShelfB
import Derived.Deep.RegionHeld3
import Derived.RegionTactic
namespace Go.Proofs.YtddnphgpdnedbaaGreatDoor
open Go.ChangeShapes Go.WideShapes Go.ChangeAt Go.RowKit
set_option linter.unusedVariables false

theorem bldSize : (Tryz.prog.info? 60).map (·.size) = some 2 := by kernel_rfl
theorem bldLies : liesAt Tryz.prog Tryz.prog.depth 60 (2 / Tryz.prog.cellsOf 60) 0 60 1 = true := by kernel_rfl
set_option maxHeartbeats 1000000 in
set_option maxRecDepth 100000 in
theorem copyCheck_used (b : Nat) (w : World) (h0 : w.cell? ⟨b, 0, none⟩ = some (.pointer (some ⟨b, 0, none⟩))) :
    Calls Tryz.prog 60 #[.pointer (some ⟨b, 0, none⟩)] w fun e w' => e = .returned (.tuple #[]) ∧ w' = w := by
  obtain ⟨j, hj, hjs⟩ := Option.map_eq_some_iff.1 bldSize
  go_enter Tryz.func60, Tryz.ntmps60
  go_wp2
  rw [Lib.run_neq_ptr_same w _ Tryz.underlying57 hj]
  go_wp2
  go_end0
  exact ⟨rfl, rfl⟩
set_option maxHeartbeats 1000000 in
set_option maxRecDepth 100000 in
theorem copyCheck_fresh (b : Nat) (w : World) (h0 : w.cell? ⟨b, 0, none⟩ = some (.pointer none)) (hsh : w.shape? b = some (60, 2)) (hfz : w.frozen? ⟨b, 0, none⟩ = false) :
    Calls Tryz.prog 60 #[.pointer (some ⟨b, 0, none⟩)] w fun e w' => e = .returned (.tuple #[]) ∧ w' = w.setCell ⟨b, 0, none⟩ (.pointer (some ⟨b, 0, none⟩)) := by
  obtain ⟨j, hj, hjs⟩ := Option.map_eq_some_iff.1 bldSize
  go_enter Tryz.func60, Tryz.ntmps60
  go_wp2
  rw [Lib.run_to_unsafe w ⟨b, 0, none⟩ Tryz.underlying57 Tryz.underlying114 hj (by rw [hjs]; decide) hsh (Nat.zero_lt_succ 1)]
  simp only [Result.andThen]
  rw [Oper.upon_value]
  go_wp2
  rw [run_callFunc_extern Tryz.func82 (by kernel_rfl) (by kernel_rfl) (by kernel_rfl) (e := Extern.AbiNoEscape.same) (by kernel_rfl)]
  rw [Lib.run_noEscape]
  simp only [Result.andThen]
  rw [Oper.upon_value]
  go_wp2
  rw [Lib.run_from_unsafe w ⟨b, 0, none⟩ Tryz.underlying114 Tryz.underlying57 hj hsh bldLies]
  simp only [Result.andThen]
  rw [Oper.upon_value]
  go_wp2
  go_end0
  exact ⟨rfl, rfl⟩

theorem bldInfo : ∃ i0, Tryz.prog.info? 5 = some i0 ∧ i0.zero = some (.int .u8 0) ∧ i0.size = 1 ∧ i0.bytes = 1 := info_parts (by kernel_rfl)
/-- All rows but bytes, and but the builder itself, stand. -/
def OthersStand (b : Nat) (w w' : World) : Prop := ∀ k cs T fr, k ≠ b → T ≠ 5 → w.heap[k]? = some (.cells cs T fr) → w'.heap[k]? = some (.cells cs T fr)
theorem copyCheck_any (B b : Nat) (bs : List Value) (w : World) (h : Lib.IsBuilder 60 5 B b bs w) :
    Calls Tryz.prog 60 #[.pointer (some ⟨b, 0, none⟩)] w fun e w' => e = .returned (.tuple #[]) ∧ Lib.BuilderAt 60 5 B b (.pointer (some ⟨b, 0, none⟩)) bs w' ∧ Below B w w' ∧ OthersStand b w w' := by
  rcases h with h | h
  · refine (copyCheck_fresh b w h.cell0 h.shape h.frozen0).mono ?_
    rintro e w' ⟨rfl, rfl⟩
    exact ⟨rfl, h.used _, (Below.refl B w).setCell (p := ⟨b, 0, none⟩) h.1 _, fun k cs T fr hk _ hl => (Below.heap_setCell _ _ _ _ hk).trans hl⟩
  · refine (copyCheck_used b w h.cell0).mono ?_
    rintro e w' ⟨rfl, rfl⟩
    exact ⟨rfl, h, Below.refl B _, fun k cs T fr _ _ hl => hl⟩
set_option maxHeartbeats 2000000 in
set_option maxRecDepth 100000 in
theorem write_any (B b : Nat) (bs : List Value) (s : ByteArray) (w : World) (h : Lib.IsBuilder 60 5 B b bs w) (hlen : bs.length + s.size ≤ 140737488355328) (hBw : B ≤ w.heap.size) :
    Calls Tryz.prog 31 #[.pointer (some ⟨b, 0, none⟩), .string s] w fun e w' => e = .returned (.tuple #[.int .i64 s.size, .nilIface]) ∧ Lib.BuilderAt 60 5 B b (.pointer (some ⟨b, 0, none⟩)) (bs ++ Lib.strCells s) w' ∧ Below B w w' ∧ OthersStand b w w' := by
  obtain ⟨i0, hi, hz0, hz1, hz2⟩ := bldInfo
  go_enter Tryz.func31, Tryz.ntmps31
  go_wp2_with (go_at_call 60; refine (copyCheck_any B b bs _ h).mono ?_)
  rintro e w1 ⟨rfl, h1, hb1, ho1⟩
  obtain ⟨hB, v, hbk, hown, hne⟩ := h1
  have c0 : w1.cell? ⟨b, 0, none⟩ = some (.pointer (some ⟨b, 0, none⟩)) := by rw [Lib.cell_of_heap hbk]; rfl
  have c1 : w1.cell? ⟨b, 1, none⟩ = some v := by rw [Lib.cell_of_heap hbk]; rfl
  have HO : Hid (OthersStand b w w1) := ho1
  clear ho1
  go_wp2_with (at_builtin; refine Lib.wpList_append_own_string _ rfl _ _ 58 9 rfl B 5 i0 Tryz.underlying58 Tryz.underlying9 hi hz0 hz1 hz2 _ _ _ rfl hown s rfl ?c3 ?c4 ?c5 ?_)
  case c3 => unfold maxLen; omega
  case c4 => omega
  case c5 => have := hb1.size; omega
  intro v' w2 hown' hgrow _
  have hlt : b < w1.heap.size := lies_lt hbk
  have hb2 : w2.heap[b]? = some (.cells #[.pointer (some ⟨b, 0, none⟩), v] 60 (0, 0)) := by
    rw [hgrow.block b hlt (fun e => hne e.symm)]
    exact hbk
  have d0 : w2.cell? ⟨b, 0, none⟩ = some (.pointer (some ⟨b, 0, none⟩)) := by rw [Lib.cell_of_heap hb2]; rfl
  have d1 : w2.cell? ⟨b, 1, none⟩ = some v := by rw [Lib.cell_of_heap hb2]; rfl
  have f1 : w2.frozen? ⟨b, 1, none⟩ = false := Lib.frozen_of_heap hb2 1
  obtain ⟨ao, n', cap, rfl⟩ : ∃ ao n' cap, v' = .slice ao n' cap := by
    rcases hown'.2 with ⟨hv, _⟩ | ⟨g, cap, cur, hv, _⟩
    · exact ⟨_, _, _, hv⟩
    · exact ⟨_, _, _, hv⟩
  go_wp2
  go_ret2
  refine ⟨rfl, ?_, ?_, ?_⟩
  · exact Lib.BuilderAt.put (T := 60) (e := 5) hB hb2 (bs' := bs ++ Lib.strCells s) (by simpa [Lib.strCells_length] using hown') (by decide)
  · exact (hb1.grown hgrow (by have := hb1.size; omega) (fun k hk => (hown.lt k hk).1)).setCell (p := ⟨b, 1, none⟩) hB _
  · intro k cs T fr hk hT hl
    have l1 := HO.out k cs T fr hk hT hl
    have l2 : w2.heap[k]? = some (.cells cs T fr) := by
      rw [hgrow.block k (lies_lt l1) (fun e => Lib.ownBlock_ne hown l1 hT e.symm)]
      exact l1
    exact (Below.heap_setCell _ _ _ _ hk).trans l2
end Go.Proofs.YtddnphgpdnedbaaGreatDoor

namespace Go.Proofs.YtddnphgpdnedbaaGreatDoor
open Go.ChangeShapes Go.WideShapes Go.ChangeAt Go.RowKit
set_option linter.unusedVariables false

theorem bld_below {B b : Nat} {bs : List Value} {w w' : World} (h : Lib.IsBuilder 60 5 B b bs w) (hb : Below w.heap.size w w') : Lib.IsBuilder 60 5 B b bs w' := by
  have at_ : ∀ p, Lib.BuilderAt 60 5 B b p bs w → Lib.BuilderAt 60 5 B b p bs w' := fun p ⟨hB, v, hk, hown, hne⟩ =>
    ⟨hB, v, below_lies hb hk (lies_lt hk), hown.kept (row := none) ⟨hb.os, hb.tape, hb.output, hb.size, fun k hk _ => hb.block k hk⟩ (by cases h : v.ownBlock <;> simp), hne⟩
  rcases h with h | h
  · exact .inl (at_ _ h)
  · exact .inr (at_ _ h)
theorem bld_lt {B b : Nat} {bs : List Value} {w : World} (h : Lib.IsBuilder 60 5 B b bs w) : b < w.heap.size := by
  rcases h with h | h
  · exact h.lt
  · exact h.lt
theorem strCells_app (a b : ByteArray) : Lib.strCells a ++ Lib.strCells b = Lib.strCells (a ++ b) := by simp [Lib.strCells]

set_option maxRecDepth 100000 in
set_option maxHeartbeats 8000000 in
theorem tellStyle_any (s : St) (w : World) (E : Env w) :
    Calls Tryz.prog 81 #[.agg #[.int .i64 s.sh, .int .i64 s.fl, .int .i64 s.cl, .bool s.w.a, .bool s.w.p, .int .i64 s.w.n, .bool s.h.a, .bool s.h.p, .int .i64 s.h.n, .int .i64 s.mn, .int .i64 s.mx, .int .i64 s.mt, .bool s.mr.a, .bool s.mr.p, .int .i64 s.mr.n, .int .i64 s.mb, .bool s.ml.a, .bool s.ml.p, .int .i64 s.ml.n, .int .i64 s.bo, .int .i64 s.pa, .int .i64 s.wh, .int .i64 s.al, .int .i64 s.lh, .int .i64 s.ri, .int .i64 s.dn]] w fun e w' => Told (styleB s && okTo s 18) (textTo s 18) e ∧ Below w.heap.size w w' := by
  obtain ⟨bt, bv, hbt⟩ := (E.below ((Below.refl w.heap.size w).alloc (Nat.le_refl _) (.cells (#[.int .i64 s.sh, .int .i64 s.fl, .int .i64 s.cl, .bool s.w.a, .bool s.w.p, .int .i64 s.w.n, .bool s.h.a, .bool s.h.p, .int .i64 s.h.n, .int .i64 s.mn, .int .i64 s.mx, .int .i64 s.mt, .bool s.mr.a, .bool s.mr.p, .int .i64 s.mr.n, .int .i64 s.mb, .bool s.ml.a, .bool s.ml.p, .int .i64 s.ml.n, .int .i64 s.bo, .int .i64 s.pa, .int .i64 s.wh, .int .i64 s.al, .int .i64 s.lh, .int .i64 s.ri, .int .i64 s.dn]) 34)) (Nat.le_refl _)).b
  have CK := checkStyle_any s (w.alloc (.cells (#[.int .i64 s.sh, .int .i64 s.fl, .int .i64 s.cl, .bool s.w.a, .bool s.w.p, .int .i64 s.w.n, .bool s.h.a, .bool s.h.p, .int .i64 s.h.n, .int .i64 s.mn, .int .i64 s.mx, .int .i64 s.mt, .bool s.mr.a, .bool s.mr.p, .int .i64 s.mr.n, .int .i64 s.mb, .bool s.ml.a, .bool s.ml.p, .int .i64 s.ml.n, .int .i64 s.bo, .int .i64 s.pa, .int .i64 s.wh, .int .i64 s.al, .int .i64 s.lh, .int .i64 s.ri, .int .i64 s.dn]) 34)) bt bv hbt
  rw [allT_eq] at CK
  have l0 : (w.alloc (.cells (#[.int .i64 s.sh, .int .i64 s.fl, .int .i64 s.cl, .bool s.w.a, .bool s.w.p, .int .i64 s.w.n, .bool s.h.a, .bool s.h.p, .int .i64 s.h.n, .int .i64 s.mn, .int .i64 s.mx, .int .i64 s.mt, .bool s.mr.a, .bool s.mr.p, .int .i64 s.mr.n, .int .i64 s.mb, .bool s.ml.a, .bool s.ml.p, .int .i64 s.ml.n, .int .i64 s.bo, .int .i64 s.pa, .int .i64 s.wh, .int .i64 s.al, .int .i64 s.lh, .int .i64 s.ri, .int .i64 s.dn]) 34)).heap[w.heap.size]? = some (.cells (#[.int .i64 s.sh, .int .i64 s.fl, .int .i64 s.cl, .bool s.w.a, .bool s.w.p, .int .i64 s.w.n, .bool s.h.a, .bool s.h.p, .int .i64 s.h.n, .int .i64 s.mn, .int .i64 s.mx, .int .i64 s.mt, .bool s.mr.a, .bool s.mr.p, .int .i64 s.mr.n, .int .i64 s.mb, .bool s.ml.a, .bool s.ml.p, .int .i64 s.ml.n, .int .i64 s.bo, .int .i64 s.pa, .int .i64 s.wh, .int .i64 s.al, .int .i64 s.lh, .int .i64 s.ri, .int .i64 s.dn]) 34 (0, 0)) := heap_at _ _ _ rfl
  clear hbt
  go_enter Tryz.func81, Tryz.ntmps81
  go_wp2_with ((with_reducible show wpList _ _ _ (⟨some 12, Op.load 34 _, _, _, _, _⟩ :: _) _ _); refine wpList_load_row rfl 34 _ rfl w.heap.size rfl _ (#[.int .i64 s.sh, .int .i64 s.fl, .int .i64 s.cl, .bool s.w.a, .bool s.w.p, .int .i64 s.w.n, .bool s.h.a, .bool s.h.p, .int .i64 s.h.n, .int .i64 s.mn, .int .i64 s.mx, .int .i64 s.mt, .bool s.mr.a, .bool s.mr.p, .int .i64 s.mr.n, .int .i64 s.mb, .bool s.ml.a, .bool s.ml.p, .int .i64 s.ml.n, .int .i64 s.bo, .int .i64 s.pa, .int .i64 s.wh, .int .i64 s.al, .int .i64 s.lh, .int .i64 s.ri, .int .i64 s.dn]) _ _ l0 Tryz.underlying34 rfl (by kernel_rfl) ?_)
  refine CK.mono ?_
  rintro e w1 ⟨v, rfl, hv, hb⟩
  have bel : Below w.heap.size w w1 := ((Below.refl _ _).alloc (Nat.le_refl _) _).trans (hb.mono (by simp))
  replace l0 := below_lies hb l0 (by simp)
  clear hb CK
  rcases hv with ⟨hs, rfl⟩ | ⟨hs, a, rfl⟩
  rotate_left
  · go_wp2
    go_ret2
    exact ⟨.inr ⟨by simp [hs], _, _, rfl⟩, bel⟩
  have HS : Hid (styleB s = true) := hs
  clear hs
  have lm : w.heap.size < w1.heap.size := lies_lt l0
  go_wp2_with (first
    | (go_at_call 92; refine (implPlain_at _).mono ?_; rintro e w2 ⟨rfl, rfl⟩)
    | ((with_reducible show wpList _ _ _ (⟨none, Op.store 34 (Operand.tmp 5) (Operand.tmp 17), _, _, _, _⟩ :: _) _ _); refine wpList_store_new rfl 34 _ _ rfl rfl (#[.int .i64 1, .int .i64 0, .int .i64 0, .bool true, .bool false, .int .i64 0, .bool true, .bool false, .int .i64 0, .int .i64 0, .int .i64 (-1), .int .i64 0, .bool false, .bool false, .int .i64 0, .int .i64 0, .bool false, .bool false, .int .i64 0, .int .i64 0, .int .i64 0, .int .i64 1, .int .i64 1, .int .i64 0, .int .i64 0, .int .i64 0]) 34 _ _ (by simp) rfl rfl (by kernel_rfl) rfl (by kernel_rfl) ?_)
    | (go_at_call 93; refine (thingsOf_at _ _).mono ?_; rintro e w2 ⟨rfl, rfl⟩))
  go_loopw [21] (fun i wr => ∃ k : Nat, k ≤ 18 ∧ i = .int .i64 k ∧ okTo s k = true ∧ wr.heap[w.heap.size]? = some (.cells (#[.int .i64 s.sh, .int .i64 s.fl, .int .i64 s.cl, .bool s.w.a, .bool s.w.p, .int .i64 s.w.n, .bool s.h.a, .bool s.h.p, .int .i64 s.h.n, .int .i64 s.mn, .int .i64 s.mx, .int .i64 s.mt, .bool s.mr.a, .bool s.mr.p, .int .i64 s.mr.n, .int .i64 s.mb, .bool s.ml.a, .bool s.ml.p, .int .i64 s.ml.n, .int .i64 s.bo, .int .i64 s.pa, .int .i64 s.wh, .int .i64 s.al, .int .i64 s.lh, .int .i64 s.ri, .int .i64 s.dn]) 34 (0, 0)) ∧ wr.heap[w1.heap.size + 1]? = some (.cells (#[.int .i64 1, .int .i64 0, .int .i64 0, .bool true, .bool false, .int .i64 0, .bool true, .bool false, .int .i64 0, .int .i64 0, .int .i64 (-1), .int .i64 0, .bool false, .bool false, .int .i64 0, .int .i64 0, .bool false, .bool false, .int .i64 0, .int .i64 0, .int .i64 0, .int .i64 1, .int .i64 1, .int .i64 0, .int .i64 0, .int .i64 0]) 34 (0, 0)) ∧ wr.heap[w1.heap.size + 1 + 1]? = some (.cells (thingCells (w1.heap.size + 1)) 130 (0, 0)) ∧ wr.heap[w1.heap.size + 1 + 1 + 1 + 1]? = some (.cells (thingCells w.heap.size) 130 (0, 0)) ∧ Lib.IsBuilder 60 5 (w1.heap.size + 1 + 1 + 1) (w1.heap.size + 1 + 1 + 1) (Lib.strCells (textTo s k)) wr ∧ Below w.heap.size w wr) (fun i _ => 18 - (intOf i).toNat)
  case atStart =>
    refine ⟨0, by omega, rfl, rfl, ?_, ?_, ?_, ?_, ?_, ?_⟩
    · exact heap_in (heap_in (heap_in (heap_in (heap_in l0))))
    · exact heap_in (heap_in (heap_in (heap_at _ _ _ (by simp))))
    · exact heap_in (heap_in (heap_at _ _ _ (by simp)))
    · exact heap_at _ _ _ (by simp)
    · have q := Lib.fresh_isBuilder 60 5 (((w1.alloc (.cells (#[.int .i64 1, .int .i64 0, .int .i64 0, .bool true, .bool false, .int .i64 0, .bool true, .bool false, .int .i64 0, .int .i64 0, .int .i64 (-1), .int .i64 0, .bool false, .bool false, .int .i64 0, .int .i64 0, .bool false, .bool false, .int .i64 0, .int .i64 0, .int .i64 0, .int .i64 1, .int .i64 1, .int .i64 0, .int .i64 0, .int .i64 0]) 34)).alloc (.cells (#[.int .i64 1, .int .i64 0, .int .i64 0, .bool true, .bool false, .int .i64 0, .bool true, .bool false, .int .i64 0, .int .i64 0, .int .i64 (-1), .int .i64 0, .bool false, .bool false, .int .i64 0, .int .i64 0, .bool false, .bool false, .int .i64 0, .int .i64 0, .int .i64 0, .int .i64 1, .int .i64 1, .int .i64 0, .int .i64 0, .int .i64 0]) 34)).alloc (.cells (thingCells (w1.heap.size + 1)) 130))
      have e : (((w1.alloc (.cells (#[.int .i64 1, .int .i64 0, .int .i64 0, .bool true, .bool false, .int .i64 0, .bool true, .bool false, .int .i64 0, .int .i64 0, .int .i64 (-1), .int .i64 0, .bool false, .bool false, .int .i64 0, .int .i64 0, .bool false, .bool false, .int .i64 0, .int .i64 0, .int .i64 0, .int .i64 1, .int .i64 1, .int .i64 0, .int .i64 0, .int .i64 0]) 34)).alloc (.cells (#[.int .i64 1, .int .i64 0, .int .i64 0, .bool true, .bool false, .int .i64 0, .bool true, .bool false, .int .i64 0, .int .i64 0, .int .i64 (-1), .int .i64 0, .bool false, .bool false, .int .i64 0, .int .i64 0, .bool false, .bool false, .int .i64 0, .int .i64 0, .int .i64 0, .int .i64 1, .int .i64 1, .int .i64 0, .int .i64 0, .int .i64 0]) 34)).alloc (.cells (thingCells (w1.heap.size + 1)) 130)).heap.size = w1.heap.size + 1 + 1 + 1 := by simp
      rw [e] at q
      have q2 := bld_below q ((Below.refl _ _).alloc (Nat.le_refl _) (.cells (thingCells w.heap.size) 130))
      exact bld_below q2 ⟨rfl, rfl, rfl, Nat.le_refl _, fun _ _ => rfl⟩
    · have q := (((((bel.alloc (by omega) (.cells (#[.int .i64 1, .int .i64 0, .int .i64 0, .bool true, .bool false, .int .i64 0, .bool true, .bool false, .int .i64 0, .int .i64 0, .int .i64 (-1), .int .i64 0, .bool false, .bool false, .int .i64 0, .int .i64 0, .bool false, .bool false, .int .i64 0, .int .i64 0, .int .i64 0, .int .i64 1, .int .i64 1, .int .i64 0, .int .i64 0, .int .i64 0]) 34)).alloc (by simp; omega) (.cells (#[.int .i64 1, .int .i64 0, .int .i64 0, .bool true, .bool false, .int .i64 0, .bool true, .bool false, .int .i64 0, .int .i64 0, .int .i64 (-1), .int .i64 0, .bool false, .bool false, .int .i64 0, .int .i64 0, .bool false, .bool false, .int .i64 0, .int .i64 0, .int .i64 0, .int .i64 1, .int .i64 1, .int .i64 0, .int .i64 0, .int .i64 0]) 34)).alloc (by simp; omega) (.cells (thingCells (w1.heap.size + 1)) 130)).alloc (by simp; omega) (.cells #[.pointer none, .slice none 0 0] 60)).alloc (by simp; omega) (.cells (thingCells w.heap.size) 130))
      exact ⟨q.os, q.tape, q.output, q.size, q.block⟩
  case round =>
    obtain ⟨k, hk, rfl, hok, lS, lP, lT, lT2, lB, belr⟩ := hrel
    have ltb := lies_lt lT2
    by_cases hlt : k < 18
    rotate_left
    · have e : k = 18 := by omega
      subst e
      have ST := Tryz.Builder_String_any (w1.heap.size + 1 + 1 + 1) (w1.heap.size + 1 + 1 + 1) (textTo s 18).data.toList wr (by rw [← Lib.strCells_eq]; exact lB) (Nat.le_of_lt (bld_lt lB))
      have et : (⟨(textTo s 18).data.toList.toArray⟩ : ByteArray) = textTo s 18 := by simp
      rw [et] at ST
      have HOK : Hid (okTo s 18 = true) := hok
      clear lS lP lT lT2 lB et hok
      go_wp2_with (go_at_call 34; refine ST.mono ?_; rintro e w4 ⟨rfl, hb4⟩)
      go_ret2
      exact ⟨.inl ⟨by rw [HS.out, HOK.out]; rfl, rfl⟩, belr.trans (hb4.mono (by omega))⟩
    have HOK : Hid (okTo s k = true) := hok
    obtain ⟨t0, t1, t2, t3, t4, t5⟩ := thing_cells w.heap.size hlt
    obtain ⟨u0, u1, u2, u3, u4, u5⟩ := thing_cells (w1.heap.size + 1) hlt
    have c0 := (lies_cell lT2 _).trans t0
    have c1 := (lies_cell lT2 _).trans t1
    have c2 := (lies_cell lT2 _).trans t2
    have c3 := (lies_cell lT2 _).trans t3
    have c4 := (lies_cell lT2 _).trans t4
    have c5 := (lies_cell lT2 _).trans t5
    have d0 := (lies_cell lT _).trans u0
    have d1 := (lies_cell lT _).trans u1
    have d2 := (lies_cell lT _).trans u2
    have d3 := (lies_cell lT _).trans u3
    have d4 := (lies_cell lT _).trans u4
    have d5 := (lies_cell lT _).trans u5
    clear t0 t1 t2 t3 t4 t5 u0 u1 u2 u3 u4 u5 hok
    have LS : Hid (wr.heap[w.heap.size]? = some (.cells (#[.int .i64 s.sh, .int .i64 s.fl, .int .i64 s.cl, .bool s.w.a, .bool s.w.p, .int .i64 s.w.n, .bool s.h.a, .bool s.h.p, .int .i64 s.h.n, .int .i64 s.mn, .int .i64 s.mx, .int .i64 s.mt, .bool s.mr.a, .bool s.mr.p, .int .i64 s.mr.n, .int .i64 s.mb, .bool s.ml.a, .bool s.ml.p, .int .i64 s.ml.n, .int .i64 s.bo, .int .i64 s.pa, .int .i64 s.wh, .int .i64 s.al, .int .i64 s.lh, .int .i64 s.ri, .int .i64 s.dn]) 34 (0, 0))) := lS
    have LP : Hid (wr.heap[w1.heap.size + 1]? = some (.cells (#[.int .i64 1, .int .i64 0, .int .i64 0, .bool true, .bool false, .int .i64 0, .bool true, .bool false, .int .i64 0, .int .i64 0, .int .i64 (-1), .int .i64 0, .bool false, .bool false, .int .i64 0, .int .i64 0, .bool false, .bool false, .int .i64 0, .int .i64 0, .int .i64 0, .int .i64 1, .int .i64 1, .int .i64 0, .int .i64 0, .int .i64 0]) 34 (0, 0))) := lP
    have LT : Hid (wr.heap[w1.heap.size + 1 + 1]? = some (.cells (thingCells (w1.heap.size + 1)) 130 (0, 0))) := lT
    have LT2 : Hid (wr.heap[w1.heap.size + 1 + 1 + 1 + 1]? = some (.cells (thingCells w.heap.size) 130 (0, 0))) := lT2
    have LB : Hid (Lib.IsBuilder 60 5 (w1.heap.size + 1 + 1 + 1) (w1.heap.size + 1 + 1 + 1) (Lib.strCells (textTo s k)) wr) := lB
    clear lS lP lT lT2 lB bel l0
    have SM := same_any s w.heap.size (w1.heap.size + 1) k hlt (wr.alloc (.cells (#[.string (nmT k), .pointer (p1T w.heap.size k), .pointer (p2T w.heap.size k), .int .i64 (loT k), .int .i64 (hiT k), .bool (npT k)]) 130)).drew (heap_in LS.out) (heap_in LP.out)
    go_wp2_with fail
    go_region_held3 (fun w' => w'.cell? ⟨wr.heap.size, 0, none⟩ = some (.string (nmT k)) ∧ w'.cell? ⟨wr.heap.size, 1, none⟩ = some (.pointer (p1T (w.heap.size) k)) ∧ w'.cell? ⟨wr.heap.size, 2, none⟩ = some (.pointer (p2T (w.heap.size) k)) ∧ w'.cell? ⟨wr.heap.size, 3, none⟩ = some (.int .i64 (loT k)) ∧ w'.cell? ⟨wr.heap.size, 4, none⟩ = some (.int .i64 (hiT k)) ∧ w'.cell? ⟨wr.heap.size, 5, none⟩ = some (.bool (npT k)) ∧ w'.cell? ⟨w1.heap.size + 1 + 1, k * 6, none⟩ = some (.string (nmT k)) ∧ w'.cell? ⟨w1.heap.size + 1 + 1, k * 6 + 1, none⟩ = some (.pointer (p1T (w1.heap.size + 1) k)) ∧ w'.cell? ⟨w1.heap.size + 1 + 1, k * 6 + 2, none⟩ = some (.pointer (p2T (w1.heap.size + 1) k)) ∧ w'.cell? ⟨w1.heap.size + 1 + 1, k * 6 + 3, none⟩ = some (.int .i64 (loT k)) ∧ w'.cell? ⟨w1.heap.size + 1 + 1, k * 6 + 4, none⟩ = some (.int .i64 (hiT k)) ∧ w'.cell? ⟨w1.heap.size + 1 + 1, k * 6 + 5, none⟩ = some (.bool (npT k)))
      (first | go_keep | exact hx)
      ((first
        | (go_at_call 99; go_fit SM; rintro e w2 ⟨rfl, hb⟩; have hb' : Below (wr.heap.size + 1) (wr.alloc (.cells (#[.string (nmT k), .pointer (p1T w.heap.size k), .pointer (p2T w.heap.size k), .int .i64 (loT k), .int .i64 (hiT k), .bool (npT k)]) 130)) w2 := ⟨hb.os, hb.tape, hb.output, hb.size, fun k hk => hb.block k (by simp; omega)⟩; have lC : w2.heap[wr.heap.size]? = some (.cells (#[.string (nmT k), .pointer (p1T w.heap.size k), .pointer (p2T w.heap.size k), .int .i64 (loT k), .int .i64 (hiT k), .bool (npT k)]) 130 (0, 0)) := below_lies hb' (heap_at _ _ _ rfl) (by omega); have lT3 := below_lies hb' (heap_in (o := (.cells (#[.string (nmT k), .pointer (p1T w.heap.size k), .pointer (p2T w.heap.size k), .int .i64 (loT k), .int .i64 (hiT k), .bool (npT k)]) 130)) LT.out) (by omega); have hx := (⟨lies_cell lC 0, lies_cell lC 1, lies_cell lC 2, lies_cell lC 3, lies_cell lC 4, lies_cell lC 5, (lies_cell lT3 _).trans (thing_cells _ hlt).1, (lies_cell lT3 _).trans (thing_cells _ hlt).2.1, (lies_cell lT3 _).trans (thing_cells _ hlt).2.2.1, (lies_cell lT3 _).trans (thing_cells _ hlt).2.2.2.1, (lies_cell lT3 _).trans (thing_cells _ hlt).2.2.2.2.1, (lies_cell lT3 _).trans (thing_cells _ hlt).2.2.2.2.2⟩ : (fun w' => w'.cell? ⟨wr.heap.size, 0, none⟩ = some (.string (nmT k)) ∧ w'.cell? ⟨wr.heap.size, 1, none⟩ = some (.pointer (p1T (w.heap.size) k)) ∧ w'.cell? ⟨wr.heap.size, 2, none⟩ = some (.pointer (p2T (w.heap.size) k)) ∧ w'.cell? ⟨wr.heap.size, 3, none⟩ = some (.int .i64 (loT k)) ∧ w'.cell? ⟨wr.heap.size, 4, none⟩ = some (.int .i64 (hiT k)) ∧ w'.cell? ⟨wr.heap.size, 5, none⟩ = some (.bool (npT k)) ∧ w'.cell? ⟨w1.heap.size + 1 + 1, k * 6, none⟩ = some (.string (nmT k)) ∧ w'.cell? ⟨w1.heap.size + 1 + 1, k * 6 + 1, none⟩ = some (.pointer (p1T (w1.heap.size + 1) k)) ∧ w'.cell? ⟨w1.heap.size + 1 + 1, k * 6 + 2, none⟩ = some (.pointer (p2T (w1.heap.size + 1) k)) ∧ w'.cell? ⟨w1.heap.size + 1 + 1, k * 6 + 3, none⟩ = some (.int .i64 (loT k)) ∧ w'.cell? ⟨w1.heap.size + 1 + 1, k * 6 + 4, none⟩ = some (.int .i64 (hiT k)) ∧ w'.cell? ⟨w1.heap.size + 1 + 1, k * 6 + 5, none⟩ = some (.bool (npT k))) w2))
        | fail))
    have hbf : Below (wr.alloc (.cells (#[.string (nmT k), .pointer (p1T w.heap.size k), .pointer (p2T w.heap.size k), .int .i64 (loT k), .int .i64 (hiT k), .bool (npT k)]) 130)).heap.size (wr.alloc (.cells (#[.string (nmT k), .pointer (p1T w.heap.size k), .pointer (p2T w.heap.size k), .int .i64 (loT k), .int .i64 (hiT k), .bool (npT k)]) 130)) w2 := ⟨hb.os, hb.tape, hb.output, hb.size, hb.block⟩
    have ltr : w.heap.size < wr.heap.size := lies_lt LS.out
    have bel2 : Below w.heap.size w w2 := (belr.alloc (by omega) (.cells (#[.string (nmT k), .pointer (p1T w.heap.size k), .pointer (p2T w.heap.size k), .int .i64 (loT k), .int .i64 (hiT k), .bool (npT k)]) 130)).trans (hbf.mono (by simp; omega))
    have lS2 := below_lies hb' (heap_in (o := (.cells (#[.string (nmT k), .pointer (p1T w.heap.size k), .pointer (p2T w.heap.size k), .int .i64 (loT k), .int .i64 (hiT k), .bool (npT k)]) 130)) LS.out) (by omega)
    have lP2 := below_lies hb' (heap_in (o := (.cells (#[.string (nmT k), .pointer (p1T w.heap.size k), .pointer (p2T w.heap.size k), .int .i64 (loT k), .int .i64 (hiT k), .bool (npT k)]) 130)) LP.out) (by omega)
    have lT22 := below_lies hb' (heap_in (o := (.cells (#[.string (nmT k), .pointer (p1T w.heap.size k), .pointer (p2T w.heap.size k), .int .i64 (loT k), .int .i64 (hiT k), .bool (npT k)]) 130)) LT2.out) (by omega)
    have lB2 := bld_below (bld_below LB.out ((Below.refl _ _).alloc (Nat.le_refl _) (.cells (#[.string (nmT k), .pointer (p1T w.heap.size k), .pointer (p2T w.heap.size k), .int .i64 (loT k), .int .i64 (hiT k), .bool (npT k)]) 130))) hbf
    obtain ⟨x0, x1, x2, x3, x4, x5, _⟩ := hx
    clear LS LP LT LT2 LB hb hb' hbf SM c0 c1 c2 c3 c4 c5 d0 d1 d2 d3 d4 d5
    have KS : Hid (w2.heap[w.heap.size]? = some (.cells (#[.int .i64 s.sh, .int .i64 s.fl, .int .i64 s.cl, .bool s.w.a, .bool s.w.p, .int .i64 s.w.n, .bool s.h.a, .bool s.h.p, .int .i64 s.h.n, .int .i64 s.mn, .int .i64 s.mx, .int .i64 s.mt, .bool s.mr.a, .bool s.mr.p, .int .i64 s.mr.n, .int .i64 s.mb, .bool s.ml.a, .bool s.ml.p, .int .i64 s.ml.n, .int .i64 s.bo, .int .i64 s.pa, .int .i64 s.wh, .int .i64 s.al, .int .i64 s.lh, .int .i64 s.ri, .int .i64 s.dn]) 34 (0, 0))) := lS2
    have KP : Hid (w2.heap[w1.heap.size + 1]? = some (.cells (#[.int .i64 1, .int .i64 0, .int .i64 0, .bool true, .bool false, .int .i64 0, .bool true, .bool false, .int .i64 0, .int .i64 0, .int .i64 (-1), .int .i64 0, .bool false, .bool false, .int .i64 0, .int .i64 0, .bool false, .bool false, .int .i64 0, .int .i64 0, .int .i64 0, .int .i64 1, .int .i64 1, .int .i64 0, .int .i64 0, .int .i64 0]) 34 (0, 0))) := lP2
    have KT : Hid (w2.heap[w1.heap.size + 1 + 1]? = some (.cells (thingCells (w1.heap.size + 1)) 130 (0, 0))) := lT3
    have KT2 : Hid (w2.heap[w1.heap.size + 1 + 1 + 1 + 1]? = some (.cells (thingCells w.heap.size) 130 (0, 0))) := lT22
    have KB : Hid (Lib.IsBuilder 60 5 (w1.heap.size + 1 + 1 + 1) (w1.heap.size + 1 + 1 + 1) (Lib.strCells (textTo s k)) w2) := lB2
    have KC : Hid (w2.heap[wr.heap.size]? = some (.cells (#[.string (nmT k), .pointer (p1T w.heap.size k), .pointer (p2T w.heap.size k), .int .i64 (loT k), .int .i64 (hiT k), .bool (npT k)]) 130 (0, 0))) := lC
    clear lS2 lP2 lT3 lT22 lB2 lC
    cases hsm : sameB s k
    rotate_left
    · go_wp2
      go_roundw
      case rel => exact ⟨k + 1, by omega, by go_num, by rw [okTo_succ, HOK.out, hsm]; rfl, KS.out, KP.out, KT.out, KT2.out, by rw [textTo_same hsm]; exact KB.out, bel2⟩
      case measure => simp [intOf]; omega
    · have TK := tell_any s w.heap.size k hlt w2 (E.below bel2 (Nat.le_refl _)) HS.out KS.out
      have hs1 := nmT_size k
      have hs2 := tokT_size s k hlt HS.out
      have hs3 := textTo_size s HS.out k (by omega)
      go_wp2_with (go_at_call 100; refine TK.mono ?_; rintro e w3 ⟨he, hb3⟩; have y0 : w3.cell? ⟨wr.heap.size, 0, none⟩ = some (.string (nmT k)) := (hb3.cell (p := ⟨wr.heap.size, 0, none⟩) (lies_lt KC.out)).trans x0; have bel3 : Below w.heap.size w w3 := bel2.trans (hb3.mono bel2.size); rcases he with ⟨hk, rfl⟩ | ⟨hk, x, v, rfl⟩)
      · have lB3 := bld_below KB.out hb3
        have lS3 := below_lies hb3 KS.out (lies_lt KS.out)
        have lP3 := below_lies hb3 KP.out (lies_lt KP.out)
        have lT3 := below_lies hb3 KT.out (lies_lt KT.out)
        have lT33 := below_lies hb3 KT2.out (lies_lt KT2.out)
        have hBw : w1.heap.size + 1 + 1 + 1 ≤ w3.heap.size := Nat.le_of_lt (bld_lt lB3)
        refine (write_any (w1.heap.size + 1 + 1 + 1) (w1.heap.size + 1 + 1 + 1) (Lib.strCells (textTo s k)) (pieceT s k) w3 lB3 ?_ hBw).mono ?_
        · have h3 : (⟨#[58]⟩ : ByteArray).size = 1 := rfl
          have h4 : (⟨#[59]⟩ : ByteArray).size = 1 := rfl
          unfold pieceT
          simp only [Lib.strCells_length, ByteArray.size_append]
          omega
        rintro e w4 ⟨rfl, hB4, hb4, ho4⟩
        have lS4 := ho4 _ _ _ _ (by omega) (by decide) lS3
        have lP4 := ho4 _ _ _ _ (by omega) (by decide) lP3
        have lT4 := ho4 _ _ _ _ (by omega) (by decide) lT3
        have lT44 := ho4 _ _ _ _ (by omega) (by decide) lT33
        have bel4 := bel3.trans (hb4.mono (by omega))
        clear ho4 hb4 lS3 lP3 lT3 lT33 lB3 KS KP KT KT2 KB KC TK
        go_wp2
        go_roundw
        case rel => exact ⟨k + 1, by omega, by go_num, by rw [okTo_succ, HOK.out, hk]; simp, lS4, lP4, lT4, lT44, .inr (by rw [textTo_next hsm, ← strCells_app]; exact hB4), bel4⟩
        case measure => simp [intOf]; omega
      · go_region
        all_goals
          go_wp2
          go_ret2
          refine ⟨.inr ⟨by rw [okTo_le (k := k + 1) (by rw [okTo_succ, hsm, hk]; simp) (by omega)]; simp, _, _, rfl⟩, ?_⟩
          repeat (first | exact bel3 | refine Below.drew ?_ | refine Below.alloc ?_ (by have := bel3.size; simp; omega) _)
end Go.Proofs.YtddnphgpdnedbaaGreatDoor

namespace Go.Proofs.YtddnphgpdnedbaaGreatDoor
open Go.ChangeShapes Go.WideShapes Go.ChangeAt Go.RowKit
set_option linter.unusedVariables false

def txtB (s : St) : Bool := styleB s && okTo s 18
def txtT (s : St) : ByteArray := if txtB s then textTo s 18 else ⟨#[]⟩
set_option maxRecDepth 100000 in
set_option maxHeartbeats 2000000 in
theorem implStyleText_any (s : St) (w : World) (E : Env w) :
    Calls Tryz.prog 59 #[.agg #[.int .i64 s.sh, .int .i64 s.fl, .int .i64 s.cl, .bool s.w.a, .bool s.w.p, .int .i64 s.w.n, .bool s.h.a, .bool s.h.p, .int .i64 s.h.n, .int .i64 s.mn, .int .i64 s.mx, .int .i64 s.mt, .bool s.mr.a, .bool s.mr.p, .int .i64 s.mr.n, .int .i64 s.mb, .bool s.ml.a, .bool s.ml.p, .int .i64 s.ml.n, .int .i64 s.bo, .int .i64 s.pa, .int .i64 s.wh, .int .i64 s.al, .int .i64 s.lh, .int .i64 s.ri, .int .i64 s.dn]] w fun e w' => e = .returned (.tuple #[.string (txtT s), .bool (txtB s)]) ∧ Below w.heap.size w w' := by
  have bel0 : Below w.heap.size w (w.alloc (.cells (#[.int .i64 s.sh, .int .i64 s.fl, .int .i64 s.cl, .bool s.w.a, .bool s.w.p, .int .i64 s.w.n, .bool s.h.a, .bool s.h.p, .int .i64 s.h.n, .int .i64 s.mn, .int .i64 s.mx, .int .i64 s.mt, .bool s.mr.a, .bool s.mr.p, .int .i64 s.mr.n, .int .i64 s.mb, .bool s.ml.a, .bool s.ml.p, .int .i64 s.ml.n, .int .i64 s.bo, .int .i64 s.pa, .int .i64 s.wh, .int .i64 s.al, .int .i64 s.lh, .int .i64 s.ri, .int .i64 s.dn]) 34)) := (Below.refl _ _).alloc (Nat.le_refl _) _
  have TS := tellStyle_any s (w.alloc (.cells (#[.int .i64 s.sh, .int .i64 s.fl, .int .i64 s.cl, .bool s.w.a, .bool s.w.p, .int .i64 s.w.n, .bool s.h.a, .bool s.h.p, .int .i64 s.h.n, .int .i64 s.mn, .int .i64 s.mx, .int .i64 s.mt, .bool s.mr.a, .bool s.mr.p, .int .i64 s.mr.n, .int .i64 s.mb, .bool s.ml.a, .bool s.ml.p, .int .i64 s.ml.n, .int .i64 s.bo, .int .i64 s.pa, .int .i64 s.wh, .int .i64 s.al, .int .i64 s.lh, .int .i64 s.ri, .int .i64 s.dn]) 34)) (E.below bel0 (Nat.le_refl _))
  have l0 : (w.alloc (.cells (#[.int .i64 s.sh, .int .i64 s.fl, .int .i64 s.cl, .bool s.w.a, .bool s.w.p, .int .i64 s.w.n, .bool s.h.a, .bool s.h.p, .int .i64 s.h.n, .int .i64 s.mn, .int .i64 s.mx, .int .i64 s.mt, .bool s.mr.a, .bool s.mr.p, .int .i64 s.mr.n, .int .i64 s.mb, .bool s.ml.a, .bool s.ml.p, .int .i64 s.ml.n, .int .i64 s.bo, .int .i64 s.pa, .int .i64 s.wh, .int .i64 s.al, .int .i64 s.lh, .int .i64 s.ri, .int .i64 s.dn]) 34)).heap[w.heap.size]? = some (.cells (#[.int .i64 s.sh, .int .i64 s.fl, .int .i64 s.cl, .bool s.w.a, .bool s.w.p, .int .i64 s.w.n, .bool s.h.a, .bool s.h.p, .int .i64 s.h.n, .int .i64 s.mn, .int .i64 s.mx, .int .i64 s.mt, .bool s.mr.a, .bool s.mr.p, .int .i64 s.mr.n, .int .i64 s.mb, .bool s.ml.a, .bool s.ml.p, .int .i64 s.ml.n, .int .i64 s.bo, .int .i64 s.pa, .int .i64 s.wh, .int .i64 s.al, .int .i64 s.lh, .int .i64 s.ri, .int .i64 s.dn]) 34 (0, 0)) := heap_at _ _ _ rfl
  have e1 : (styleB s && okTo s 18) = txtB s := rfl
  rw [e1] at TS
  have e2 : txtT s = if txtB s then textTo s 18 else ⟨#[]⟩ := rfl
  rw [e2]
  generalize textTo s 18 = t at TS ⊢
  generalize txtB s = b at TS ⊢
  clear E e1 e2
  go_enter Tryz.func59, Tryz.ntmps59
  go_wp2_with (first
    | ((with_reducible show wpList _ _ _ (⟨some 7, Op.load 34 _, _, _, _, _⟩ :: _) _ _); refine wpList_load_row rfl 34 _ rfl w.heap.size rfl _ (#[.int .i64 s.sh, .int .i64 s.fl, .int .i64 s.cl, .bool s.w.a, .bool s.w.p, .int .i64 s.w.n, .bool s.h.a, .bool s.h.p, .int .i64 s.h.n, .int .i64 s.mn, .int .i64 s.mx, .int .i64 s.mt, .bool s.mr.a, .bool s.mr.p, .int .i64 s.mr.n, .int .i64 s.mb, .bool s.ml.a, .bool s.ml.p, .int .i64 s.ml.n, .int .i64 s.bo, .int .i64 s.pa, .int .i64 s.wh, .int .i64 s.al, .int .i64 s.lh, .int .i64 s.ri, .int .i64 s.dn]) _ _ l0 Tryz.underlying34 rfl (by kernel_rfl) ?_)
    | (go_at_call 81; refine TS.mono ?_; rintro e w1 ⟨he, hb⟩; rcases he with ⟨rfl, rfl⟩ | ⟨rfl, x, v, rfl⟩))
  all_goals
    go_ret2
    exact ⟨rfl, bel0.trans (hb.mono (by simp))⟩
end Go.Proofs.YtddnphgpdnedbaaGreatDoor
