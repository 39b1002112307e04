/-
  The program's GoodStyle, for every style; its eighteen things are good just where the model's tests are met.
-/
import Derived.Test.YtddnphgpdnedbaaDoorStyC
namespace Go.Proofs.YtddnphgpdnedbaaDoor
open Go.ChangeShapes Go.WideShapes Go.ChangeAt Go.RowKit
set_option linter.unusedVariables false

theorem szT_len (a p : Bool) (n : Int) : szT (-1000000) 1000000 false a p n = szB a p n := by
  rw [Bool.eq_iff_iff]
  cases a <;> cases p <;> simp [szT, szB, inB] <;> omega
theorem szT_width (a p : Bool) (n : Int) : szT 0 1000000 false a p n = (szB a p n && !decide (n < 0)) := by
  rw [Bool.eq_iff_iff]
  cases a <;> cases p <;> simp [szT, szB, inB] <;> omega
theorem szT_height (a p : Bool) (n : Int) : szT 0 1000000 true a p n = (szB a p n && !decide (n < 0) && !p) := by
  rw [Bool.eq_iff_iff]
  cases a <;> cases p <;> simp [szT, szB, inB] <;> omega
theorem allT_eq (s : St) : allT s = styleB s := by
  have e : allT s = (goodT s 0 && (goodT s 1 && (goodT s 2 && (goodT s 3 && (goodT s 4 && (goodT s 5 && (goodT s 6 && (goodT s 7 && (goodT s 8 && (goodT s 9 && (goodT s 10 && (goodT s 11 && (goodT s 12 && (goodT s 13 && (goodT s 14 && (goodT s 15 && (goodT s 16 && (goodT s 17 && true)))))))))))))))))) := rfl
  rw [e]
  simp only [goodT, List.getD_cons_zero, List.getD_cons_succ]
  rw [szT_len, szT_len, szT_width, szT_height]
  unfold styleB gA gB gC gD gE
  rw [Bool.eq_iff_iff]
  simp only [Bool.and_eq_true]
  constructor
  · rintro ⟨h0, h1, h2, ⟨h3, h3'⟩, ⟨⟨h4, h4'⟩, h4''⟩, h5, h6, h7, h8, h9, h10, h11, h12, h13, h14, h15, h16, h17, _⟩
    exact ⟨⟨⟨⟨⟨⟨⟨⟨h0, h1⟩, h2⟩, h13⟩, h14⟩, ⟨⟨h3, h4⟩, h10⟩, h8⟩, ⟨⟨⟨h3', h4'⟩, h4''⟩, h5⟩, h6⟩, ⟨⟨h7, h9⟩, h16⟩, h17⟩, ⟨h11, h12⟩, h15⟩
  · rintro ⟨⟨⟨⟨⟨⟨⟨⟨h0, h1⟩, h2⟩, h13⟩, h14⟩, ⟨⟨h3, h4⟩, h10⟩, h8⟩, ⟨⟨⟨h3', h4'⟩, h4''⟩, h5⟩, h6⟩, ⟨⟨h7, h9⟩, h16⟩, h17⟩, ⟨h11, h12⟩, h15⟩
    exact ⟨h0, h1, h2, ⟨h3, h3'⟩, ⟨⟨h4, h4'⟩, h4''⟩, h5, h6, h7, h8, h9, h10, h11, h12, h13, h14, h15, h16, h17, trivial⟩

set_option maxRecDepth 100000 in
set_option maxHeartbeats 4000000 in
theorem implGoodStyle_any (s : St) (w : World) (et : TypeId) (ev : Value) (he : w.cell? ⟨0, 0, none⟩ = some (.iface et ev)) :
    Calls Tryd.prog 49 #[.agg #[.int .i64 s.sh, .int .i64 s.fl, .int .i64 s.cl, .bool s.w.a, .bool s.w.p, .int .i64 s.w.n, .bool s.h.a, .bool s.h.p, .int .i64 s.h.n, .int .i64 s.mn, .int .i64 s.mx, .int .i64 s.mt, .bool s.mr.a, .bool s.mr.p, .int .i64 s.mr.n, .int .i64 s.mb, .bool s.ml.a, .bool s.ml.p, .int .i64 s.ml.n, .int .i64 s.bo, .int .i64 s.pa, .int .i64 s.wh, .int .i64 s.al, .int .i64 s.lh, .int .i64 s.ri, .int .i64 s.dn]] w fun e w' => e = .returned (.bool (styleB s)) ∧ Below w.heap.size w w' := by
  rw [← allT_eq]
  have lte : 0 < w.heap.size := World.block_lt_of_cell? _ ⟨0, 0, none⟩ he
  have CK := checkStyle_any s (w.alloc (.cells (#[.int .i64 s.sh, .int .i64 s.fl, .int .i64 s.cl, .bool s.w.a, .bool s.w.p, .int .i64 s.w.n, .bool s.h.a, .bool s.h.p, .int .i64 s.h.n, .int .i64 s.mn, .int .i64 s.mx, .int .i64 s.mt, .bool s.mr.a, .bool s.mr.p, .int .i64 s.mr.n, .int .i64 s.mb, .bool s.ml.a, .bool s.ml.p, .int .i64 s.ml.n, .int .i64 s.bo, .int .i64 s.pa, .int .i64 s.wh, .int .i64 s.al, .int .i64 s.lh, .int .i64 s.ri, .int .i64 s.dn]) 40)) et ev (by rw [← he]; exact ((Below.refl w.heap.size w).alloc (Nat.le_refl _) _).cell (p := ⟨0, 0, none⟩) lte)
  clear he
  go_enter Tryd.func49, Tryd.ntmps49
  go_wp2_with (first
    | (show wpList _ _ _ (⟨some 3, Op.load 40 _, _, _, _, _⟩ :: _) _ _; refine wpList_load_row rfl 40 _ rfl w.heap.size rfl _ (#[.int .i64 s.sh, .int .i64 s.fl, .int .i64 s.cl, .bool s.w.a, .bool s.w.p, .int .i64 s.w.n, .bool s.h.a, .bool s.h.p, .int .i64 s.h.n, .int .i64 s.mn, .int .i64 s.mx, .int .i64 s.mt, .bool s.mr.a, .bool s.mr.p, .int .i64 s.mr.n, .int .i64 s.mb, .bool s.ml.a, .bool s.ml.p, .int .i64 s.ml.n, .int .i64 s.bo, .int .i64 s.pa, .int .i64 s.wh, .int .i64 s.al, .int .i64 s.lh, .int .i64 s.ri, .int .i64 s.dn]) _ _ (heap_at _ _ _ rfl) Tryd.underlying40 rfl (by kernel_rfl) ?_)
    | (go_at_call 61; refine CK.mono ?_; rintro e w1 ⟨v, rfl, hv, hb⟩; rcases hv with ⟨ha, rfl⟩ | ⟨ha, a, rfl⟩))
  all_goals
    go_wp2
    go_ret
    exact ⟨ret_bool ha.symm, ((Below.refl _ _).alloc (Nat.le_refl _) _).trans (hb.mono (by simp))⟩
end Go.Proofs.YtddnphgpdnedbaaDoor
