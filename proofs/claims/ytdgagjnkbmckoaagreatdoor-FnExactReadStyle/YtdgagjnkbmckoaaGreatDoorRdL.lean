/-
  The law FnExactReadStyle, walked: both sides answer the one style that has this text, or that there is none.
-/
import Derived.Test.YtdgagjnkbmckoaaGreatDoorMdE
namespace Go.Proofs.YtdgagjnkbmckoaaGreatDoor
open Go.ChangeShapes Go.WideShapes Go.ChangeAt Go.RowKit
set_option linter.unusedVariables false

/-- What both sides answer. -/
def RdAns (s : ByteArray) (e : Ending) : Prop := (∃ Y : St, e = .returned (.tuple #[.agg (#[.int .i64 Y.sh, .int .i64 Y.fl, .int .i64 Y.cl, .bool Y.w.a, .bool Y.w.p, .int .i64 Y.w.n, .bool Y.h.a, .bool Y.h.p, .int .i64 Y.h.n, .int .i64 Y.mn, .int .i64 Y.mx, .int .i64 Y.mt, .bool Y.mr.a, .bool Y.mr.p, .int .i64 Y.mr.n, .int .i64 Y.mb, .bool Y.ml.a, .bool Y.ml.p, .int .i64 Y.ml.n, .int .i64 Y.bo, .int .i64 Y.pa, .int .i64 Y.wh, .int .i64 Y.al, .int .i64 Y.lh, .int .i64 Y.ri, .int .i64 Y.dn]), .bool true]) ∧ Rel s Y ∧ ∀ X, Rel s X → X = Y) ∨ (e = .returned (.tuple #[.agg (#[.int .i64 0, .int .i64 0, .int .i64 0, .bool false, .bool false, .int .i64 0, .bool false, .bool false, .int .i64 0, .int .i64 0, .int .i64 0, .int .i64 0, .bool false, .bool false, .int .i64 0, .int .i64 0, .bool false, .bool false, .int .i64 0, .int .i64 0, .int .i64 0, .int .i64 0, .int .i64 0, .int .i64 0, .int .i64 0, .int .i64 0]), .bool false]) ∧ ¬ ∃ X, Rel s X)
theorem rdAns_one {s : ByteArray} {e : Ending} (h : RdAns s e) : ∃ (Y : St) (b : Bool), e = .returned (.tuple #[.agg (#[.int .i64 Y.sh, .int .i64 Y.fl, .int .i64 Y.cl, .bool Y.w.a, .bool Y.w.p, .int .i64 Y.w.n, .bool Y.h.a, .bool Y.h.p, .int .i64 Y.h.n, .int .i64 Y.mn, .int .i64 Y.mx, .int .i64 Y.mt, .bool Y.mr.a, .bool Y.mr.p, .int .i64 Y.mr.n, .int .i64 Y.mb, .bool Y.ml.a, .bool Y.ml.p, .int .i64 Y.ml.n, .int .i64 Y.bo, .int .i64 Y.pa, .int .i64 Y.wh, .int .i64 Y.al, .int .i64 Y.lh, .int .i64 Y.ri, .int .i64 Y.dn]), .bool b]) ∧ ∀ e2, RdAns s e2 → e2 = .returned (.tuple #[.agg (#[.int .i64 Y.sh, .int .i64 Y.fl, .int .i64 Y.cl, .bool Y.w.a, .bool Y.w.p, .int .i64 Y.w.n, .bool Y.h.a, .bool Y.h.p, .int .i64 Y.h.n, .int .i64 Y.mn, .int .i64 Y.mx, .int .i64 Y.mt, .bool Y.mr.a, .bool Y.mr.p, .int .i64 Y.mr.n, .int .i64 Y.mb, .bool Y.ml.a, .bool Y.ml.p, .int .i64 Y.ml.n, .int .i64 Y.bo, .int .i64 Y.pa, .int .i64 Y.wh, .int .i64 Y.al, .int .i64 Y.lh, .int .i64 Y.ri, .int .i64 Y.dn]), .bool b]) := by
  rcases h with ⟨Y, he, hr, hu⟩ | ⟨he, hn⟩
  · refine ⟨Y, true, he, fun e2 h2 => ?_⟩
    rcases h2 with ⟨Y2, he2, hr2, hu2⟩ | ⟨_, hn2⟩
    · have := hu Y2 hr2
      subst this
      exact he2
    · exact absurd ⟨Y, hr⟩ hn2
  · refine ⟨⟨0, 0, 0, ⟨false, false, 0⟩, ⟨false, false, 0⟩, 0, 0, 0, ⟨false, false, 0⟩, 0, ⟨false, false, 0⟩, 0, 0, 0, 0, 0, 0, 0⟩, false, he, fun e2 h2 => ?_⟩
    rcases h2 with ⟨Y2, he2, hr2, hu2⟩ | ⟨he2, _⟩
    · exact absurd ⟨Y2, hr2⟩ hn
    · exact he2
set_option maxRecDepth 100000 in
set_option maxHeartbeats 4000000 in
theorem read_law (s : ByteArray) (w : World) (E : Env w) (au ab : Addr) (S : Sent w au ab) (hT : ErrT w) (lt1 : ∃ et ev, w.cell? ⟨1, 0, none⟩ = some (.iface et ev)) (hmax : s.size ≤ maxLen) :
    Calls Tryz.prog 3 #[.string s] w fun e w' => e = .returned (.bool true) ∧ Below w.heap.size w w' := by
  by_cases hs : s.size ≤ 1048576
  rotate_left
  · have hs2 : 1048576 < s.size := by omega
    go_enter Tryz.func3, Tryz.ntmps3
    go_wp2
    go_ret
    exact ⟨rfl, Below.refl _ _⟩
  have SP : ∀ w, Calls Tryz.prog 4 #[.string s] w fun e w' => RdAns s e ∧ Below w.heap.size w w' := fun w => specReadStyle_any s w hs
  have IM : ∀ w1, Below w.heap.size w w1 → Calls Tryz.prog 5 #[.string s] w1 fun e w' => RdAns s e ∧ Below w1.heap.size w1 w' := fun w1 hb => implReadStyle_any s w1 hs (E.below hb (Nat.le_refl _)) au ab (S.below hb) (hT.below hb) (by obtain ⟨l1, l2, l3⟩ := lt1; exact ⟨l1, l2, (hb.cell (p := ⟨1, 0, none⟩) (World.block_lt_of_cell? _ ⟨1, 0, none⟩ l3)).trans l3⟩) (ghost s)
  clear E S hT lt1
  go_enter Tryz.func3, Tryz.ntmps3
  go_wp2_with fail
  refine (SP _).mono ?_
  rintro e w1 ⟨he, b1⟩
  obtain ⟨Y, b, rfl, hI⟩ := rdAns_one he
  clear SP he
  go_wp2_with ((with_reducible show wpList _ _ _ (⟨none, Op.store 25 (Operand.tmp 3) _, _, _, _, _⟩ :: _) _ _); refine wpList_store_new rfl 25 _ _ rfl rfl (#[.int .i64 Y.sh, .int .i64 Y.fl, .int .i64 Y.cl, .bool Y.w.a, .bool Y.w.p, .int .i64 Y.w.n, .bool Y.h.a, .bool Y.h.p, .int .i64 Y.h.n, .int .i64 Y.mn, .int .i64 Y.mx, .int .i64 Y.mt, .bool Y.mr.a, .bool Y.mr.p, .int .i64 Y.mr.n, .int .i64 Y.mb, .bool Y.ml.a, .bool Y.ml.p, .int .i64 Y.ml.n, .int .i64 Y.bo, .int .i64 Y.pa, .int .i64 Y.wh, .int .i64 Y.al, .int .i64 Y.lh, .int .i64 Y.ri, .int .i64 Y.dn]) 25 _ _ rfl rfl rfl (by kernel_rfl) rfl (by kernel_rfl) ?_; refine wpList_gen1R ?_; intro W2 bel l0; refine stay_p ?_)
  have b2 := b1.trans (bel.mono b1.size)
  unfold stayP
  clear bel b1
  go_wp2_with fail
  refine (IM _ b2).mono ?_
  rintro e w3 ⟨he, b3⟩
  obtain rfl := hI e he
  replace l0 := below_lies b3 l0 (lies_lt l0)
  replace b2 := b2.trans (b3.mono b2.size)
  clear IM he hI b3
  go_wp2_with ((with_reducible show wpList _ _ _ (⟨none, Op.store 25 (Operand.tmp 5) _, _, _, _, _⟩ :: _) _ _); refine wpList_store_new rfl 25 _ _ rfl rfl (#[.int .i64 Y.sh, .int .i64 Y.fl, .int .i64 Y.cl, .bool Y.w.a, .bool Y.w.p, .int .i64 Y.w.n, .bool Y.h.a, .bool Y.h.p, .int .i64 Y.h.n, .int .i64 Y.mn, .int .i64 Y.mx, .int .i64 Y.mt, .bool Y.mr.a, .bool Y.mr.p, .int .i64 Y.mr.n, .int .i64 Y.mb, .bool Y.ml.a, .bool Y.ml.p, .int .i64 Y.ml.n, .int .i64 Y.bo, .int .i64 Y.pa, .int .i64 Y.wh, .int .i64 Y.al, .int .i64 Y.lh, .int .i64 Y.ri, .int .i64 Y.dn]) 25 _ _ rfl rfl rfl (by kernel_rfl) rfl (by kernel_rfl) ?_; refine wpList_gen1R ?_; intro W4 bel l5; refine stay_p ?_)
  replace l0 := below_lies bel l0 (lies_lt l0)
  replace b2 := b2.trans (bel.mono b2.size)
  unfold stayP
  clear bel
  go_wp2_with (first
    | ((with_reducible show wpList _ _ _ (⟨some 20, Op.load 25 _, _, _, _, _⟩ :: _) _ _); refine wpList_load_row rfl 25 _ rfl w3.heap.size rfl _ (#[.int .i64 Y.sh, .int .i64 Y.fl, .int .i64 Y.cl, .bool Y.w.a, .bool Y.w.p, .int .i64 Y.w.n, .bool Y.h.a, .bool Y.h.p, .int .i64 Y.h.n, .int .i64 Y.mn, .int .i64 Y.mx, .int .i64 Y.mt, .bool Y.mr.a, .bool Y.mr.p, .int .i64 Y.mr.n, .int .i64 Y.mb, .bool Y.ml.a, .bool Y.ml.p, .int .i64 Y.ml.n, .int .i64 Y.bo, .int .i64 Y.pa, .int .i64 Y.wh, .int .i64 Y.al, .int .i64 Y.lh, .int .i64 Y.ri, .int .i64 Y.dn]) _ _ l5 Tryz.underlying25 rfl (by kernel_rfl) ?_)
    | ((with_reducible show wpList _ _ _ (⟨some 21, Op.load 25 _, _, _, _, _⟩ :: _) _ _); refine wpList_load_row rfl 25 _ rfl w1.heap.size rfl _ (#[.int .i64 Y.sh, .int .i64 Y.fl, .int .i64 Y.cl, .bool Y.w.a, .bool Y.w.p, .int .i64 Y.w.n, .bool Y.h.a, .bool Y.h.p, .int .i64 Y.h.n, .int .i64 Y.mn, .int .i64 Y.mx, .int .i64 Y.mt, .bool Y.mr.a, .bool Y.mr.p, .int .i64 Y.mr.n, .int .i64 Y.mb, .bool Y.ml.a, .bool Y.ml.p, .int .i64 Y.ml.n, .int .i64 Y.bo, .int .i64 Y.pa, .int .i64 Y.wh, .int .i64 Y.al, .int .i64 Y.lh, .int .i64 Y.ri, .int .i64 Y.dn]) _ _ l0 Tryz.underlying25 rfl (by kernel_rfl) ?_))
  refine (eqStyle_same Y _).mono ?_
  rintro e w5 ⟨rfl, hb⟩
  go_wp2
  go_ret
  exact ⟨rfl, b2.trans (hb.mono b2.size)⟩
end Go.Proofs.YtdgagjnkbmckoaaGreatDoor
