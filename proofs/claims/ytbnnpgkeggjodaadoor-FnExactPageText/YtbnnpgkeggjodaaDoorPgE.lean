/-
  Two pages of the same data compared by the law.
-/
import Derived.Test.YtbnnpgkeggjodaaDoorPgT
namespace Go.Proofs.YtbnnpgkeggjodaaDoor
open Go.ChangeShapes Go.WideShapes Go.ChangeAt Go.RowKit
set_option linter.unusedVariables false

set_option maxRecDepth 100000 in
set_option maxHeartbeats 8000000 in
theorem eqPage_any (P Q : Pg) (w : World) (hp : PgRow w P) (hq : PgRow w Q) (hb : Q.bs = P.bs) (hps : Q.ps = P.ps) (hls : Q.ls = P.ls) (hfs : Q.fs = P.fs) (hhi : Q.hi = P.hi) (hl : PgLen P 1048576) :
    Calls Tryd.prog 8 #[.agg #[.slice P.ba P.bs.length P.bc, .slice P.pa P.ps.length P.pc, .slice P.la P.ls.length P.lc, .slice P.fa P.fs.length P.fc, .int .i64 P.hi], .agg #[.slice Q.ba Q.bs.length Q.bc, .slice Q.pa Q.ps.length Q.pc, .slice Q.la Q.ls.length Q.lc, .slice Q.fa Q.fs.length Q.fc, .int .i64 Q.hi]] w fun e w' => e = .returned (.bool true) ∧ Below w.heap.size w w' := by
  obtain ⟨ba, bc, bs, pa, pc, ps, la, lc, ls, fa, fc, fs, hi⟩ := P
  obtain ⟨ba', bc', bs', pa', pc', ps', la', lc', ls', fa', fc', fs', hi'⟩ := Q
  dsimp only at hb hps hls hfs hhi
  have hb := hb.symm
  have hps := hps.symm
  have hls := hls.symm
  have hfs := hfs.symm
  have hhi := hhi.symm
  subst hb
  subst hps
  subst hls
  subst hfs
  subst hhi
  have TB := fun (W : World) (h : Below w.heap.size w W) => eqBoxes ba ba' bc bc' bs W (hp.rb.below h) (hq.rb.below h) hl.lb
  have TP := fun (W : World) (h : Below w.heap.size w W) => eqPlaces pa pa' pc pc' ps W (hp.rp.below h) (hq.rp.below h) hl.lp
  have TL := fun (W : World) (h : Below w.heap.size w W) => eqLines la la' lc lc' ls W (hp.rl.below h) (hq.rl.below h) hl.ll
  have TF := fun (W : World) (h : Below w.heap.size w W) => eqAsides fa fa' fc fc' fs W (hp.rf.below h) (hq.rf.below h) hl.lf
  clear hp hq hl
  dsimp only
  generalize bs.length = nb at TB
  generalize ps.length = np at TP
  generalize ls.length = nl at TL
  generalize fs.length = nf at TF
  have l0 : ((w.alloc (.cells #[.slice ba nb bc, .slice pa np pc, .slice la nl lc, .slice fa nf fc, .int .i64 hi] 36)).alloc (.cells #[.slice ba' nb bc', .slice pa' np pc', .slice la' nl lc', .slice fa' nf fc', .int .i64 hi] 36)).heap[w.heap.size]? = some (.cells #[.slice ba nb bc, .slice pa np pc, .slice la nl lc, .slice fa nf fc, .int .i64 hi] 36 (0, 0)) := heap_in (heap_at _ _ _ rfl)
  have l1 : ((w.alloc (.cells #[.slice ba nb bc, .slice pa np pc, .slice la nl lc, .slice fa nf fc, .int .i64 hi] 36)).alloc (.cells #[.slice ba' nb bc', .slice pa' np pc', .slice la' nl lc', .slice fa' nf fc', .int .i64 hi] 36)).heap[w.heap.size + 1]? = some (.cells #[.slice ba' nb bc', .slice pa' np pc', .slice la' nl lc', .slice fa' nf fc', .int .i64 hi] 36 (0, 0)) := heap_at _ _ _ (by simp)
  have b0 : Below w.heap.size w ((w.alloc (.cells #[.slice ba nb bc, .slice pa np pc, .slice la nl lc, .slice fa nf fc, .int .i64 hi] 36)).alloc (.cells #[.slice ba' nb bc', .slice pa' np pc', .slice la' nl lc', .slice fa' nf fc', .int .i64 hi] 36)) := ((Below.refl _ _).alloc (Nat.le_refl _) _).alloc (by simp) _
  go_enter Tryd.func8, Tryd.ntmps8
  go_wp2_with fail
  refine (TB _ b0).mono ?_
  rintro e w1 ⟨rfl, c⟩
  replace b0 := b0.trans (c.mono b0.size)
  replace l1 := below_lies c l1 (lies_lt l1)
  replace l0 := below_lies c l0 (lies_lt l0)
  have q0 : w1.cell? ⟨w.heap.size, 1, none⟩ = some (.slice pa np pc) := (lies_cell l0 1).trans rfl
  have q1 : w1.cell? ⟨w.heap.size + 1, 1, none⟩ = some (.slice pa' np pc') := (lies_cell l1 1).trans rfl
  clear c
  go_wp2_with fail
  clear q0 q1
  refine (TP _ b0).mono ?_
  rintro e w2 ⟨rfl, c⟩
  replace b0 := b0.trans (c.mono b0.size)
  replace l1 := below_lies c l1 (lies_lt l1)
  replace l0 := below_lies c l0 (lies_lt l0)
  have q0 : w2.cell? ⟨w.heap.size, 2, none⟩ = some (.slice la nl lc) := (lies_cell l0 2).trans rfl
  have q1 : w2.cell? ⟨w.heap.size + 1, 2, none⟩ = some (.slice la' nl lc') := (lies_cell l1 2).trans rfl
  clear c
  go_wp2_with fail
  clear q0 q1
  refine (TL _ b0).mono ?_
  rintro e w3 ⟨rfl, c⟩
  replace b0 := b0.trans (c.mono b0.size)
  replace l1 := below_lies c l1 (lies_lt l1)
  replace l0 := below_lies c l0 (lies_lt l0)
  have q0 : w3.cell? ⟨w.heap.size, 3, none⟩ = some (.slice fa nf fc) := (lies_cell l0 3).trans rfl
  have q1 : w3.cell? ⟨w.heap.size + 1, 3, none⟩ = some (.slice fa' nf fc') := (lies_cell l1 3).trans rfl
  clear c
  go_wp2_with fail
  clear q0 q1
  refine (TF _ b0).mono ?_
  rintro e w4 ⟨rfl, c⟩
  replace b0 := b0.trans (c.mono b0.size)
  replace l1 := below_lies c l1 (lies_lt l1)
  replace l0 := below_lies c l0 (lies_lt l0)
  have q0 : w4.cell? ⟨w.heap.size, 4, none⟩ = some (.int .i64 hi) := (lies_cell l0 4).trans rfl
  have q1 : w4.cell? ⟨w.heap.size + 1, 4, none⟩ = some (.int .i64 hi) := (lies_cell l1 4).trans rfl
  clear c
  go_wp2
  go_ret
  exact ⟨rfl, b0⟩
end Go.Proofs.YtbnnpgkeggjodaaDoor
