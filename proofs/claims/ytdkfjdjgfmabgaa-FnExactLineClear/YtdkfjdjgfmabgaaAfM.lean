/-
  Whether two floats have a place in common: of the program and of the model.
-/
import Derived.Test.YtdkfjdjgfmabgaaAfC
import Derived.Test.YtdkfjdjgfmabgaaAfH
namespace Go.Proofs.Ytdkfjdjgfmabgaa
open Go.ChangeShapes Go.WideShapes Go.ChangeAt Go.RowKit
set_option linter.unusedVariables false

def meetB (x z : Asd) : Bool := decide (0 < min (x.x + x.w) (z.x + z.w) - max x.x z.x) && decide (0 < min (x.y + x.h) (z.y + z.h) - max x.y z.y)
theorem wrapA (n : Int) (h0 : -9000000000000000000 ≤ n) (h1 : n ≤ 9000000000000000000) : IntKind.i64.wrap n = n := by rw [IntKind.wrap_i64]; omega
theorem keepT {w w' : World} {g g' : Nat} {x z : Asd} {T T' : TypeId} {fr fr' : Nat × Nat} (hb : Below w.heap.size w w') (h : w.heap[g]? = some (.cells #[.int .i64 x.sd, .int .i64 x.x, .int .i64 x.y, .int .i64 x.w, .int .i64 x.h] T fr)) (h' : w.heap[g']? = some (.cells #[.int .i64 z.sd, .int .i64 z.x, .int .i64 z.y, .int .i64 z.w, .int .i64 z.h] T' fr')) :
    (w'.cell? ⟨g, 0, none⟩ = some (.int .i64 x.sd) ∧ w'.cell? ⟨g, 1, none⟩ = some (.int .i64 x.x) ∧ w'.cell? ⟨g, 2, none⟩ = some (.int .i64 x.y) ∧ w'.cell? ⟨g, 3, none⟩ = some (.int .i64 x.w) ∧ w'.cell? ⟨g, 4, none⟩ = some (.int .i64 x.h) ∧
     w'.cell? ⟨g', 0, none⟩ = some (.int .i64 z.sd) ∧ w'.cell? ⟨g', 1, none⟩ = some (.int .i64 z.x) ∧ w'.cell? ⟨g', 2, none⟩ = some (.int .i64 z.y) ∧ w'.cell? ⟨g', 3, none⟩ = some (.int .i64 z.w) ∧ w'.cell? ⟨g', 4, none⟩ = some (.int .i64 z.h)) := by
  have l := below_lies hb h (lies_lt h)
  have l' := below_lies hb h' (lies_lt h')
  exact ⟨cell_at l 0 rfl, cell_at l 1 rfl, cell_at l 2 rfl, cell_at l 3 rfl, cell_at l 4 rfl, cell_at l' 0 rfl, cell_at l' 1 rfl, cell_at l' 2 rfl, cell_at l' 3 rfl, cell_at l' 4 rfl⟩
set_option maxHeartbeats 8000000 in
theorem meets_any (x z : Asd) (w : World) (hx : Fine x) (hz : Fine z) :
    Calls Try.prog 37 #[.agg #[.int .i64 x.sd, .int .i64 x.x, .int .i64 x.y, .int .i64 x.w, .int .i64 x.h], .agg #[.int .i64 z.sd, .int .i64 z.x, .int .i64 z.y, .int .i64 z.w, .int .i64 z.h]] w fun e w' => e = .returned (.bool (meetB x z)) ∧ Below w.heap.size w w' := by
  have EX := fun W => endOf_b x W hx
  have EZ := fun W => endOf_b z W hz
  have BX := fun W => bottomOf_b x W hx
  have BZ := fun W => bottomOf_b z W hz
  have x0 := hx.x0
  have x1 := hx.x1
  have x2 := hx.y0
  have x3 := hx.y1
  have x4 := hx.w0
  have x5 := hx.w1
  have x6 := hx.h0
  have x7 := hx.h1
  have z0 := hz.x0
  have z1 := hz.x1
  have z2 := hz.y0
  have z3 := hz.y1
  have z4 := hz.w0
  have z5 := hz.w1
  have z6 := hz.h0
  have z7 := hz.h1
  have F1 : IntKind.i64.wrap (min (x.x + x.w) (z.x + z.w) - max x.x z.x) = min (x.x + x.w) (z.x + z.w) - max x.x z.x := wrapA _ (by omega) (by omega)
  have F2 : IntKind.i64.wrap (min (x.y + x.h) (z.y + z.h) - max x.y z.y) = min (x.y + x.h) (z.y + z.h) - max x.y z.y := wrapA _ (by omega) (by omega)
  have HM : Hid (meetB x z = (decide (0 < min (x.x + x.w) (z.x + z.w) - max x.x z.x) && decide (0 < min (x.y + x.h) (z.y + z.h) - max x.y z.y))) := rfl
  have l0 : ((w.alloc (.cells #[.int .i64 x.sd, .int .i64 x.x, .int .i64 x.y, .int .i64 x.w, .int .i64 x.h] 47)).alloc (.cells #[.int .i64 z.sd, .int .i64 z.x, .int .i64 z.y, .int .i64 z.w, .int .i64 z.h] 47)).heap[w.heap.size]? = some (.cells #[.int .i64 x.sd, .int .i64 x.x, .int .i64 x.y, .int .i64 x.w, .int .i64 x.h] 47 (0, 0)) := heap_in (heap_alloc_new w _)
  have l1 : ((w.alloc (.cells #[.int .i64 x.sd, .int .i64 x.x, .int .i64 x.y, .int .i64 x.w, .int .i64 x.h] 47)).alloc (.cells #[.int .i64 z.sd, .int .i64 z.x, .int .i64 z.y, .int .i64 z.w, .int .i64 z.h] 47)).heap[w.heap.size + 1]? = some (.cells #[.int .i64 z.sd, .int .i64 z.x, .int .i64 z.y, .int .i64 z.w, .int .i64 z.h] 47 (0, 0)) := heap_at _ _ _ (by simp)
  have HB : Hid (Below w.heap.size w ((w.alloc (.cells #[.int .i64 x.sd, .int .i64 x.x, .int .i64 x.y, .int .i64 x.w, .int .i64 x.h] 47)).alloc (.cells #[.int .i64 z.sd, .int .i64 z.x, .int .i64 z.y, .int .i64 z.w, .int .i64 z.h] 47))) := ((Below.refl _ _).alloc (Nat.le_refl _) _).alloc (by simp) _
  go_enter Try.func37, Try.ntmps37
  go_wp2_with fail
  go_region_held3 (fun w' => w'.cell? ⟨w.heap.size, 0, none⟩ = some (.int .i64 x.sd) ∧ w'.cell? ⟨w.heap.size, 1, none⟩ = some (.int .i64 x.x) ∧ w'.cell? ⟨w.heap.size, 2, none⟩ = some (.int .i64 x.y) ∧ w'.cell? ⟨w.heap.size, 3, none⟩ = some (.int .i64 x.w) ∧ w'.cell? ⟨w.heap.size, 4, none⟩ = some (.int .i64 x.h) ∧ w'.cell? ⟨w.heap.size + 1, 0, none⟩ = some (.int .i64 z.sd) ∧ w'.cell? ⟨w.heap.size + 1, 1, none⟩ = some (.int .i64 z.x) ∧ w'.cell? ⟨w.heap.size + 1, 2, none⟩ = some (.int .i64 z.y) ∧ w'.cell? ⟨w.heap.size + 1, 3, none⟩ = some (.int .i64 z.w) ∧ w'.cell? ⟨w.heap.size + 1, 4, none⟩ = some (.int .i64 z.h))
    (first | go_keep | exact kq1 | exact kp1 | exact keepT (Below.refl _ _) l0 l1)
    ((first
      | (go_at_call 40; have l1b1 := below_lies hb1 l1 (lies_lt l1); have l0b1 := below_lies hb1 l0 (lies_lt l0); go_fit (EX _); rintro e v1 ⟨rfl, hc1⟩; have kq1 := keepT hc1 l0b1 l1b1)
      | (go_at_call 40; have l1b1 := below_lies hb1 l1 (lies_lt l1); have l0b1 := below_lies hb1 l0 (lies_lt l0); go_fit (EZ _); rintro e v1 ⟨rfl, hc1⟩; have kq1 := keepT hc1 l0b1 l1b1)
      | (go_at_call 40; go_fit (EX _); rintro e u1 ⟨rfl, hb1⟩; have kp1 := keepT hb1 l0 l1)
      | (go_at_call 40; go_fit (EZ _); rintro e u1 ⟨rfl, hb1⟩; have kp1 := keepT hb1 l0 l1)
      | fail))
  all_goals
    have l0c := below_lies hc1 l0b1 (lies_lt l0b1)
    have l1c := below_lies hc1 l1b1 (lies_lt l1b1)
    have bv : Below w.heap.size w v1 := (HB.out.trans (Below.mono (B := ((w.alloc (.cells #[.int .i64 x.sd, .int .i64 x.x, .int .i64 x.y, .int .i64 x.w, .int .i64 x.h] 47)).alloc (.cells #[.int .i64 z.sd, .int .i64 z.x, .int .i64 z.y, .int .i64 z.w, .int .i64 z.h] 47)).heap.size) ⟨hb1.os, hb1.tape, hb1.output, hb1.size, hb1.block⟩ (by simp; omega))).trans (Below.mono (B := u1.heap.size) ⟨hc1.os, hc1.tape, hc1.output, hc1.size, hc1.block⟩ (Nat.le_trans HB.out.size hb1.size))
    have HBV : Hid (Below w.heap.size w v1) := bv
    clear bv kp1 kq1 hc1 hb1 l0b1 l1b1 l0 l1
    go_wp2_with fail
    go_region_held3 (fun w' => w'.cell? ⟨w.heap.size, 0, none⟩ = some (.int .i64 x.sd) ∧ w'.cell? ⟨w.heap.size, 1, none⟩ = some (.int .i64 x.x) ∧ w'.cell? ⟨w.heap.size, 2, none⟩ = some (.int .i64 x.y) ∧ w'.cell? ⟨w.heap.size, 3, none⟩ = some (.int .i64 x.w) ∧ w'.cell? ⟨w.heap.size, 4, none⟩ = some (.int .i64 x.h) ∧ w'.cell? ⟨w.heap.size + 1, 0, none⟩ = some (.int .i64 z.sd) ∧ w'.cell? ⟨w.heap.size + 1, 1, none⟩ = some (.int .i64 z.x) ∧ w'.cell? ⟨w.heap.size + 1, 2, none⟩ = some (.int .i64 z.y) ∧ w'.cell? ⟨w.heap.size + 1, 3, none⟩ = some (.int .i64 z.w) ∧ w'.cell? ⟨w.heap.size + 1, 4, none⟩ = some (.int .i64 z.h))
      (first | go_keep | exact kq2 | exact kp2 | exact keepT (Below.refl _ _) l0c l1c)
      ((first
        | (go_at_call 41; have l1b2 := below_lies hb2 l1c (lies_lt l1c); have l0b2 := below_lies hb2 l0c (lies_lt l0c); go_fit (BX _); rintro e v2 ⟨rfl, hc2⟩; have kq2 := keepT hc2 l0b2 l1b2)
        | (go_at_call 41; have l1b2 := below_lies hb2 l1c (lies_lt l1c); have l0b2 := below_lies hb2 l0c (lies_lt l0c); go_fit (BZ _); rintro e v2 ⟨rfl, hc2⟩; have kq2 := keepT hc2 l0b2 l1b2)
        | (go_at_call 41; go_fit (BX _); rintro e u2 ⟨rfl, hb2⟩; have kp2 := keepT hb2 l0c l1c)
        | (go_at_call 41; go_fit (BZ _); rintro e u2 ⟨rfl, hb2⟩; have kp2 := keepT hb2 l0c l1c)
        | fail))
    all_goals
      have bw : Below w.heap.size w v2 := (HBV.out.trans (Below.mono (B := v1.heap.size) ⟨hb2.os, hb2.tape, hb2.output, hb2.size, hb2.block⟩ HBV.out.size)).trans (Below.mono (B := u2.heap.size) ⟨hc2.os, hc2.tape, hc2.output, hc2.size, hc2.block⟩ (Nat.le_trans HBV.out.size hb2.size))
      clear kp2 kq2 hc2 hb2 l0b2 l1b2 l0c l1c HBV HB EX EZ BX BZ
      by_cases hd : 0 < min (x.x + x.w) (z.x + z.w) - max x.x z.x
      · go_wp2
        go_ret
        exact ⟨ret_bool (by rw [HM.out, decide_eq_true hd]; simp), bw⟩
      · go_wp2
        go_ret
        exact ⟨ret_bool (by rw [HM.out, decide_eq_false (Int.not_lt.2 hd)]; rfl), bw⟩
end Go.Proofs.Ytdkfjdjgfmabgaa
