/-
  The program's small functions of one float: its edges, whether it is at a stretch.
-/
import Derived.Test.YtngbkcihdbnlgaaAfU
import Derived.Deep.RegionHeld3
import Derived.Shelf.Abstract
namespace Go.Proofs.Ytngbkcihdbnlgaa
open Go.ChangeShapes Go.WideShapes Go.ChangeAt Go.RowKit
set_option linter.unusedVariables false

/-- A float of which sums are no matter. -/
structure Fine (x : Asd) : Prop where
  x0 : -300000000 ≤ x.x
  x1 : x.x ≤ 300000000
  y0 : -300000000 ≤ x.y
  y1 : x.y ≤ 300000000
  w0 : 0 ≤ x.w
  w1 : x.w ≤ 1000000
  h0 : 0 ≤ x.h
  h1 : x.h ≤ 1000000
theorem goodA_fine {x : Asd} (h : goodA x = true) : Fine x := by
  obtain ⟨_, a, b, c, d⟩ := goodA_parts h
  exact ⟨by omega, by omega, by omega, by omega, by omega, by omega, by omega, by omega⟩
theorem goodF_fine {l : List Asd} (h : goodF l = true) {x : Asd} (hx : x ∈ l) : Fine x := goodA_fine (goodF_mem h hx)

set_option maxHeartbeats 1000000 in
theorem topOf_any (x : Asd) (w : World) : Calls Try.prog 51 #[.agg #[.int .i64 x.sd, .int .i64 x.x, .int .i64 x.y, .int .i64 x.w, .int .i64 x.h]] w fun e w' => e = .returned (.int .i64 x.y) ∧ w' = w.alloc (.cells #[.int .i64 x.sd, .int .i64 x.x, .int .i64 x.y, .int .i64 x.w, .int .i64 x.h] 27) := by
  go_enter Try.func51, Try.ntmps51
  go_wp2
  go_ret
  exact ⟨rfl, rfl⟩
set_option maxHeartbeats 1000000 in
theorem beginOf_any (x : Asd) (w : World) : Calls Try.prog 61 #[.agg #[.int .i64 x.sd, .int .i64 x.x, .int .i64 x.y, .int .i64 x.w, .int .i64 x.h]] w fun e w' => e = .returned (.int .i64 x.x) ∧ w' = w.alloc (.cells #[.int .i64 x.sd, .int .i64 x.x, .int .i64 x.y, .int .i64 x.w, .int .i64 x.h] 27) := by
  go_enter Try.func61, Try.ntmps61
  go_wp2
  go_ret
  exact ⟨rfl, rfl⟩
set_option maxHeartbeats 1000000 in
theorem bottomOf_any (x : Asd) (w : World) (hx : Fine x) : Calls Try.prog 64 #[.agg #[.int .i64 x.sd, .int .i64 x.x, .int .i64 x.y, .int .i64 x.w, .int .i64 x.h]] w fun e w' => e = .returned (.int .i64 (x.y + x.h)) ∧ w' = w.alloc (.cells #[.int .i64 x.sd, .int .i64 x.x, .int .i64 x.y, .int .i64 x.w, .int .i64 x.h] 27) := by
  have h0 := hx.y0
  have h1 := hx.y1
  have h2 := hx.h0
  have h3 := hx.h1
  go_enter Try.func64, Try.ntmps64
  go_wp2
  go_ret
  exact ⟨rfl, rfl⟩
set_option maxHeartbeats 1000000 in
theorem endOf_any (x : Asd) (w : World) (hx : Fine x) : Calls Try.prog 59 #[.agg #[.int .i64 x.sd, .int .i64 x.x, .int .i64 x.y, .int .i64 x.w, .int .i64 x.h]] w fun e w' => e = .returned (.int .i64 (x.x + x.w)) ∧ w' = w.alloc (.cells #[.int .i64 x.sd, .int .i64 x.x, .int .i64 x.y, .int .i64 x.w, .int .i64 x.h] 27) := by
  have h0 := hx.x0
  have h1 := hx.x1
  have h2 := hx.w0
  have h3 := hx.w1
  go_enter Try.func59, Try.ntmps59
  go_wp2
  go_ret
  exact ⟨rfl, rfl⟩
/-- A call that makes one block leaves all else. -/
theorem below_one {w w' : World} {o : Obj} (h : w' = w.alloc o) : Below w.heap.size w w' := by
  subst h
  exact (Below.refl _ _).alloc (Nat.le_refl _) _

theorem bottomOf_b (x : Asd) (w : World) (hx : Fine x) : Calls Try.prog 64 #[.agg #[.int .i64 x.sd, .int .i64 x.x, .int .i64 x.y, .int .i64 x.w, .int .i64 x.h]] w fun e w' => e = .returned (.int .i64 (x.y + x.h)) ∧ Below w.heap.size w w' :=
  (bottomOf_any x w hx).mono fun e w' h => ⟨h.1, below_one h.2⟩
theorem endOf_b (x : Asd) (w : World) (hx : Fine x) : Calls Try.prog 59 #[.agg #[.int .i64 x.sd, .int .i64 x.x, .int .i64 x.y, .int .i64 x.w, .int .i64 x.h]] w fun e w' => e = .returned (.int .i64 (x.x + x.w)) ∧ Below w.heap.size w w' :=
  (endOf_any x w hx).mono fun e w' h => ⟨h.1, below_one h.2⟩
theorem topOf_b (x : Asd) (w : World) : Calls Try.prog 51 #[.agg #[.int .i64 x.sd, .int .i64 x.x, .int .i64 x.y, .int .i64 x.w, .int .i64 x.h]] w fun e w' => e = .returned (.int .i64 x.y) ∧ Below w.heap.size w w' :=
  (topOf_any x w).mono fun e w' h => ⟨h.1, below_one h.2⟩
theorem beginOf_b (x : Asd) (w : World) : Calls Try.prog 61 #[.agg #[.int .i64 x.sd, .int .i64 x.x, .int .i64 x.y, .int .i64 x.w, .int .i64 x.h]] w fun e w' => e = .returned (.int .i64 x.x) ∧ Below w.heap.size w w' :=
  (beginOf_any x w).mono fun e w' h => ⟨h.1, below_one h.2⟩
theorem cell_at {w : World} {g : Nat} {c : Array Value} {t : TypeId} {fr : Nat × Nat} (h : w.heap[g]? = some (.cells c t fr)) (j : Nat) {v : Value} (hj : c[j]? = some v) : w.cell? ⟨g, j, none⟩ = some v := (lies_cell h j).trans hj
theorem keep6 {w w' : World} {g g' : Nat} {x : Asd} {u : Value} {t : TypeId} {fr : Nat × Nat} (hb : Below w.heap.size w w') (h : w.heap[g]? = some (.cells #[.int .i64 x.sd, .int .i64 x.x, .int .i64 x.y, .int .i64 x.w, .int .i64 x.h] t fr)) (h' : w.cell? ⟨g', 0, none⟩ = some u) :
    w'.cell? ⟨g', 0, none⟩ = some u ∧ w'.cell? ⟨g, 0, none⟩ = some (.int .i64 x.sd) ∧ w'.cell? ⟨g, 1, none⟩ = some (.int .i64 x.x) ∧ w'.cell? ⟨g, 2, none⟩ = some (.int .i64 x.y) ∧ w'.cell? ⟨g, 3, none⟩ = some (.int .i64 x.w) ∧ w'.cell? ⟨g, 4, none⟩ = some (.int .i64 x.h) := by
  have l := below_lies hb h (lies_lt h)
  exact ⟨(hb.cell (World.block_lt_of_cell? _ _ h')).trans h', cell_at l 0 rfl, cell_at l 1 rfl, cell_at l 2 rfl, cell_at l 3 rfl, cell_at l 4 rfl⟩
set_option maxHeartbeats 4000000 in
theorem next1_any (x : Asd) (g : Nat) (y : Int) (w : World) (hx : Fine x) (hg : w.cell? ⟨g, 0, none⟩ = some (.int .i64 y)) :
    Calls Try.prog 63 #[.agg #[.int .i64 x.sd, .int .i64 x.x, .int .i64 x.y, .int .i64 x.w, .int .i64 x.h], .pointer (some ⟨g, 0, none⟩)] w fun e w' => e = .returned (.bool (decide (y < x.y + x.h))) ∧ Below w.heap.size w w' := by
  have hlt : g < w.heap.size := World.block_lt_of_cell? _ _ hg
  have hg1 : (w.alloc (.cells #[.int .i64 x.sd, .int .i64 x.x, .int .i64 x.y, .int .i64 x.w, .int .i64 x.h] 27)).cell? ⟨g, 0, none⟩ = some (.int .i64 y) := (World.cell?_alloc_lt _ _ _ hlt).trans hg
  have hb1 : Below w.heap.size w (w.alloc (.cells #[.int .i64 x.sd, .int .i64 x.x, .int .i64 x.y, .int .i64 x.w, .int .i64 x.h] 27)) := (Below.refl _ _).alloc (Nat.le_refl _) _
  have BO := fun W => bottomOf_b x W hx
  have l1 := heap_alloc_new w (.cells #[.int .i64 x.sd, .int .i64 x.x, .int .i64 x.y, .int .i64 x.w, .int .i64 x.h] 27)
  have HB : Hid (Below w.heap.size w (w.alloc (.cells #[.int .i64 x.sd, .int .i64 x.x, .int .i64 x.y, .int .i64 x.w, .int .i64 x.h] 27))) := hb1
  clear hg hb1
  go_enter Try.func63, Try.ntmps63
  go_wp2_with fail
  go_region_held3 (fun w' => w'.cell? ⟨g, 0, none⟩ = some (.int .i64 y) ∧ w'.cell? ⟨w.heap.size, 0, none⟩ = some (.int .i64 x.sd) ∧ w'.cell? ⟨w.heap.size, 1, none⟩ = some (.int .i64 x.x) ∧ w'.cell? ⟨w.heap.size, 2, none⟩ = some (.int .i64 x.y) ∧ w'.cell? ⟨w.heap.size, 3, none⟩ = some (.int .i64 x.w) ∧ w'.cell? ⟨w.heap.size, 4, none⟩ = some (.int .i64 x.h))
    (first | go_keep | exact ⟨hg1, cell_at l1 0 rfl, cell_at l1 1 rfl, cell_at l1 2 rfl, cell_at l1 3 rfl, cell_at l1 4 rfl⟩ | exact kp)
    ((go_at_call 64; go_fit (BO _); rintro e w1 ⟨rfl, hb⟩; have kp := keep6 hb l1 hg1))
  all_goals
    have b2 : Below w.heap.size w w1 := HB.out.trans (Below.mono (B := (w.alloc (.cells #[.int .i64 x.sd, .int .i64 x.x, .int .i64 x.y, .int .i64 x.w, .int .i64 x.h] 27)).heap.size) ⟨hb.os, hb.tape, hb.output, hb.size, hb.block⟩ (by simp))
    clear kp hb
    go_wp2
    go_ret
    exact ⟨ret_bool (by simp), b2⟩
/-- Whether a float is at the stretch from t to e. -/
def atB (t e : Int) (x : Asd) : Bool := decide (x.y < e) && decide (t < x.y + x.h)
theorem keep7 {w w' : World} {g g' : Nat} {x : Asd} {t e : Int} {T T' : TypeId} {fr fr' : Nat × Nat} (hb : Below w.heap.size w w') (h : w.heap[g]? = some (.cells #[.int .i64 x.sd, .int .i64 x.x, .int .i64 x.y, .int .i64 x.w, .int .i64 x.h] T fr)) (h' : w.heap[g']? = some (.cells #[.int .i64 t, .int .i64 e] T' fr')) :
    w'.cell? ⟨g', 0, none⟩ = some (.int .i64 t) ∧ w'.cell? ⟨g', 1, none⟩ = some (.int .i64 e) ∧ w'.cell? ⟨g, 0, none⟩ = some (.int .i64 x.sd) ∧ w'.cell? ⟨g, 1, none⟩ = some (.int .i64 x.x) ∧ w'.cell? ⟨g, 2, none⟩ = some (.int .i64 x.y) ∧ w'.cell? ⟨g, 3, none⟩ = some (.int .i64 x.w) ∧ w'.cell? ⟨g, 4, none⟩ = some (.int .i64 x.h) := by
  have l := below_lies hb h (lies_lt h)
  have l' := below_lies hb h' (lies_lt h')
  exact ⟨cell_at l' 0 rfl, cell_at l' 1 rfl, cell_at l 0 rfl, cell_at l 1 rfl, cell_at l 2 rfl, cell_at l 3 rfl, cell_at l 4 rfl⟩
set_option maxHeartbeats 4000000 in
theorem holds_any (t e : Int) (x : Asd) (w : World) (hx : Fine x) :
    Calls Try.prog 62 #[.agg #[.int .i64 t, .int .i64 e], .agg #[.int .i64 x.sd, .int .i64 x.x, .int .i64 x.y, .int .i64 x.w, .int .i64 x.h]] w fun r w' => r = .returned (.bool (atB t e x)) ∧ Below w.heap.size w w' := by
  have hb1 : Below w.heap.size w ((w.alloc (.cells #[.int .i64 t, .int .i64 e] 70)).alloc (.cells #[.int .i64 x.sd, .int .i64 x.x, .int .i64 x.y, .int .i64 x.w, .int .i64 x.h] 27)) := ((Below.refl _ _).alloc (Nat.le_refl _) _).alloc (by simp) _
  have BO := fun W => bottomOf_b x W hx
  have l1 := heap_alloc_new (w.alloc (.cells #[.int .i64 t, .int .i64 e] 70)) (.cells #[.int .i64 x.sd, .int .i64 x.x, .int .i64 x.y, .int .i64 x.w, .int .i64 x.h] 27)
  have l0 : ((w.alloc (.cells #[.int .i64 t, .int .i64 e] 70)).alloc (.cells #[.int .i64 x.sd, .int .i64 x.x, .int .i64 x.y, .int .i64 x.w, .int .i64 x.h] 27)).heap[w.heap.size]? = some (.cells #[.int .i64 t, .int .i64 e] 70 (0, 0)) := heap_in (heap_alloc_new w _)
  have hs : (w.alloc (.cells #[.int .i64 t, .int .i64 e] 70)).heap.size = w.heap.size + 1 := by simp
  rw [hs] at l1
  have HB : Hid (Below w.heap.size w ((w.alloc (.cells #[.int .i64 t, .int .i64 e] 70)).alloc (.cells #[.int .i64 x.sd, .int .i64 x.x, .int .i64 x.y, .int .i64 x.w, .int .i64 x.h] 27))) := hb1
  clear hb1 hs
  rcases Bool.eq_false_or_eq_true (decide (x.y < e)) with hd | hd
  · have HD : Hid (decide (x.y < e) = true) := hd
    go_enter Try.func62, Try.ntmps62
    go_wp2_with fail
    go_region_held3 (fun w' => w'.cell? ⟨w.heap.size, 0, none⟩ = some (.int .i64 t) ∧ w'.cell? ⟨w.heap.size, 1, none⟩ = some (.int .i64 e) ∧ w'.cell? ⟨w.heap.size + 1, 0, none⟩ = some (.int .i64 x.sd) ∧ w'.cell? ⟨w.heap.size + 1, 1, none⟩ = some (.int .i64 x.x) ∧ w'.cell? ⟨w.heap.size + 1, 2, none⟩ = some (.int .i64 x.y) ∧ w'.cell? ⟨w.heap.size + 1, 3, none⟩ = some (.int .i64 x.w) ∧ w'.cell? ⟨w.heap.size + 1, 4, none⟩ = some (.int .i64 x.h))
      (first | go_keep | exact keep7 (Below.refl _ _) l1 l0 | exact kp)
      ((go_at_call 64; go_fit (BO _); rintro e w1 ⟨rfl, hb⟩; have kp := keep7 hb l1 l0))
    all_goals
      have b2 : Below w.heap.size w w1 := HB.out.trans (Below.mono (B := ((w.alloc (.cells #[.int .i64 t, .int .i64 e] 70)).alloc (.cells #[.int .i64 x.sd, .int .i64 x.x, .int .i64 x.y, .int .i64 x.w, .int .i64 x.h] 27)).heap.size) ⟨hb.os, hb.tape, hb.output, hb.size, hb.block⟩ (by simp; omega))
      clear kp hb
      go_wp2
      go_ret
      exact ⟨ret_bool (by unfold atB; rw [HD.out]; simp), b2⟩
  · have HD : Hid (decide (x.y < e) = false) := hd
    clear BO
    go_enter Try.func62, Try.ntmps62
    go_wp2_with fail
    go_quiet (fail)
    go_wp2
    go_ret
    exact ⟨ret_bool (by unfold atB; rw [HD.out]; rfl), below_drewN HB.out _⟩
set_option maxHeartbeats 4000000 in
theorem least1_any (f : FuncId) (eg : ∀ args w, (callFunc f args).run Try.prog w = .ok (.enter f args) w) (q : Asd → Int) (x : Asd) (g : Nat) (w : World) (hg : w.cell? ⟨g, 0, none⟩ = some (.func (.func f) #[] #[])) (q0 : -400000000 ≤ q x) (q1 : q x ≤ 400000000)
    (hf : ∀ (W : World), Calls Try.prog f #[.agg #[.int .i64 x.sd, .int .i64 x.x, .int .i64 x.y, .int .i64 x.w, .int .i64 x.h]] W fun e w' => e = .returned (.int .i64 (q x)) ∧ Below W.heap.size W w') :
    Calls Try.prog 65 #[.agg #[.int .i64 x.sd, .int .i64 x.x, .int .i64 x.y, .int .i64 x.w, .int .i64 x.h], .pointer (some ⟨g, 0, none⟩)] w fun e w' => e = .returned (.int .i64 (-(q x))) ∧ Below w.heap.size w w' := by
  have hlt : g < w.heap.size := World.block_lt_of_cell? _ _ hg
  have hg1 : (w.alloc (.cells #[.int .i64 x.sd, .int .i64 x.x, .int .i64 x.y, .int .i64 x.w, .int .i64 x.h] 27)).cell? ⟨g, 0, none⟩ = some (.func (.func f) #[] #[]) := (World.cell?_alloc_lt _ _ _ hlt).trans hg
  clear hg
  go_enter Try.func65, Try.ntmps65
  go_wp2_with fail
  refine (hf _).mono ?_
  rintro e w2 ⟨rfl, hb⟩
  have b2 : Below w.heap.size w w2 := ((Below.refl _ _).alloc (Nat.le_refl _) _).trans (hb.mono (by simp))
  clear hb hg1
  go_wp2
  go_ret
  exact ⟨rfl, b2⟩
/-- The least of what q tells of a row that is not empty. -/
def le (q : Asd → Int) (l : List Asd) : Int := -(gr (fun y => -(q y)) l)
theorem gr_bd {q : Asd → Int} {A B : Int} {x : Asd} {xs : List Asd} (h : ∀ y ∈ x :: xs, A ≤ q y ∧ q y ≤ B) : A ≤ gr q (x :: xs) ∧ gr q (x :: xs) ≤ B := by
  have hx := h x (by simp)
  refine ⟨?_, gr_le xs (q x) hx.2 (fun y hy => (h y (by simp [hy])).2)⟩
  have := (gr_ge (q := q) xs (q x)).1
  show A ≤ xs.foldl (fun m y => max m (q y)) (q x)
  omega
set_option maxHeartbeats 4000000 in
theorem least_any (f : FuncId) (eg : ∀ args w, (callFunc f args).run Try.prog w = .ok (.enter f args) w) (q : Asd → Int) (b off n cap : Nat) (x : Asd) (xs : List Asd) (w : World) (hn : n = xs.length) (hc : ∀ i y, (x :: xs)[i]? = some y → w.rangeAt b (off + i * 5) (asL y)) (hl : n ≤ 1048576) (hcap : n + 1 ≤ cap)
    (hq : ∀ y ∈ x :: xs, -400000000 ≤ q y ∧ q y ≤ 400000000)
    (hf : ∀ (y : Asd) (W : World), y ∈ x :: xs → Calls Try.prog f #[.agg #[.int .i64 y.sd, .int .i64 y.x, .int .i64 y.y, .int .i64 y.w, .int .i64 y.h]] W fun e w' => e = .returned (.int .i64 (q y)) ∧ Below W.heap.size W w') :
    Calls Try.prog 60 #[.slice (some ⟨b, off, none⟩) (n + 1) cap, .func (.func f) #[] #[]] w fun e w' => e = .returned (.int .i64 (le q (x :: xs))) ∧ Below w.heap.size w w' := by
  have hmf : ∀ (fn : Fn) (first cap : Array Value) (w : World), (Instr.makeFunc fn first cap).run Try.prog w = .ok (.func fn first cap) w := fun _ _ _ _ => rfl
  have l1 : (w.alloc (.cells #[.func (.func f) #[] #[]] 74)).cell? ⟨w.heap.size, 0, none⟩ = some (.func (.func f) #[] #[]) := cell_at (heap_alloc_new w _) 0 rfl
  have hb1 : Below w.heap.size w (w.alloc (.cells #[.func (.func f) #[] #[]] 74)) := below_one rfl
  have GR := greatest2_any 65 (.pointer (some ⟨w.heap.size, 0, none⟩)) (enters_of Try.func65 (by kernel_rfl) rfl) (fun y => -(q y)) b off n cap x xs (w.alloc (.cells #[.func (.func f) #[] #[]] 74)) hn
    (fun i y hy => as_below (hc i y hy) hb1 (as_lt (hc i y hy))) hl hcap
    (fun y W hy hb => least1_any f eg q y w.heap.size W ((hb.cell (by simp)).trans l1) (hq y hy).1 (hq y hy).2 (fun W' => hf y W' hy))
  have HQ : Hid (le q (x :: xs) = -(gr (fun y => -(q y)) (x :: xs))) := rfl
  have bd := gr_bd (q := fun y => -(q y)) (A := -400000000) (B := 400000000) (x := x) (xs := xs) (fun y hy => by have := hq y hy; constructor <;> omega)
  generalize gr (fun y => -(q y)) (x :: xs) = m at GR HQ bd
  obtain ⟨d0, d1⟩ := bd
  have HB : Hid (Below w.heap.size w (w.alloc (.cells #[.func (.func f) #[] #[]] 74))) := hb1
  clear hn hc hq hf l1 hb1 eg
  go_enter Try.func60, Try.ntmps60
  go_wp2_with fail
  refine GR.mono ?_
  rintro e w2 ⟨rfl, hb⟩
  have b2 : Below w.heap.size w w2 := HB.out.trans (hb.mono (by simp))
  clear hb GR
  go_wp2
  go_ret
  exact ⟨by rw [HQ.out]; rfl, b2⟩
end Go.Proofs.Ytngbkcihdbnlgaa
