/-
  The greatest and the least of what a function tells of the floats of a row, for every function that answers and leaves memory alone.
-/
import Derived.Test.YtngbkcihdbnlgaaAfT
namespace Go.Proofs.Ytngbkcihdbnlgaa
open Go.ChangeShapes Go.WideShapes Go.ChangeAt Go.RowKit
set_option linter.unusedVariables false

/-- The greatest of what q tells of a row that is not empty. -/
def gr (q : Asd → Int) : List Asd → Int
  | [] => 0
  | x :: xs => xs.foldl (fun m y => max m (q y)) (q x)
theorem gr_snoc (q : Asd → Int) (x : Asd) (xs : List Asd) (y : Asd) : gr q (x :: xs ++ [y]) = max (gr q (x :: xs)) (q y) := by simp [gr]
theorem gr_le {q : Asd → Int} {B : Int} : ∀ (xs : List Asd) (m : Int), (m ≤ B) → (∀ y ∈ xs, q y ≤ B) → xs.foldl (fun m y => max m (q y)) m ≤ B
  | [], m, h, _ => h
  | y :: ys, m, h, hy => gr_le ys (max m (q y)) (by have := hy y (by simp); omega) (fun z hz => hy z (by simp [hz]))
theorem gr_ge {q : Asd → Int} : ∀ (xs : List Asd) (m : Int), m ≤ xs.foldl (fun m y => max m (q y)) m ∧ ∀ y ∈ xs, q y ≤ xs.foldl (fun m y => max m (q y)) m
  | [], m => ⟨Int.le_refl _, fun y hy => by simp at hy⟩
  | y :: ys, m => by
    obtain ⟨h1, h2⟩ := gr_ge (q := q) ys (max m (q y))
    rw [List.foldl_cons]
    refine ⟨by omega, fun z hz => ?_⟩
    rcases List.mem_cons.1 hz with rfl | hz
    · omega
    · exact h2 z hz
theorem gr_take {q : Asd → Int} {x : Asd} {xs : List Asd} {j : Nat} {y : Asd} (hy : xs[j]? = some y) : gr q (x :: xs.take (j + 1)) = max (gr q (x :: xs.take j)) (q y) := by
  rw [List.take_add_one, hy]
  exact gr_snoc q x _ y
set_option maxHeartbeats 4000000 in
theorem greatest0_any (f : FuncId) (eg : ∀ args w, (callFunc f args).run Try.prog w = .ok (.enter f args) w) (q : Asd → Int) (b off n cap : Nat) (x : Asd) (xs : List Asd) (w : World) (hn : n = xs.length) (hc : ∀ i y, (x :: xs)[i]? = some y → w.rangeAt b (off + i * 5) (asL y)) (hl : n ≤ 1048576) (hcap : n + 1 ≤ cap)
    (hf : ∀ (y : Asd) (W : World), y ∈ x :: xs → Below w.heap.size w W → Calls Try.prog f #[.agg #[.int .i64 y.sd, .int .i64 y.x, .int .i64 y.y, .int .i64 y.w, .int .i64 y.h]] W fun e w' => e = .returned (.int .i64 (q y)) ∧ Below W.heap.size W w') :
    Calls Try.prog 50 #[.slice (some ⟨b, off, none⟩) (n + 1) cap, .func (.func f) #[] #[]] w fun e w' => e = .returned (.int .i64 (gr q (x :: xs))) ∧ Below w.heap.size w w' := by
  have HN : Hid (n = xs.length) := hn
  have HC : Hid (∀ i y, (x :: xs)[i]? = some y → w.rangeAt b (off + i * 5) (asL y)) := hc
  have HF : Hid (∀ (y : Asd) (W : World), y ∈ x :: xs → Below w.heap.size w W → Calls Try.prog f #[.agg #[.int .i64 y.sd, .int .i64 y.x, .int .i64 y.y, .int .i64 y.w, .int .i64 y.h]] W fun e w' => e = .returned (.int .i64 (q y)) ∧ Below W.heap.size W w') := hf
  have hr := hc 0 x rfl
  rw [Nat.zero_mul, Nat.add_zero] at hr
  obtain ⟨q0, q1, q2, q3, q4⟩ := as_cells hr
  clear hn hc hf hr
  go_enter Try.func50, Try.ntmps50
  go_wp2_with fail
  refine (HF.out x _ (by simp) (Below.refl _ _)).mono ?_
  rintro e w2 ⟨rfl, b2⟩
  clear q0 q1 q2 q3 q4
  by_cases hc1 : cap = 1
  · subst hc1
    obtain rfl : n = 0 := by omega
    have HX : Hid (xs = []) := List.eq_nil_of_length_eq_zero HN.out.symm
    go_wp2_with fail
    refine wp_loop_rounds 1 ?_
    rw [rounds_succ]
    go_wp2
    go_ret
    exact ⟨by rw [HX.out]; rfl, b2⟩
  go_wp2_with fail
  go_loopw [5, 16] (fun v i wr => ∃ j : Nat, j ≤ n ∧ i = .int .i64 j ∧ v = .int .i64 (gr q (x :: xs.take j)) ∧ Below w.heap.size w wr) (fun _ i _ => n - (intOf i).toNat)
  case atStart => exact ⟨0, Nat.zero_le _, rfl, by rw [List.take_zero]; rfl, b2⟩
  case round =>
    clear b2
    obtain ⟨j, hj, rfl, rfl, hbw⟩ := hrel
    by_cases hlt : j < n
    rotate_left
    · have e : j = n := by omega
      subst e
      have HT : Hid (xs.take j = xs) := List.take_of_length_le (by have := HN.out; omega)
      go_wp2
      go_ret
      exact ⟨by rw [HT.out]; rfl, hbw⟩
    obtain ⟨y, hy⟩ : ∃ y, xs[j]? = some y := ⟨_, List.getElem?_eq_getElem (by have := HN.out; omega)⟩
    have hr0 := HC.out (j + 1) y (by simpa using hy)
    have hr := as_below hr0 hbw (as_lt hr0)
    rw [show off + (j + 1) * 5 = off + 5 + j * 5 by omega] at hr
    obtain ⟨q0, q1, q2, q3, q4⟩ := as_cells hr
    have HY : Hid (gr q (x :: xs.take (j + 1)) = max (gr q (x :: xs.take j)) (q y)) := gr_take hy
    have HM : Hid (y ∈ x :: xs) := List.mem_cons_of_mem _ (List.mem_of_getElem? hy)
    generalize gr q (x :: xs.take j) = m at HY
    clear hr0 hr hy
    go_wp2_with fail
    refine (HF.out y _ HM.out (hbw.alloc hbw.size _)).mono ?_
    rintro e w3 ⟨rfl, hb⟩
    have b3 : Below w.heap.size w w3 := (hbw.alloc hbw.size _).trans (hb.mono (by have := hbw.size; simp; omega))
    clear hb hbw q0 q1 q2 q3 q4
    go_wp2
    go_roundw
    case rel => exact ⟨j + 1, by omega, by go_num, by rw [HY.out], b3⟩
    case measure => simp [intOf]; omega
set_option maxHeartbeats 4000000 in
theorem greatest2_any (f : FuncId) (u : Value) (eg : ∀ args w, (callFunc f args).run Try.prog w = .ok (.enter f args) w) (q : Asd → Int) (b off n cap : Nat) (x : Asd) (xs : List Asd) (w : World) (hn : n = xs.length) (hc : ∀ i y, (x :: xs)[i]? = some y → w.rangeAt b (off + i * 5) (asL y)) (hl : n ≤ 1048576) (hcap : n + 1 ≤ cap)
    (hf : ∀ (y : Asd) (W : World), y ∈ x :: xs → Below w.heap.size w W → Calls Try.prog f #[.agg #[.int .i64 y.sd, .int .i64 y.x, .int .i64 y.y, .int .i64 y.w, .int .i64 y.h], u] W fun e w' => e = .returned (.int .i64 (q y)) ∧ Below W.heap.size W w') :
    Calls Try.prog 50 #[.slice (some ⟨b, off, none⟩) (n + 1) cap, .func (.func f) #[] #[u]] w fun e w' => e = .returned (.int .i64 (gr q (x :: xs))) ∧ Below w.heap.size w w' := by
  have HN : Hid (n = xs.length) := hn
  have HC : Hid (∀ i y, (x :: xs)[i]? = some y → w.rangeAt b (off + i * 5) (asL y)) := hc
  have HF : Hid (∀ (y : Asd) (W : World), y ∈ x :: xs → Below w.heap.size w W → Calls Try.prog f #[.agg #[.int .i64 y.sd, .int .i64 y.x, .int .i64 y.y, .int .i64 y.w, .int .i64 y.h], u] W fun e w' => e = .returned (.int .i64 (q y)) ∧ Below W.heap.size W w') := hf
  have hr := hc 0 x rfl
  rw [Nat.zero_mul, Nat.add_zero] at hr
  obtain ⟨q0, q1, q2, q3, q4⟩ := as_cells hr
  clear hn hc hf hr
  go_enter Try.func50, Try.ntmps50
  go_wp2_with fail
  refine (HF.out x _ (by simp) (Below.refl _ _)).mono ?_
  rintro e w2 ⟨rfl, b2⟩
  clear q0 q1 q2 q3 q4
  by_cases hc1 : cap = 1
  · subst hc1
    obtain rfl : n = 0 := by omega
    have HX : Hid (xs = []) := List.eq_nil_of_length_eq_zero HN.out.symm
    go_wp2_with fail
    refine wp_loop_rounds 1 ?_
    rw [rounds_succ]
    go_wp2
    go_ret
    exact ⟨by rw [HX.out]; rfl, b2⟩
  go_wp2_with fail
  go_loopw [5, 16] (fun v i wr => ∃ j : Nat, j ≤ n ∧ i = .int .i64 j ∧ v = .int .i64 (gr q (x :: xs.take j)) ∧ Below w.heap.size w wr) (fun _ i _ => n - (intOf i).toNat)
  case atStart => exact ⟨0, Nat.zero_le _, rfl, by rw [List.take_zero]; rfl, b2⟩
  case round =>
    clear b2
    obtain ⟨j, hj, rfl, rfl, hbw⟩ := hrel
    by_cases hlt : j < n
    rotate_left
    · have e : j = n := by omega
      subst e
      have HT : Hid (xs.take j = xs) := List.take_of_length_le (by have := HN.out; omega)
      go_wp2
      go_ret
      exact ⟨by rw [HT.out]; rfl, hbw⟩
    obtain ⟨y, hy⟩ : ∃ y, xs[j]? = some y := ⟨_, List.getElem?_eq_getElem (by have := HN.out; omega)⟩
    have hr0 := HC.out (j + 1) y (by simpa using hy)
    have hr := as_below hr0 hbw (as_lt hr0)
    rw [show off + (j + 1) * 5 = off + 5 + j * 5 by omega] at hr
    obtain ⟨q0, q1, q2, q3, q4⟩ := as_cells hr
    have HY : Hid (gr q (x :: xs.take (j + 1)) = max (gr q (x :: xs.take j)) (q y)) := gr_take hy
    have HM : Hid (y ∈ x :: xs) := List.mem_cons_of_mem _ (List.mem_of_getElem? hy)
    generalize gr q (x :: xs.take j) = m at HY
    clear hr0 hr hy
    go_wp2_with fail
    refine (HF.out y _ HM.out (hbw.alloc hbw.size _)).mono ?_
    rintro e w3 ⟨rfl, hb⟩
    have b3 : Below w.heap.size w w3 := (hbw.alloc hbw.size _).trans (hb.mono (by have := hbw.size; simp; omega))
    clear hb hbw q0 q1 q2 q3 q4
    go_wp2
    go_roundw
    case rel => exact ⟨j + 1, by omega, by go_num, by rw [HY.out], b3⟩
    case measure => simp [intOf]; omega
end Go.Proofs.Ytngbkcihdbnlgaa
