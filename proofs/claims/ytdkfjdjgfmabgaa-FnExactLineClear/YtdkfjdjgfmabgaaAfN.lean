/-
  ApartFloats: of the model and of the program, for every row of floats.
-/
import Derived.Test.YtdkfjdjgfmabgaaAfM
namespace Go.Proofs.Ytdkfjdjgfmabgaa
open Go.ChangeShapes Go.WideShapes Go.ChangeAt Go.RowKit
set_option linter.unusedVariables false

theorem meet_eq {x z : Asd} (hx : Fine x) (hz : Fine z) : meetB x z = decide (x.x < z.x + z.w ∧ z.x < x.x + x.w ∧ x.y < z.y + z.h ∧ z.y < x.y + x.h ∧ 0 < x.w ∧ 0 < x.h ∧ 0 < z.w ∧ 0 < z.h) := by
  have z4 := hz.w0
  have z6 := hz.h0
  have x4 := hx.w0
  have x6 := hx.h0
  unfold meetB
  rw [Bool.eq_iff_iff, Bool.and_eq_true, decide_eq_true_eq, decide_eq_true_eq, decide_eq_true_eq]
  omega
set_option maxHeartbeats 8000000 in
theorem l7Meet_any (x z : Asd) (w : World) (hx : Fine x) (hz : Fine z) :
    Calls Try.prog 33 #[.agg #[.int .i64 x.sd, .int .i64 x.x, .int .i64 x.y, .int .i64 x.w, .int .i64 x.h], .agg #[.int .i64 z.sd, .int .i64 z.x, .int .i64 z.y, .int .i64 z.w, .int .i64 z.h]] w fun e w' => e = .returned (.bool (meetB x z)) ∧ Below w.heap.size w w' := by
  have HM : Hid (meetB x z = decide (x.x < z.x + z.w ∧ z.x < x.x + x.w ∧ x.y < z.y + z.h ∧ z.y < x.y + x.h ∧ 0 < x.w ∧ 0 < x.h ∧ 0 < z.w ∧ 0 < z.h)) := meet_eq hx hz
  have x0 := hx.x0
  have x1 := hx.x1
  have x2 := hx.y0
  have x3 := hx.y1
  have x4 := hx.w0
  have x5 := hx.w1
  have x6 := hx.h0
  have x7 := hx.h1
  have z0 := hz.x0
  have z1 := hz.x1
  have z2 := hz.y0
  have z3 := hz.y1
  have z4 := hz.w0
  have z5 := hz.w1
  have z6 := hz.h0
  have z7 := hz.h1
  have HB : ∀ o o', Below w.heap.size w ((w.alloc o).alloc o') := fun o o' => ((Below.refl _ _).alloc (Nat.le_refl _) _).alloc (by simp) _
  by_cases c0 : x.x < z.x + z.w
  rotate_left
  · go_enter Try.func33, Try.ntmps33
    go_wp2
    go_ret
    exact ⟨ret_bool (by rw [HM.out, decide_eq_false (by omega)]), HB _ _⟩
  by_cases c1 : z.x < x.x + x.w
  rotate_left
  · go_enter Try.func33, Try.ntmps33
    go_wp2
    go_ret
    exact ⟨ret_bool (by rw [HM.out, decide_eq_false (by omega)]), HB _ _⟩
  by_cases c2 : x.y < z.y + z.h
  rotate_left
  · go_enter Try.func33, Try.ntmps33
    go_wp2
    go_ret
    exact ⟨ret_bool (by rw [HM.out, decide_eq_false (by omega)]), HB _ _⟩
  by_cases c3 : z.y < x.y + x.h
  rotate_left
  · go_enter Try.func33, Try.ntmps33
    go_wp2
    go_ret
    exact ⟨ret_bool (by rw [HM.out, decide_eq_false (by omega)]), HB _ _⟩
  by_cases c4 : 0 < x.w
  rotate_left
  · go_enter Try.func33, Try.ntmps33
    go_wp2
    go_ret
    exact ⟨ret_bool (by rw [HM.out, decide_eq_false (by omega)]), HB _ _⟩
  by_cases c5 : 0 < x.h
  rotate_left
  · go_enter Try.func33, Try.ntmps33
    go_wp2
    go_ret
    exact ⟨ret_bool (by rw [HM.out, decide_eq_false (by omega)]), HB _ _⟩
  by_cases c6 : 0 < z.w
  rotate_left
  · go_enter Try.func33, Try.ntmps33
    go_wp2
    go_ret
    exact ⟨ret_bool (by rw [HM.out, decide_eq_false (by omega)]), HB _ _⟩
  by_cases c7 : 0 < z.h
  rotate_left
  · go_enter Try.func33, Try.ntmps33
    go_wp2
    go_ret
    exact ⟨ret_bool (by rw [HM.out, decide_eq_false (by omega)]), HB _ _⟩
  go_enter Try.func33, Try.ntmps33
  go_wp2
  go_ret
  exact ⟨ret_bool (by rw [HM.out, decide_eq_true (by omega)]), HB _ _⟩
theorem keep5 {w w' : World} {g : Nat} {x : Asd} {t : TypeId} {fr : Nat × Nat} (hb : Below w.heap.size w w') (h : w.heap[g]? = some (.cells #[.int .i64 x.sd, .int .i64 x.x, .int .i64 x.y, .int .i64 x.w, .int .i64 x.h] t fr)) :
    w'.cell? ⟨g, 0, none⟩ = some (.int .i64 x.sd) ∧ w'.cell? ⟨g, 1, none⟩ = some (.int .i64 x.x) ∧ w'.cell? ⟨g, 2, none⟩ = some (.int .i64 x.y) ∧ w'.cell? ⟨g, 3, none⟩ = some (.int .i64 x.w) ∧ w'.cell? ⟨g, 4, none⟩ = some (.int .i64 x.h) := by
  have l := below_lies hb h (lies_lt h)
  exact ⟨cell_at l 0 rfl, cell_at l 1 rfl, cell_at l 2 rfl, cell_at l 3 rfl, cell_at l 4 rfl⟩
set_option maxHeartbeats 4000000 in
theorem meets1_any (x z : Asd) (g : Nat) (w : World) (hx : Fine x) (hz : Fine z) {t : TypeId} {fr : Nat × Nat} (hg : w.heap[g]? = some (.cells #[.int .i64 x.sd, .int .i64 x.x, .int .i64 x.y, .int .i64 x.w, .int .i64 x.h] t fr)) :
    Calls Try.prog 36 #[.agg #[.int .i64 z.sd, .int .i64 z.x, .int .i64 z.y, .int .i64 z.w, .int .i64 z.h], .pointer (some ⟨g, 0, none⟩)] w fun e w' => e = .returned (.bool (meetB x z)) ∧ Below w.heap.size w w' := by
  have hb1 : Below w.heap.size w (w.alloc (.cells #[.int .i64 z.sd, .int .i64 z.x, .int .i64 z.y, .int .i64 z.w, .int .i64 z.h] 47)) := (Below.refl _ _).alloc (Nat.le_refl _) _
  obtain ⟨q0, q1, q2, q3, q4⟩ := keep5 hb1 hg
  have ME := fun W => meets_any x z W hx hz
  have HB : Hid (Below w.heap.size w (w.alloc (.cells #[.int .i64 z.sd, .int .i64 z.x, .int .i64 z.y, .int .i64 z.w, .int .i64 z.h] 47))) := hb1
  clear hg hb1
  go_enter Try.func36, Try.ntmps36
  go_wp2_with fail
  refine (ME _).mono ?_
  rintro e w2 ⟨rfl, hb⟩
  have b2 : Below w.heap.size w w2 := HB.out.trans (hb.mono (by simp))
  clear hb q0 q1 q2 q3 q4 ME
  go_wp2
  go_ret
  exact ⟨rfl, b2⟩
set_option maxHeartbeats 4000000 in
theorem meetsAny_any (a : Option Addr) (n cap : Nat) (l : List Asd) (x : Asd) (w : World) (hn : n = l.length) (hr : AsRow w a l) (hl : n ≤ 1048576) (hf : ∀ z ∈ l, Fine z) (hx : Fine x) :
    Calls Try.prog 25 #[.slice a n cap, .agg #[.int .i64 x.sd, .int .i64 x.x, .int .i64 x.y, .int .i64 x.w, .int .i64 x.h]] w fun e w' => e = .returned (.bool (l.any (meetB x))) ∧ Below w.heap.size w w' := by
  have hmf : ∀ (fn : Fn) (first cap : Array Value) (w : World), (Instr.makeFunc fn first cap).run Try.prog w = .ok (.func fn first cap) w := fun _ _ _ _ => rfl
  have hb1 : Below w.heap.size w (w.alloc (.cells #[.int .i64 x.sd, .int .i64 x.x, .int .i64 x.y, .int .i64 x.w, .int .i64 x.h] 47)) := below_one rfl
  have TH := those2_any 36 (.pointer (some ⟨w.heap.size, 0, none⟩)) (enters_of Try.func36 (by kernel_rfl) rfl) (meetB x) a n cap l (w.alloc (.cells #[.int .i64 x.sd, .int .i64 x.x, .int .i64 x.y, .int .i64 x.w, .int .i64 x.h] 47)) hn (hr.below hb1) hl
    (fun z W hm hb => meets1_any x z w.heap.size W hx (hf z hm) (below_lies hb (heap_alloc_new w _) (by simp)))
  have HA : Hid (decide ((0 : Int) < ((l.filter (meetB x)).length : Int)) = l.any (meetB x)) := any_filter _ _
  have HB : Hid (Below w.heap.size w (w.alloc (.cells #[.int .i64 x.sd, .int .i64 x.x, .int .i64 x.y, .int .i64 x.w, .int .i64 x.h] 47))) := hb1
  generalize l.filter (meetB x) = zs at TH HA
  generalize l.any (meetB x) = r at HA
  clear hn hr hf hx hb1
  go_enter Try.func25, Try.ntmps25
  go_wp2_with fail
  refine TH.mono ?_
  rintro e w2 ⟨v, rfl, ho, hb⟩
  obtain ⟨a2, cap2, rfl, _, _, _, _⟩ := ho.form
  have b2 : Below w.heap.size w w2 := HB.out.trans (hb.mono (by simp))
  clear hb ho TH
  go_wp2
  go_ret
  exact ⟨ret_bool (by rw [← HA.out]; simp), b2⟩

/-- No two of them have a place in common. -/
def apB (l : List Asd) : Bool := (List.range l.length).all fun i => !((l.take i).any (meetB (l.getD i as0)))
theorem apB_no {l : List Asd} {k : Nat} {x : Asd} (hx : l[k]? = some x) (h : (l.take k).any (meetB x) = true) : apB l = false := by
  refine List.all_eq_false.2 ⟨k, List.mem_range.2 (List.getElem?_eq_some_iff.1 hx).1, ?_⟩
  rw [List.getD_eq_getElem?_getD, hx]
  simp only [Option.getD_some, h]
  decide
theorem apB_yes {l : List Asd} (h : ∀ (i : Nat) (x : Asd), i < l.length → l[i]? = some x → (l.take i).any (meetB x) = false) : apB l = true := by
  refine List.all_eq_true.2 fun i hi => ?_
  have hi' := List.mem_range.1 hi
  rw [List.getD_eq_getElem?_getD, List.getElem?_eq_getElem hi', Option.getD_some, h i _ hi' (List.getElem?_eq_getElem hi')]
  rfl
theorem step_ap {l : List Asd} {k : Nat} {x : Asd} (hx : l[k]? = some x) (h : (l.take k).any (meetB x) = false) (hp : ∀ (i : Nat) (x : Asd), i < k → l[i]? = some x → (l.take i).any (meetB x) = false) (i : Nat) (y : Asd) (hi : i < k + 1) (hy : l[i]? = some y) : (l.take i).any (meetB y) = false := by
  by_cases e : i = k
  · subst e
    obtain rfl := Option.some.inj (hx.symm.trans hy)
    exact h
  · exact hp i y (by omega) hy
def apOk (l : List Asd) : Bool := goodF l
def apR (l : List Asd) : Bool := goodF l && apB l
theorem take_row {w : World} {b off : Nat} {l : List Asd} (k : Nat) (h : ∀ i x, l[i]? = some x → w.rangeAt b (off + i * 5) (asL x)) : AsRow w (some ⟨b, off, none⟩) (l.take k) :=
  .inr ⟨b, off, rfl, fun i x hx => h i x (by rw [List.getElem?_take] at hx; split at hx; exact hx; cases hx)⟩
theorem step_in {l : List Asd} {k j : Nat} {x z : Asd} (hz : l[j]? = some z) (h : meetB x z = false) (hp : ∀ (i : Nat) (y : Asd), i < j → l[i]? = some y → meetB x y = false) (i : Nat) (y : Asd) (hi : i < j + 1) (hy : l[i]? = some y) : meetB x y = false :=
  step_none (p := meetB x) hz h hp i y hi hy
theorem any_take_no {l : List Asd} {k : Nat} {x : Asd} (h : ∀ (i : Nat) (y : Asd), i < k → l[i]? = some y → meetB x y = false) : (l.take k).any (meetB x) = false :=
  any_no fun i y hi hy => by
    rw [List.getElem?_take] at hy
    split at hy
    · exact h i y (by assumption) hy
    · cases hy
theorem any_take_yes {l : List Asd} {k j : Nat} {x z : Asd} (hz : l[j]? = some z) (hj : j < k) (h : meetB x z = true) : (l.take k).any (meetB x) = true :=
  any_yes (k := j) (x := z) (by rw [List.getElem?_take, if_pos hj]; exact hz) h
end Go.Proofs.Ytdkfjdjgfmabgaa
