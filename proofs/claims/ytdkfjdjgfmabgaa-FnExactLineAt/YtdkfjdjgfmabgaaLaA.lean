/-
  LineAt: of the model and of the program, for every row of lines.
-/
import Derived.Test.YtdkfjdjgfmabgaaLnE
import Derived.Test.YtdkfjdjgfmabgaaAfV
namespace Go.Proofs.Ytdkfjdjgfmabgaa
open Go.ChangeShapes Go.WideShapes Go.ChangeAt Go.RowKit
set_option linter.unusedVariables false

theorem ln_cells {w : World} {b o : Nat} {x : Ln} (h : w.rangeAt b o (lnL x)) : w.cell? ⟨b, o, none⟩ = some (.int .i64 x.bx) ∧ w.cell? ⟨b, o + 1, none⟩ = some (.int .i64 x.x) ∧ w.cell? ⟨b, o + 2, none⟩ = some (.int .i64 x.y) ∧ w.cell? ⟨b, o + 3, none⟩ = some (.int .i64 x.w) ∧ w.cell? ⟨b, o + 4, none⟩ = some (.int .i64 x.h) ∧ w.cell? ⟨b, o + 5, none⟩ = some (.string x.tx) :=
  ⟨h 0 _ rfl, h 1 _ rfl, h 2 _ rfl, h 3 _ rfl, h 4 _ rfl, h 5 _ rfl⟩
theorem ln_some {w : World} {a : Option Addr} {l : List Ln} (hr : LnRow w a l) {i : Nat} {x : Ln} (h : l[i]? = some x) : ∃ b off, a = some ⟨b, off, none⟩ ∧ ∀ i n, l[i]? = some n → w.rangeAt b (off + i * 6) (lnL n) := by
  rcases hr with h' | h'
  · rw [h'] at h; simp at h
  · exact h'
theorem ln_step {p : Ln → Bool} {q : Bool} {l : List Ln} {k : Nat} {x : Ln} (hx : l[k]? = some x) (h : p x = q) (hp : ∀ (i : Nat) (x : Ln), i < k → l[i]? = some x → p x = q) (i : Nat) (y : Ln) (hi : i < k + 1) (hy : l[i]? = some y) : p y = q := by
  by_cases e : i = k
  · subst e
    obtain rfl := Option.some.inj (hx.symm.trans hy)
    exact h
  · exact hp i y (by omega) hy
/-- A line that may be asked for. -/
def goodL (x : Ln) : Bool := nearB x.y && extB x.h
def hasB (y : Int) (x : Ln) : Bool := decide (x.y ≤ y) && decide (y < x.y + x.h)
def firstI (p : Ln → Bool) (l : List Ln) : Int := if l.any p = true then (l.findIdx p : Int) else -1
theorem firstI_no {p : Ln → Bool} {l : List Ln} (h : ∀ (i : Nat) (x : Ln), i < l.length → l[i]? = some x → p x = false) : firstI p l = -1 := by
  unfold firstI
  rw [if_neg]
  intro h'
  obtain ⟨x, hm, hx⟩ := List.any_eq_true.1 h'
  obtain ⟨i, hi, rfl⟩ := List.getElem_of_mem hm
  rw [h i _ hi (List.getElem?_eq_getElem hi)] at hx
  cases hx
theorem firstI_yes {p : Ln → Bool} {l : List Ln} {k : Nat} {x : Ln} (hx : l[k]? = some x) (h : p x = true) (hp : ∀ (i : Nat) (y : Ln), i < k → l[i]? = some y → p y = false) : firstI p l = (k : Int) := by
  unfold firstI
  obtain ⟨hk, he⟩ := List.getElem?_eq_some_iff.1 hx
  rw [if_pos (List.any_eq_true.2 ⟨x, List.mem_of_getElem? hx, h⟩), (List.findIdx_eq hk).2 ⟨by rw [he]; exact h, fun j hj => hp j _ hj (List.getElem?_eq_getElem (by omega))⟩]
theorem firstI_pos (p : Ln → Bool) (l : List Ln) : decide (0 ≤ firstI p l) = l.any p := by
  unfold firstI
  cases h : l.any p
  · rfl
  · rw [if_pos rfl]; exact decide_eq_true (by omega)
theorem firstI_le (p : Ln → Bool) (l : List Ln) (h : l.length ≤ 400) : -1 ≤ firstI p l ∧ firstI p l ≤ 400 := by
  unfold firstI
  split
  · have := @List.findIdx_le_length _ p l
    omega
  · omega
def laOk (l : List Ln) (y : Int) : Bool := decide (l.length ≤ 400) && nearB y && l.all goodL
def laI (l : List Ln) (y : Int) : Int := if laOk l y = true then max (firstI (hasB y) l) 0 else 0
def laB (l : List Ln) (y : Int) : Bool := laOk l y && decide (0 ≤ firstI (hasB y) l)
theorem la_long {l : List Ln} {y : Int} (h : 400 < l.length) : laOk l y = false := by
  unfold laOk
  rw [decide_eq_false (by omega)]
  rfl
theorem la_far {l : List Ln} {y : Int} (h : nearB y = false) : laOk l y = false := by
  unfold laOk
  rw [h]
  simp
theorem la_bad {l : List Ln} {y : Int} {k : Nat} {x : Ln} (hx : l[k]? = some x) (h : goodL x = false) : laOk l y = false := by
  unfold laOk
  rw [List.all_eq_false.2 ⟨x, List.mem_of_getElem? hx, by rw [h]; decide⟩]
  simp
theorem la_good {l : List Ln} {y : Int} (h : l.length ≤ 400) (hy : nearB y = true) (ha : ∀ (i : Nat) (x : Ln), i < l.length → l[i]? = some x → goodL x = true) : laOk l y = true := by
  unfold laOk
  rw [decide_eq_true h, hy, List.all_eq_true.2]
  · rfl
  · intro x hm
    obtain ⟨i, hi, rfl⟩ := List.getElem_of_mem hm
    exact ha i _ hi (List.getElem?_eq_getElem hi)
theorem la_zero {l : List Ln} {y : Int} (h : laOk l y = false) : laI l y = 0 ∧ laB l y = false := by
  unfold laI laB
  rw [h]
  exact ⟨rfl, rfl⟩
theorem la_one {l : List Ln} {y : Int} (h : laOk l y = true) : laI l y = max (firstI (hasB y) l) 0 ∧ laB l y = decide (0 ≤ firstI (hasB y) l) := by
  unfold laI laB
  rw [h]
  exact ⟨rfl, Bool.true_and _⟩
theorem goodL_parts {x : Ln} (h : goodL x = true) : -100000000 ≤ x.y ∧ x.y ≤ 100000000 ∧ 0 ≤ x.h ∧ x.h ≤ 1000000 := by
  unfold goodL at h
  rw [Bool.and_eq_true] at h
  have a0 := inB_yes h.1
  have a1 := inB_yes h.2
  exact ⟨a0.1, a0.2, a1.1, a1.2⟩
theorem ret_tupIB {a b : Int} {c d : Bool} (h : a = b) (h' : c = d) : Ending.returned (.tuple #[.int .i64 a, .bool c]) = .returned (.tuple #[.int .i64 b, .bool d]) := by rw [h, h']
theorem ret_intL {a b : Int} (h : a = b) : Ending.returned (.int .i64 a) = .returned (.int .i64 b) := by rw [h]
set_option maxHeartbeats 4000000 in
theorem isFarDown_any (x : Ln) (w : World) : Calls Try.prog 28 #[.agg #[.int .i64 x.bx, .int .i64 x.x, .int .i64 x.y, .int .i64 x.w, .int .i64 x.h, .string x.tx]] w fun e w' => e = .returned (.bool (!(goodL x))) ∧ Below w.heap.size w w' := by
  have HG : Hid (goodL x = (nearB x.y && extB x.h)) := rfl
  have b0 : Below w.heap.size w (w.alloc (.cells #[.int .i64 x.bx, .int .i64 x.x, .int .i64 x.y, .int .i64 x.w, .int .i64 x.h, .string x.tx] 31)) := (Below.refl _ _).alloc (Nat.le_refl _) _
  rcases Bool.eq_false_or_eq_true (nearB x.y) with h0 | h0
  rotate_left
  · go_enter Try.func28, Try.ntmps28
    go_wp2_with fail
    refine (isNear_any x.y _).mono ?_
    rintro e w' ⟨rfl, hw'⟩
    have hw' := hw'.symm
    subst hw'
    rw [h0]
    go_wp2
    go_ret
    exact ⟨ret_bool (by rw [HG.out, h0]; rfl), b0⟩
  · go_enter Try.func28, Try.ntmps28
    go_wp2_with fail
    refine (isNear_any x.y _).mono ?_
    rintro e w' ⟨rfl, hw'⟩
    have hw' := hw'.symm
    subst hw'
    rw [h0]
    go_wp2_with fail
    refine (isExtent_any x.h _).mono ?_
    rintro e w' ⟨rfl, hw'⟩
    have hw' := hw'.symm
    subst hw'
    go_wp2
    go_ret
    exact ⟨ret_bool (by rw [HG.out, h0]; simp), b0⟩
set_option maxHeartbeats 4000000 in
theorem lineAt1_any (x : Ln) (y : Int) (g : Nat) (w : World) (hx : goodL x = true) (hy : nearB y = true) {t : TypeId} {fr : Nat × Nat} (hg : w.heap[g]? = some (.cells #[.int .i64 y] t fr)) :
    Calls Try.prog 30 #[.agg #[.int .i64 x.bx, .int .i64 x.x, .int .i64 x.y, .int .i64 x.w, .int .i64 x.h, .string x.tx], .pointer (some ⟨g, 0, none⟩)] w fun e w' => e = .returned (.bool (hasB y x)) ∧ Below w.heap.size w w' := by
  obtain ⟨x0, x1, x2, x3⟩ := goodL_parts hx
  have HB : Hid (hasB y x = (decide (x.y ≤ y) && decide (y < x.y + x.h))) := rfl
  have b0 : Below w.heap.size w (w.alloc (.cells #[.int .i64 x.bx, .int .i64 x.x, .int .i64 x.y, .int .i64 x.w, .int .i64 x.h, .string x.tx] 31)) := (Below.refl _ _).alloc (Nat.le_refl _) _
  have q : (w.alloc (.cells #[.int .i64 x.bx, .int .i64 x.x, .int .i64 x.y, .int .i64 x.w, .int .i64 x.h, .string x.tx] 31)).cell? ⟨g, 0, none⟩ = some (.int .i64 y) := cell_at (below_lies b0 hg (lies_lt hg)) 0 rfl
  clear hg hx hy
  by_cases h0 : x.y ≤ y
  rotate_left
  · go_enter Try.func30, Try.ntmps30
    go_wp2
    go_ret
    exact ⟨ret_bool (by rw [HB.out, decide_eq_false (p := x.y ≤ y) (by omega)]; rfl), b0⟩
  · go_enter Try.func30, Try.ntmps30
    go_wp2
    go_ret
    exact ⟨ret_bool (by rw [HB.out, decide_eq_true (p := x.y ≤ y) (by omega)]; simp), b0⟩
set_option maxHeartbeats 4000000 in
theorem index0_any (f : FuncId) (eg : ∀ args w, (callFunc f args).run Try.prog w = .ok (.enter f args) w) (p : Ln → Bool) (a : Option Addr) (n cap : Nat) (l : List Ln) (w : World) (hn : n = l.length) (hr : LnRow w a l) (hl : n ≤ 1048576)
    (hf : ∀ (x : Ln) (W : World), x ∈ l → Below w.heap.size w W → Calls Try.prog f #[.agg #[.int .i64 x.bx, .int .i64 x.x, .int .i64 x.y, .int .i64 x.w, .int .i64 x.h, .string x.tx]] W fun e w' => e = .returned (.bool (p x)) ∧ Below W.heap.size W w') :
    Calls Try.prog 29 #[.slice a n cap, .func (.func f) #[] #[]] w fun e w' => e = .returned (.int .i64 (firstI p l)) ∧ Below w.heap.size w w' := by
  have HN : Hid (n = l.length) := hn
  have HR : Hid (LnRow w a l) := hr
  have HF : Hid (∀ (x : Ln) (W : World), x ∈ l → Below w.heap.size w W → Calls Try.prog f #[.agg #[.int .i64 x.bx, .int .i64 x.x, .int .i64 x.y, .int .i64 x.w, .int .i64 x.h, .string x.tx]] W fun e w' => e = .returned (.bool (p x)) ∧ Below W.heap.size W w') := hf
  clear hn hr hf
  go_enter Try.func29, Try.ntmps29
  go_wp2_with fail
  go_loopw [8] (fun i wr => ∃ k : Nat, k ≤ n ∧ i = .int .i64 k ∧ (∀ (i : Nat) (y : Ln), i < k → l[i]? = some y → p y = false) ∧ Below w.heap.size w wr) (fun i _ => n - (intOf i).toNat)
  case atStart => exact ⟨0, Nat.zero_le _, rfl, fun i x hi => absurd hi (by omega), Below.refl _ _⟩
  case round =>
    obtain ⟨k, hk, rfl, hp, hbw⟩ := hrel
    have HP : Hid (∀ (i : Nat) (y : Ln), i < k → l[i]? = some y → p y = false) := hp
    clear hp
    by_cases hlt : k < n
    rotate_left
    · have HY : Hid (firstI p l = -1) := firstI_no fun i y hi hy => HP.out i y (by have := HN.out; omega) hy
      go_wp2
      go_ret
      exact ⟨ret_intL HY.out.symm, hbw⟩
    obtain ⟨x, hx⟩ : ∃ x, l[k]? = some x := ⟨_, List.getElem?_eq_getElem (by have := HN.out; omega)⟩
    obtain ⟨b, off, rfl, hc⟩ := ln_some HR.out hx
    have hr := ln_below (hc k x hx) hbw (ln_lt (hc k x hx))
    obtain ⟨q0, q1, q2, q3, q4, q5⟩ := ln_cells hr
    have HX : Hid (l[k]? = some x) := hx
    have FX := HF.out x wr (List.mem_of_getElem? hx) hbw
    clear hc hx hr
    go_wp2_with fail
    refine FX.mono ?_
    rintro e w2 ⟨rfl, hb⟩
    have b2 : Below w.heap.size w w2 := hbw.trans (hb.mono hbw.size)
    clear hb hbw q0 q1 q2 q3 q4 q5 FX
    rcases Bool.eq_false_or_eq_true (p x) with hp | hp
    · rw [hp]
      have HY : Hid (firstI p l = (k : Int)) := firstI_yes HX.out hp HP.out
      go_wp2
      go_ret
      exact ⟨ret_intL HY.out.symm, b2⟩
    · rw [hp]
      go_wp2
      go_roundw
      case rel => exact ⟨k + 1, by omega, by go_num, ln_step HX.out hp HP.out, b2⟩
      case measure => simp [intOf]; omega
set_option maxHeartbeats 4000000 in
theorem index1_any (f : FuncId) (u : Value) (eg : ∀ args w, (callFunc f args).run Try.prog w = .ok (.enter f args) w) (p : Ln → Bool) (a : Option Addr) (n cap : Nat) (l : List Ln) (w : World) (hn : n = l.length) (hr : LnRow w a l) (hl : n ≤ 1048576)
    (hf : ∀ (x : Ln) (W : World), x ∈ l → Below w.heap.size w W → Calls Try.prog f #[.agg #[.int .i64 x.bx, .int .i64 x.x, .int .i64 x.y, .int .i64 x.w, .int .i64 x.h, .string x.tx], u] W fun e w' => e = .returned (.bool (p x)) ∧ Below W.heap.size W w') :
    Calls Try.prog 29 #[.slice a n cap, .func (.func f) #[] #[u]] w fun e w' => e = .returned (.int .i64 (firstI p l)) ∧ Below w.heap.size w w' := by
  have HN : Hid (n = l.length) := hn
  have HR : Hid (LnRow w a l) := hr
  have HF : Hid (∀ (x : Ln) (W : World), x ∈ l → Below w.heap.size w W → Calls Try.prog f #[.agg #[.int .i64 x.bx, .int .i64 x.x, .int .i64 x.y, .int .i64 x.w, .int .i64 x.h, .string x.tx], u] W fun e w' => e = .returned (.bool (p x)) ∧ Below W.heap.size W w') := hf
  clear hn hr hf
  go_enter Try.func29, Try.ntmps29
  go_wp2_with fail
  go_loopw [8] (fun i wr => ∃ k : Nat, k ≤ n ∧ i = .int .i64 k ∧ (∀ (i : Nat) (y : Ln), i < k → l[i]? = some y → p y = false) ∧ Below w.heap.size w wr) (fun i _ => n - (intOf i).toNat)
  case atStart => exact ⟨0, Nat.zero_le _, rfl, fun i x hi => absurd hi (by omega), Below.refl _ _⟩
  case round =>
    obtain ⟨k, hk, rfl, hp, hbw⟩ := hrel
    have HP : Hid (∀ (i : Nat) (y : Ln), i < k → l[i]? = some y → p y = false) := hp
    clear hp
    by_cases hlt : k < n
    rotate_left
    · have HY : Hid (firstI p l = -1) := firstI_no fun i y hi hy => HP.out i y (by have := HN.out; omega) hy
      go_wp2
      go_ret
      exact ⟨ret_intL HY.out.symm, hbw⟩
    obtain ⟨x, hx⟩ : ∃ x, l[k]? = some x := ⟨_, List.getElem?_eq_getElem (by have := HN.out; omega)⟩
    obtain ⟨b, off, rfl, hc⟩ := ln_some HR.out hx
    have hr := ln_below (hc k x hx) hbw (ln_lt (hc k x hx))
    obtain ⟨q0, q1, q2, q3, q4, q5⟩ := ln_cells hr
    have HX : Hid (l[k]? = some x) := hx
    have FX := HF.out x wr (List.mem_of_getElem? hx) hbw
    clear hc hx hr
    go_wp2_with fail
    refine FX.mono ?_
    rintro e w2 ⟨rfl, hb⟩
    have b2 : Below w.heap.size w w2 := hbw.trans (hb.mono hbw.size)
    clear hb hbw q0 q1 q2 q3 q4 q5 FX
    rcases Bool.eq_false_or_eq_true (p x) with hp | hp
    · rw [hp]
      have HY : Hid (firstI p l = (k : Int)) := firstI_yes HX.out hp HP.out
      go_wp2
      go_ret
      exact ⟨ret_intL HY.out.symm, b2⟩
    · rw [hp]
      go_wp2
      go_roundw
      case rel => exact ⟨k + 1, by omega, by go_num, ln_step HX.out hp HP.out, b2⟩
      case measure => simp [intOf]; omega
set_option maxHeartbeats 4000000 in
theorem contains0_any (f : FuncId) (eg : ∀ args w, (callFunc f args).run Try.prog w = .ok (.enter f args) w) (p : Ln → Bool) (a : Option Addr) (n cap : Nat) (l : List Ln) (w : World) (hn : n = l.length) (hr : LnRow w a l) (hl : n ≤ 1048576)
    (hf : ∀ (x : Ln) (W : World), x ∈ l → Below w.heap.size w W → Calls Try.prog f #[.agg #[.int .i64 x.bx, .int .i64 x.x, .int .i64 x.y, .int .i64 x.w, .int .i64 x.h, .string x.tx]] W fun e w' => e = .returned (.bool (p x)) ∧ Below W.heap.size W w') :
    Calls Try.prog 27 #[.slice a n cap, .func (.func f) #[] #[]] w fun e w' => e = .returned (.bool (l.any p)) ∧ Below w.heap.size w w' := by
  have IX := index0_any f eg p a n cap l w hn hr hl hf
  have HP : Hid (decide (0 ≤ firstI p l) = l.any p) := firstI_pos p l
  generalize firstI p l = r at IX HP
  clear hn hr hf
  go_enter Try.func27, Try.ntmps27
  go_wp2_with fail
  refine IX.mono ?_
  rintro e w2 ⟨rfl, b2⟩
  clear IX
  go_wp2
  go_ret
  exact ⟨ret_bool (by rw [← HP.out]), b2⟩
theorem any_bad {l : List Ln} (h : l.any (fun x => !(goodL x)) = true) : ∃ (k : Nat) (x : Ln), l[k]? = some x ∧ goodL x = false := by
  obtain ⟨x, hm, hx⟩ := List.any_eq_true.1 h
  obtain ⟨i, hi, rfl⟩ := List.getElem_of_mem hm
  exact ⟨i, _, List.getElem?_eq_getElem hi, by simpa using hx⟩
theorem any_good {l : List Ln} (h : l.any (fun x => !(goodL x)) = false) (x : Ln) (hm : x ∈ l) : goodL x = true := by
  have := List.any_eq_false.1 h x hm
  simpa using this
set_option maxHeartbeats 8000000 in
theorem implAt_any (a : Option Addr) (n cap : Nat) (l : List Ln) (y : Int) (w : World) (hn : n = l.length) (hr : LnRow w a l) (hl : n ≤ 1048576) :
    Calls Try.prog 15 #[.slice a n cap, .int .i64 y] w fun e w' => e = .returned (.tuple #[.int .i64 (laI l y), .bool (laB l y)]) ∧ Below w.heap.size w w' := by
  have hmf : ∀ (fn : Fn) (first cap : Array Value) (w : World), (Instr.makeFunc fn first cap).run Try.prog w = .ok (.func fn first cap) w := fun _ _ _ _ => rfl
  have HL0 : Hid ((w.alloc (.cells #[.int .i64 y] 3)).heap[w.heap.size]? = some (.cells #[.int .i64 y] 3 (0, 0))) := heap_alloc_new w _
  have HB0 : Hid (Below w.heap.size w (w.alloc (.cells #[.int .i64 y] 3))) := (Below.refl _ _).alloc (Nat.le_refl _) _
  by_cases hbig : n ≤ 400
  rotate_left
  · have HZ : Hid (laI l y = 0 ∧ laB l y = false) := la_zero (la_long (by omega))
    have hbig' : (400 : Int) < (n : Int) := by omega
    clear hn hr
    go_enter Try.func15, Try.ntmps15
    go_wp2
    go_ret2
    exact ⟨ret_tupIB HZ.out.1.symm HZ.out.2.symm, HB0.out⟩
  have hbig' : ¬ ((400 : Int) < (n : Int)) := by omega
  rcases Bool.eq_false_or_eq_true (nearB y) with hy | hy
  rotate_left
  · have HZ : Hid (laI l y = 0 ∧ laB l y = false) := la_zero (la_far hy)
    clear hn hr
    go_enter Try.func15, Try.ntmps15
    go_wp2_with fail
    refine (isNear_any y _).mono ?_
    rintro e w' ⟨rfl, hw'⟩
    have hw' := hw'.symm
    subst hw'
    rw [hy]
    go_wp2
    go_ret2
    exact ⟨ret_tupIB HZ.out.1.symm HZ.out.2.symm, HB0.out⟩
  have CF := fun (W : World) (h : Below w.heap.size w W) => contains0_any 28 (enters_of Try.func28 (by kernel_rfl) rfl) (fun x => !(goodL x)) a n cap l W hn (hr.below h) hl (fun x V _ _ => isFarDown_any x V)
  rcases Bool.eq_false_or_eq_true (l.any (fun x => !(goodL x))) with hb | hb
  · obtain ⟨k, x, hx, hg⟩ := any_bad hb
    have HZ : Hid (laI l y = 0 ∧ laB l y = false) := la_zero (la_bad hx hg)
    rw [hb] at CF
    clear hn hr hx hg hb
    go_enter Try.func15, Try.ntmps15
    go_wp2_with fail
    refine (isNear_any y _).mono ?_
    rintro e w' ⟨rfl, hw'⟩
    have hw' := hw'.symm
    subst hw'
    rw [hy]
    go_wp2_with fail
    refine (CF _ HB0.out).mono ?_
    rintro e w1 ⟨rfl, c1⟩
    have b1 := HB0.out.trans (c1.mono HB0.out.size)
    clear c1 CF
    go_wp2
    go_ret2
    exact ⟨ret_tupIB HZ.out.1.symm HZ.out.2.symm, b1⟩
  have HG := any_good hb
  have HZ : Hid (laI l y = max (firstI (hasB y) l) 0 ∧ laB l y = decide (0 ≤ firstI (hasB y) l)) := la_one (la_good (by omega) hy (fun i x _ hx => HG x (List.mem_of_getElem? hx)))
  have IX := fun (W : World) (h : Below w.heap.size w W) (hl0 : W.heap[w.heap.size]? = some (.cells #[.int .i64 y] 3 (0, 0))) => index1_any 30 (.pointer (some ⟨w.heap.size, 0, none⟩)) (enters_of Try.func30 (by kernel_rfl) rfl) (hasB y) a n cap l W hn (hr.below h) hl
    (fun x V hm hV => lineAt1_any x y w.heap.size V (HG x hm) hy (below_lies hV hl0 (lies_lt hl0)))
  have hle := firstI_le (hasB y) l (by omega)
  rw [hb] at CF
  generalize firstI (hasB y) l = r at IX HZ hle
  clear hn hr hb HG
  go_enter Try.func15, Try.ntmps15
  go_wp2_with fail
  refine (isNear_any y _).mono ?_
  rintro e w' ⟨rfl, hw'⟩
  have hw' := hw'.symm
  subst hw'
  rw [hy]
  go_wp2_with fail
  refine (CF _ HB0.out).mono ?_
  rintro e w1 ⟨rfl, c1⟩
  have b1 := HB0.out.trans (c1.mono HB0.out.size)
  have l1 := below_lies c1 HL0.out (lies_lt HL0.out)
  clear c1 CF
  go_wp2_with fail
  refine (IX _ b1 l1).mono ?_
  rintro e w2 ⟨rfl, c2⟩
  have b2 := b1.trans (c2.mono b1.size)
  clear c2 IX b1 l1
  go_wp2
  go_ret2
  exact ⟨ret_tupIB (by rw [HZ.out.1]) (by rw [HZ.out.2]), b2⟩
set_option maxHeartbeats 8000000 in
theorem specAt_any (a : Option Addr) (n cap : Nat) (l : List Ln) (y : Int) (w : World) (hn : n = l.length) (hr : LnRow w a l) (hl : n ≤ 1048576) :
    Calls Try.prog 13 #[.slice a n cap, .int .i64 y] w fun e w' => e = .returned (.tuple #[.int .i64 (laI l y), .bool (laB l y)]) ∧ Below w.heap.size w w' := by
  have HN : Hid (n = l.length) := hn
  have HR : Hid (LnRow w a l) := hr
  clear hr
  by_cases hbig : n ≤ 400
  rotate_left
  · have HZ : Hid (laI l y = 0 ∧ laB l y = false) := la_zero (la_long (by omega))
    have hbig' : (400 : Int) < (n : Int) := by omega
    clear hn
    go_enter Try.func13, Try.ntmps13
    go_wp2
    go_ret2
    exact ⟨ret_tupIB HZ.out.1.symm HZ.out.2.symm, Below.refl _ _⟩
  have hbig' : ¬ ((400 : Int) < (n : Int)) := by omega
  rcases Bool.eq_false_or_eq_true (nearB y) with hy | hy
  rotate_left
  · have HZ : Hid (laI l y = 0 ∧ laB l y = false) := la_zero (la_far hy)
    clear hn
    go_enter Try.func13, Try.ntmps13
    go_wp2_with fail
    refine (l7Place_any y _).mono ?_
    rintro e w' ⟨rfl, hw'⟩
    have hw' := hw'.symm
    subst hw'
    rw [hy]
    go_wp2
    go_ret2
    exact ⟨ret_tupIB HZ.out.1.symm HZ.out.2.symm, Below.refl _ _⟩
  clear hn
  have HY : Hid (nearB y = true) := hy
  go_enter Try.func13, Try.ntmps13
  go_wp2_with fail
  refine (l7Place_any y _).mono ?_
  rintro e w' ⟨rfl, hw'⟩
  have hw' := hw'.symm
  subst hw'
  rw [hy]
  clear hy
  go_wp2_with fail
  go_loopw [20] (fun i wr => ∃ k : Nat, k ≤ n ∧ i = .int .i64 k ∧ (∀ (i : Nat) (x : Ln), i < k → l[i]? = some x → goodL x = true) ∧ Below w.heap.size w wr) (fun i _ => n - (intOf i).toNat)
  case atStart => exact ⟨0, Nat.zero_le _, rfl, fun i x hi => absurd hi (by omega), Below.refl _ _⟩
  case round =>
    obtain ⟨k, hk, rfl, hp, hbw⟩ := hrel
    have HP : Hid (∀ (i : Nat) (x : Ln), i < k → l[i]? = some x → goodL x = true) := hp
    clear hp
    by_cases hlt : k < n
    · obtain ⟨x, hx⟩ : ∃ x, l[k]? = some x := ⟨_, List.getElem?_eq_getElem (by have := HN.out; omega)⟩
      obtain ⟨b, off, rfl, hc⟩ := ln_some HR.out hx
      have hr := ln_below (hc k x hx) hbw (ln_lt (hc k x hx))
      obtain ⟨q0, q1, q2, q3, q4, q5⟩ := ln_cells hr
      have HX : Hid (l[k]? = some x) := hx
      have b2 : Below w.heap.size w (wr.alloc (.cells #[.int .i64 x.bx, .int .i64 x.x, .int .i64 x.y, .int .i64 x.w, .int .i64 x.h, .string x.tx] 31)) := hbw.alloc hbw.size _
      have GL : Hid (goodL x = (nearB x.y && extB x.h)) := rfl
      clear hc hx hr hbw
      rcases Bool.eq_false_or_eq_true (nearB x.y) with h0 | h0
      rotate_left
      · have HZ : Hid (laI l y = 0 ∧ laB l y = false) := la_zero (la_bad HX.out (by rw [GL.out, h0]; rfl))
        go_wp2_with fail
        refine (l7Place_any x.y _).mono ?_
        rintro e w' ⟨rfl, hw'⟩
        have hw' := hw'.symm
        subst hw'
        rw [h0]
        go_wp2
        go_ret2
        exact ⟨ret_tupIB HZ.out.1.symm HZ.out.2.symm, b2⟩
      rcases Bool.eq_false_or_eq_true (extB x.h) with h1 | h1
      rotate_left
      · have HZ : Hid (laI l y = 0 ∧ laB l y = false) := la_zero (la_bad HX.out (by rw [GL.out, h0, h1]; rfl))
        go_wp2_with fail
        refine (l7Place_any x.y _).mono ?_
        rintro e w' ⟨rfl, hw'⟩
        have hw' := hw'.symm
        subst hw'
        rw [h0]
        go_wp2_with fail
        refine (l7Span_any x.h _).mono ?_
        rintro e w' ⟨rfl, hw'⟩
        have hw' := hw'.symm
        subst hw'
        rw [h1]
        go_wp2
        go_ret2
        exact ⟨ret_tupIB HZ.out.1.symm HZ.out.2.symm, b2⟩
      have HG : Hid (goodL x = true) := by show goodL x = true; rw [GL.out, h0, h1]; rfl
      go_wp2_with fail
      refine (l7Place_any x.y _).mono ?_
      rintro e w' ⟨rfl, hw'⟩
      have hw' := hw'.symm
      subst hw'
      rw [h0]
      go_wp2_with fail
      refine (l7Span_any x.h _).mono ?_
      rintro e w' ⟨rfl, hw'⟩
      have hw' := hw'.symm
      subst hw'
      rw [h1]
      go_wp2
      go_roundw
      case rel => exact ⟨k + 1, by omega, by go_num, ln_step HX.out HG.out HP.out, b2⟩
      case measure => simp [intOf]; omega
    have HA : Hid (∀ (i : Nat) (x : Ln), i < l.length → l[i]? = some x → goodL x = true) := fun i x hi hx => HP.out i x (by have := HN.out; omega) hx
    have HZ : Hid (laI l y = max (firstI (hasB y) l) 0 ∧ laB l y = decide (0 ≤ firstI (hasB y) l)) := la_one (la_good (by have := HN.out; omega) HY.out HA.out)
    clear HP
    go_wp2_with fail
    go_loopw [37] (fun i wq => ∃ j : Nat, j ≤ n ∧ i = .int .i64 j ∧ (∀ (i : Nat) (x : Ln), i < j → l[i]? = some x → hasB y x = false) ∧ Below w.heap.size w wq) (fun i _ => n - (intOf i).toNat)
    case atStart => exact ⟨0, Nat.zero_le _, rfl, fun i x hi => absurd hi (by omega), hbw⟩
    case round =>
      obtain ⟨j, hj, rfl, hq, hbq⟩ := hrel
      have HQ : Hid (∀ (i : Nat) (x : Ln), i < j → l[i]? = some x → hasB y x = false) := hq
      clear hq hbw
      by_cases hlj : j < n
      rotate_left
      · have HI : Hid (firstI (hasB y) l = -1) := firstI_no fun i x hi hx => HQ.out i x (by have := HN.out; omega) hx
        go_wp2
        go_ret2
        exact ⟨ret_tupIB (by rw [HZ.out.1, HI.out]; rfl) (by rw [HZ.out.2, HI.out]; rfl), hbq⟩
      obtain ⟨x, hx⟩ : ∃ x, l[j]? = some x := ⟨_, List.getElem?_eq_getElem (by have := HN.out; omega)⟩
      obtain ⟨b, off, rfl, hc⟩ := ln_some HR.out hx
      have hr := ln_below (hc j x hx) hbq (ln_lt (hc j x hx))
      obtain ⟨q0, q1, q2, q3, q4, q5⟩ := ln_cells hr
      obtain ⟨x0, x1, x2, x3⟩ := goodL_parts (HA.out j x (by have := HN.out; omega) hx)
      have HX : Hid (l[j]? = some x) := hx
      have b2 : Below w.heap.size w (wr.alloc (.cells #[.int .i64 x.bx, .int .i64 x.x, .int .i64 x.y, .int .i64 x.w, .int .i64 x.h, .string x.tx] 31)) := hbq.alloc hbq.size _
      have HB : Hid (hasB y x = (decide (x.y ≤ y) && decide (y < x.y + x.h))) := rfl
      clear hc hx hr hbq
      by_cases h0 : x.y ≤ y
      rotate_left
      · have HF : Hid (hasB y x = false) := by show hasB y x = false; rw [HB.out, decide_eq_false (p := x.y ≤ y) (by omega)]; rfl
        go_wp2
        go_roundw
        case rel => exact ⟨j + 1, by omega, by go_num, ln_step HX.out HF.out HQ.out, b2⟩
        case measure => simp [intOf]; omega
      by_cases h1 : y < x.y + x.h
      rotate_left
      · have HF : Hid (hasB y x = false) := by show hasB y x = false; rw [HB.out, decide_eq_false (p := y < x.y + x.h) (by omega)]; simp
        go_wp2
        go_roundw
        case rel => exact ⟨j + 1, by omega, by go_num, ln_step HX.out HF.out HQ.out, b2⟩
        case measure => simp [intOf]; omega
      have HI : Hid (firstI (hasB y) l = (j : Int)) := firstI_yes HX.out (by rw [HB.out, decide_eq_true (p := x.y ≤ y) (by omega), decide_eq_true (p := y < x.y + x.h) (by omega)]; rfl) HQ.out
      go_wp2
      go_ret2
      exact ⟨ret_tupIB (by rw [HZ.out.1, HI.out]; omega) (by rw [HZ.out.2, HI.out]; exact (decide_eq_true (by omega)).symm), b2⟩
end Go.Proofs.Ytdkfjdjgfmabgaa
