/-
  Rows of floats that a call has made, and those of a row that a function picks, for every function that answers and leaves memory alone.
-/
import Derived.Test.YtdkfjdjgfmabgaaAfG
import Derived.Deep.AppendLies
import Derived.Laws.OwnMore
import Derived.Maps.AppendAt
import Derived.ArgAppend
namespace Go.Proofs.Ytdkfjdjgfmabgaa
open Go.ChangeShapes Go.WideShapes Go.ChangeAt Go.RowKit
set_option linter.unusedVariables false

def flatA : List Asd → List Value
  | [] => []
  | x :: xs => asL x ++ flatA xs
theorem flatA_len : ∀ bs : List Asd, (flatA bs).length = bs.length * 5
  | [] => rfl
  | x :: xs => by rw [flatA, List.length_append, flatA_len xs, asL_len, List.length_cons, Nat.succ_mul, Nat.add_comm]
theorem flatA_app : ∀ (bs cs : List Asd), flatA (bs ++ cs) = flatA bs ++ flatA cs
  | [], cs => by simp [flatA]
  | y :: ys, cs => by rw [List.cons_append, flatA, flatA, flatA_app ys cs, List.append_assoc]
theorem flatA_one (x : Asd) : flatA [x] = asL x := by simp [flatA]
theorem flatA_snoc (bs : List Asd) (x : Asd) : flatA (bs ++ [x]) = flatA bs ++ asL x := by rw [flatA_app, flatA_one]
theorem flatA_at : ∀ (bs : List Asd) (i : Nat) (x : Asd) (c : Nat) (v : Value), bs[i]? = some x → (asL x)[c]? = some v → (flatA bs)[i * 5 + c]? = some v
  | [], i, x, c, v, h, _ => by simp at h
  | y :: ys, 0, x, c, v, h, hv => by
    simp at h
    subst h
    rw [flatA, List.getElem?_append_left (by have := (List.getElem?_eq_some_iff.1 hv).1; rw [asL_len] at this ⊢; omega)]
    simpa using hv
  | y :: ys, i + 1, x, c, v, h, hv => by
    have h' : ys[i]? = some x := by simpa using h
    rw [flatA, List.getElem?_append_right (by rw [asL_len]; omega), asL_len, show (i + 1) * 5 + c - 5 = i * 5 + c by omega]
    exact flatA_at ys i x c v h' hv
theorem flatA_one_cell : ∀ (bs : List Asd) (u : Value), u ∈ flatA bs → u.oneCell' = true
  | [], u, h => by simp [flatA] at h
  | x :: xs, u, h => by
    rw [flatA, List.mem_append] at h
    rcases h with h | h
    · simp [asL] at h
      rcases h with rfl | rfl | rfl | rfl | rfl <;> rfl
    · exact flatA_one_cell xs u h

/-- The slice v owns the floats bs, in a block from B on. -/
def OwnA (w : World) (B : Nat) (v : Value) (bs : List Asd) : Prop := w.ownsRow B 47 5 v bs.length (flatA bs)
theorem ownA_nil (w : World) (B : Nat) : OwnA w B (.slice none 0 0) [] := World.ownsRow_nil w B 47 5
theorem OwnA.base {w : World} {B : Nat} {v : Value} {bs : List Asd} (h : OwnA w B v bs) (k : Nat) (hk : v.ownBlock = some k) : B ≤ k := (World.ownsRow.lt h k hk).1
theorem OwnA.lt {w : World} {B : Nat} {v : Value} {bs : List Asd} (h : OwnA w B v bs) (k : Nat) (hk : v.ownBlock = some k) : k < w.heap.size := (World.ownsRow.lt h k hk).2
theorem OwnA.form {w : World} {B : Nat} {v : Value} {bs : List Asd} (h : OwnA w B v bs) : ∃ (a : Option Addr) (cap : Nat), v = .slice a bs.length cap ∧ bs.length ≤ cap ∧ AsRow w a bs ∧ (a = none → bs = [] ∧ cap = 0) ∧
    (∀ b, a = some b → ∃ g, b = ⟨g, 0, none⟩ ∧ B ≤ g ∧ g < w.heap.size ∧ w.there g 0 (cap * 5)) := by
  rcases h.2 with ⟨rfl, hn⟩ | ⟨g, cap, cur, rfl, hb, hg, hc, hm, hs, ht⟩
  · have : bs = [] := List.eq_nil_of_length_eq_zero hn
    subst this
    exact ⟨none, 0, rfl, Nat.le_refl _, .inl rfl, fun _ => ⟨rfl, rfl⟩, fun b hb => by cases hb⟩
  · refine ⟨some ⟨g, 0, none⟩, cap, rfl, hc, .inr ⟨g, 0, rfl, fun i x hx j v hv => ?_⟩, ⟨(fun h => by cases h), (fun b' hb' => ⟨g, by simpa using hb'.symm, hb, lies_lt hg, fun j hj => ?_⟩)⟩⟩
    · rw [cell_of_row w g _ cur _ _ hg]
      have h1 := flatA_at bs i x j v hx hv
      rw [← ht] at h1
      have hlt := (List.getElem?_eq_some_iff.1 h1).1
      rw [List.getElem?_take] at h1
      split at h1
      · rw [Nat.zero_add]
        simpa using h1
      · cases h1
    · refine ⟨?_, ?_⟩
      · rw [cell_of_row w g _ cur _ _ hg, Nat.zero_add, Array.getElem?_eq_getElem (by rw [hs]; exact hj)]; rfl
      · exact World.ownsRow.frozenAt (by exact h) (0 + j)
theorem OwnA.below {w w' : World} {B C : Nat} {v : Value} {bs : List Asd} (h : OwnA w B v bs) (hb : Below C w w') (hlt : ∀ k, v.ownBlock = some k → k < C) : OwnA w' B v bs := by
  refine ⟨h.1, ?_⟩
  rcases h.2 with hn | ⟨g, cap, cur, rfl, hbg, hg, rest⟩
  · exact .inl hn
  · exact .inr ⟨g, cap, cur, rfl, hbg, (hb.block g (hlt g rfl)).trans hg, rest⟩
theorem OwnA.keep {w w' : World} {B : Nat} {v : Value} {bs : List Asd} (h : OwnA w B v bs) (hb : Below w.heap.size w w') : OwnA w' B v bs := h.below hb fun k hk => h.lt k hk
theorem OwnA.snoc {w : World} {B n : Nat} {v : Value} {bs : List Asd} {x : Asd} (hn : n = bs.length) (h : w.ownsRow B 47 5 v (n + 1) (flatA bs ++ asL x)) : OwnA w B v (bs ++ [x]) := by
  subst hn
  unfold OwnA
  rw [List.length_append, flatA_snoc]
  exact h
theorem five_cells (w : World) (x : Asd) (t : TypeId) (g : Nat) (h : w.heap.size = g) : ∀ j u, (asL x)[j]? = some u → (w.alloc (.cells #[.int .i64 x.sd, .int .i64 x.x, .int .i64 x.y, .int .i64 x.w, .int .i64 x.h] t)).cell? ((⟨g, 0, none⟩ : Addr).add j) = some u := by
  subst h
  intro j u hj
  rw [Addr.add_lit]
  have := cell_of_row (w.alloc (.cells #[.int .i64 x.sd, .int .i64 x.x, .int .i64 x.y, .int .i64 x.w, .int .i64 x.h] t)) w.heap.size (0 + j) _ t _ (heap_alloc_new w _)
  rw [this, Nat.zero_add]
  simpa [asL] using hj
theorem asL_one (x : Asd) : ∀ u ∈ asL x, u.oneCell' = true := fun u hu => flatA_one_cell [x] u (by rw [flatA_one]; exact hu)
theorem filter_yes {p : Asd → Bool} {l : List Asd} {k : Nat} {x : Asd} (hx : l[k]? = some x) (h : p x = true) : (l.take (k + 1)).filter p = (l.take k).filter p ++ [x] := by
  rw [List.take_add_one, hx]
  simp [h]
theorem filter_no {p : Asd → Bool} {l : List Asd} {k : Nat} {x : Asd} (hx : l[k]? = some x) (h : p x = false) : (l.take (k + 1)).filter p = (l.take k).filter p := by
  rw [List.take_add_one, hx]
  simp [h]
theorem filter_len (p : Asd → Bool) (l : List Asd) (k : Nat) : ((l.take k).filter p).length ≤ l.length := Nat.le_trans (List.length_filter_le _ _) (by rw [List.length_take]; omega)
set_option maxHeartbeats 4000000 in
theorem those0_any (f : FuncId) (eg : ∀ args w, (callFunc f args).run Try.prog w = .ok (.enter f args) w) (p : Asd → Bool) (a : Option Addr) (n cap : Nat) (l : List Asd) (w : World) (hn : n = l.length) (hr : AsRow w a l) (hl : n ≤ 1048576)
    (hf : ∀ (x : Asd) (W : World), x ∈ l → Below w.heap.size w W → Calls Try.prog f #[.agg #[.int .i64 x.sd, .int .i64 x.x, .int .i64 x.y, .int .i64 x.w, .int .i64 x.h]] W fun e w' => e = .returned (.bool (p x)) ∧ Below W.heap.size W w') :
    Calls Try.prog 35 #[.slice a n cap, .func (.func f) #[] #[]] w fun e w' => ∃ v, e = .returned v ∧ OwnA w' w.heap.size v (l.filter p) ∧ Below w.heap.size w w' := by
  obtain ⟨i0, hi, hz0, hz1, hz2⟩ := info_parts infoAside
  have HN : Hid (n = l.length) := hn
  have HR : Hid (AsRow w a l) := hr
  have HF : Hid (∀ (x : Asd) (W : World), x ∈ l → Below w.heap.size w W → Calls Try.prog f #[.agg #[.int .i64 x.sd, .int .i64 x.x, .int .i64 x.y, .int .i64 x.w, .int .i64 x.h]] W fun e w' => e = .returned (.bool (p x)) ∧ Below W.heap.size W w') := hf
  clear hn hr hf
  go_enter Try.func35, Try.ntmps35
  go_wp2_with fail
  go_loopw [5, 10] (fun v i wr => ∃ j : Nat, j ≤ n ∧ i = .int .i64 j ∧ OwnA wr w.heap.size v ((l.take j).filter p) ∧ Below w.heap.size w wr) (fun _ i _ => n - (intOf i).toNat)
  case atStart => exact ⟨0, Nat.zero_le _, rfl, by rw [List.take_zero]; exact ownA_nil _ _, Below.refl _ _⟩
  case round =>
    obtain ⟨j, hj, rfl, hown, hbw⟩ := hrel
    by_cases hlt : j < n
    rotate_left
    · have e : j = n := by omega
      subst e
      rw [List.take_of_length_le (by have := HN.out; omega)] at hown
      go_wp2
      go_ret
      exact ⟨_, rfl, hown, hbw⟩
    obtain ⟨x, hx⟩ : ∃ x, l[j]? = some x := ⟨_, List.getElem?_eq_getElem (by have := HN.out; omega)⟩
    obtain ⟨b, off, rfl, hc⟩ := as_some HR.out hx
    have hr := as_below (hc j x hx) hbw (as_lt (hc j x hx))
    obtain ⟨q0, q1, q2, q3, q4⟩ := as_cells hr
    have HX : Hid (l[j]? = some x) := hx
    clear hc hx hr
    go_wp2_with fail
    refine (HF.out x _ (List.mem_of_getElem? HX.out) (hbw.alloc hbw.size _)).mono ?_
    rintro e w2 ⟨rfl, hb⟩
    have l2 := below_lies hb (heap_alloc_new wr _) (by simp)
    have b2 : Below w.heap.size w w2 := (hbw.alloc hbw.size _).trans (hb.mono (by have := hbw.size; simp; omega))
    have o2 := (hown.keep ((Below.refl wr.heap.size wr).alloc (Nat.le_refl _) _)).keep hb
    have ow2 := hown.base
    clear hb hbw hown q0 q1 q2 q3 q4
    have r0 : w2.cell? ⟨wr.heap.size, 0, none⟩ = some (.int .i64 x.sd) := (lies_cell l2 0).trans rfl
    have r1 : w2.cell? ⟨wr.heap.size, 1, none⟩ = some (.int .i64 x.x) := (lies_cell l2 1).trans rfl
    have r2 : w2.cell? ⟨wr.heap.size, 2, none⟩ = some (.int .i64 x.y) := (lies_cell l2 2).trans rfl
    have r3 : w2.cell? ⟨wr.heap.size, 3, none⟩ = some (.int .i64 x.w) := (lies_cell l2 3).trans rfl
    have r4 : w2.cell? ⟨wr.heap.size, 4, none⟩ = some (.int .i64 x.h) := (lies_cell l2 4).trans rfl
    rcases Bool.eq_false_or_eq_true (p x) with hp | hp
    · rw [hp]
      have HS : Hid ((l.take (j + 1)).filter p = (l.take j).filter p ++ [x]) := filter_yes HX.out hp
      have hle := filter_len p l j
      rw [← HN.out] at hle
      generalize (l.take j).filter p = zs at o2 HS hle
      obtain ⟨L, hL⟩ : ∃ L, L = zs.length := ⟨_, rfl⟩
      have o2' := o2
      unfold OwnA at o2'
      rw [← hL] at o2' hle
      have HL : Hid (L = zs.length) := hL
      clear hL
      go_wp2_with (at_builtin; refine wpList_append_own _ rfl (.tmp 17) (.tmp 19) 29 rfl w.heap.size 47 i0 (.agg #[.int .i64 0, .int .i64 0, .int .i64 0, .int .i64 0, .int .i64 0]) 5 40 Try.underlying29 hi hz0 hz1 hz2 rfl (by decide) _ _ _ rfl (o2'.alloc _) ⟨w2.heap.size, 0, none⟩ 1 1 (asL x) rfl rfl (five_cells _ _ _ _ rfl) (asL_one x) (by unfold maxLen; omega) (by omega) (by have := b2.size; simp; omega) ?_)
      intro v' w3 hown3 hgrow3 _
      have b3 : Below w.heap.size w w3 := (b2.alloc b2.size _).grown hgrow3 (by have := b2.size; simp; omega) (fun k hk => o2.base k hk)
      have o3 : OwnA w3 w.heap.size v' ((l.take (j + 1)).filter p) := by rw [HS.out]; exact OwnA.snoc HL.out hown3
      clear b2 o2 hown3 hgrow3 o2' r0 r1 r2 r3 r4 l2
      go_wp2
      go_roundw
      case rel => exact ⟨j + 1, by omega, by go_num, o3, b3⟩
      case measure => simp [intOf]; omega
    · rw [hp]
      rw [← filter_no HX.out hp] at o2
      go_wp2
      go_roundw
      case rel => exact ⟨j + 1, by omega, by go_num, o2, b2⟩
      case measure => simp [intOf]; omega
set_option maxHeartbeats 4000000 in
theorem those1_any (f : FuncId) (u : Value) (eg : ∀ args w, (callFunc f args).run Try.prog w = .ok (.enter f args) w) (p : Asd → Bool) (a : Option Addr) (n cap : Nat) (l : List Asd) (w : World) (hn : n = l.length) (hr : AsRow w a l) (hl : n ≤ 1048576)
    (hf : ∀ (x : Asd) (W : World), x ∈ l → Below w.heap.size w W → Calls Try.prog f #[u, .agg #[.int .i64 x.sd, .int .i64 x.x, .int .i64 x.y, .int .i64 x.w, .int .i64 x.h]] W fun e w' => e = .returned (.bool (p x)) ∧ Below W.heap.size W w') :
    Calls Try.prog 35 #[.slice a n cap, .func (.func f) #[u] #[]] w fun e w' => ∃ v, e = .returned v ∧ OwnA w' w.heap.size v (l.filter p) ∧ Below w.heap.size w w' := by
  obtain ⟨i0, hi, hz0, hz1, hz2⟩ := info_parts infoAside
  have HN : Hid (n = l.length) := hn
  have HR : Hid (AsRow w a l) := hr
  have HF : Hid (∀ (x : Asd) (W : World), x ∈ l → Below w.heap.size w W → Calls Try.prog f #[u, .agg #[.int .i64 x.sd, .int .i64 x.x, .int .i64 x.y, .int .i64 x.w, .int .i64 x.h]] W fun e w' => e = .returned (.bool (p x)) ∧ Below W.heap.size W w') := hf
  clear hn hr hf
  go_enter Try.func35, Try.ntmps35
  go_wp2_with fail
  go_loopw [5, 10] (fun v i wr => ∃ j : Nat, j ≤ n ∧ i = .int .i64 j ∧ OwnA wr w.heap.size v ((l.take j).filter p) ∧ Below w.heap.size w wr) (fun _ i _ => n - (intOf i).toNat)
  case atStart => exact ⟨0, Nat.zero_le _, rfl, by rw [List.take_zero]; exact ownA_nil _ _, Below.refl _ _⟩
  case round =>
    obtain ⟨j, hj, rfl, hown, hbw⟩ := hrel
    by_cases hlt : j < n
    rotate_left
    · have e : j = n := by omega
      subst e
      rw [List.take_of_length_le (by have := HN.out; omega)] at hown
      go_wp2
      go_ret
      exact ⟨_, rfl, hown, hbw⟩
    obtain ⟨x, hx⟩ : ∃ x, l[j]? = some x := ⟨_, List.getElem?_eq_getElem (by have := HN.out; omega)⟩
    obtain ⟨b, off, rfl, hc⟩ := as_some HR.out hx
    have hr := as_below (hc j x hx) hbw (as_lt (hc j x hx))
    obtain ⟨q0, q1, q2, q3, q4⟩ := as_cells hr
    have HX : Hid (l[j]? = some x) := hx
    clear hc hx hr
    go_wp2_with fail
    refine (HF.out x _ (List.mem_of_getElem? HX.out) (hbw.alloc hbw.size _)).mono ?_
    rintro e w2 ⟨rfl, hb⟩
    have l2 := below_lies hb (heap_alloc_new wr _) (by simp)
    have b2 : Below w.heap.size w w2 := (hbw.alloc hbw.size _).trans (hb.mono (by have := hbw.size; simp; omega))
    have o2 := (hown.keep ((Below.refl wr.heap.size wr).alloc (Nat.le_refl _) _)).keep hb
    have ow2 := hown.base
    clear hb hbw hown q0 q1 q2 q3 q4
    have r0 : w2.cell? ⟨wr.heap.size, 0, none⟩ = some (.int .i64 x.sd) := (lies_cell l2 0).trans rfl
    have r1 : w2.cell? ⟨wr.heap.size, 1, none⟩ = some (.int .i64 x.x) := (lies_cell l2 1).trans rfl
    have r2 : w2.cell? ⟨wr.heap.size, 2, none⟩ = some (.int .i64 x.y) := (lies_cell l2 2).trans rfl
    have r3 : w2.cell? ⟨wr.heap.size, 3, none⟩ = some (.int .i64 x.w) := (lies_cell l2 3).trans rfl
    have r4 : w2.cell? ⟨wr.heap.size, 4, none⟩ = some (.int .i64 x.h) := (lies_cell l2 4).trans rfl
    rcases Bool.eq_false_or_eq_true (p x) with hp | hp
    · rw [hp]
      have HS : Hid ((l.take (j + 1)).filter p = (l.take j).filter p ++ [x]) := filter_yes HX.out hp
      have hle := filter_len p l j
      rw [← HN.out] at hle
      generalize (l.take j).filter p = zs at o2 HS hle
      obtain ⟨L, hL⟩ : ∃ L, L = zs.length := ⟨_, rfl⟩
      have o2' := o2
      unfold OwnA at o2'
      rw [← hL] at o2' hle
      have HL : Hid (L = zs.length) := hL
      clear hL
      go_wp2_with (at_builtin; refine wpList_append_own _ rfl (.tmp 17) (.tmp 19) 29 rfl w.heap.size 47 i0 (.agg #[.int .i64 0, .int .i64 0, .int .i64 0, .int .i64 0, .int .i64 0]) 5 40 Try.underlying29 hi hz0 hz1 hz2 rfl (by decide) _ _ _ rfl (o2'.alloc _) ⟨w2.heap.size, 0, none⟩ 1 1 (asL x) rfl rfl (five_cells _ _ _ _ rfl) (asL_one x) (by unfold maxLen; omega) (by omega) (by have := b2.size; simp; omega) ?_)
      intro v' w3 hown3 hgrow3 _
      have b3 : Below w.heap.size w w3 := (b2.alloc b2.size _).grown hgrow3 (by have := b2.size; simp; omega) (fun k hk => o2.base k hk)
      have o3 : OwnA w3 w.heap.size v' ((l.take (j + 1)).filter p) := by rw [HS.out]; exact OwnA.snoc HL.out hown3
      clear b2 o2 hown3 hgrow3 o2' r0 r1 r2 r3 r4 l2
      go_wp2
      go_roundw
      case rel => exact ⟨j + 1, by omega, by go_num, o3, b3⟩
      case measure => simp [intOf]; omega
    · rw [hp]
      rw [← filter_no HX.out hp] at o2
      go_wp2
      go_roundw
      case rel => exact ⟨j + 1, by omega, by go_num, o2, b2⟩
      case measure => simp [intOf]; omega
set_option maxHeartbeats 4000000 in
theorem those2_any (f : FuncId) (u : Value) (eg : ∀ args w, (callFunc f args).run Try.prog w = .ok (.enter f args) w) (p : Asd → Bool) (a : Option Addr) (n cap : Nat) (l : List Asd) (w : World) (hn : n = l.length) (hr : AsRow w a l) (hl : n ≤ 1048576)
    (hf : ∀ (x : Asd) (W : World), x ∈ l → Below w.heap.size w W → Calls Try.prog f #[.agg #[.int .i64 x.sd, .int .i64 x.x, .int .i64 x.y, .int .i64 x.w, .int .i64 x.h], u] W fun e w' => e = .returned (.bool (p x)) ∧ Below W.heap.size W w') :
    Calls Try.prog 35 #[.slice a n cap, .func (.func f) #[] #[u]] w fun e w' => ∃ v, e = .returned v ∧ OwnA w' w.heap.size v (l.filter p) ∧ Below w.heap.size w w' := by
  obtain ⟨i0, hi, hz0, hz1, hz2⟩ := info_parts infoAside
  have HN : Hid (n = l.length) := hn
  have HR : Hid (AsRow w a l) := hr
  have HF : Hid (∀ (x : Asd) (W : World), x ∈ l → Below w.heap.size w W → Calls Try.prog f #[.agg #[.int .i64 x.sd, .int .i64 x.x, .int .i64 x.y, .int .i64 x.w, .int .i64 x.h], u] W fun e w' => e = .returned (.bool (p x)) ∧ Below W.heap.size W w') := hf
  clear hn hr hf
  go_enter Try.func35, Try.ntmps35
  go_wp2_with fail
  go_loopw [5, 10] (fun v i wr => ∃ j : Nat, j ≤ n ∧ i = .int .i64 j ∧ OwnA wr w.heap.size v ((l.take j).filter p) ∧ Below w.heap.size w wr) (fun _ i _ => n - (intOf i).toNat)
  case atStart => exact ⟨0, Nat.zero_le _, rfl, by rw [List.take_zero]; exact ownA_nil _ _, Below.refl _ _⟩
  case round =>
    obtain ⟨j, hj, rfl, hown, hbw⟩ := hrel
    by_cases hlt : j < n
    rotate_left
    · have e : j = n := by omega
      subst e
      rw [List.take_of_length_le (by have := HN.out; omega)] at hown
      go_wp2
      go_ret
      exact ⟨_, rfl, hown, hbw⟩
    obtain ⟨x, hx⟩ : ∃ x, l[j]? = some x := ⟨_, List.getElem?_eq_getElem (by have := HN.out; omega)⟩
    obtain ⟨b, off, rfl, hc⟩ := as_some HR.out hx
    have hr := as_below (hc j x hx) hbw (as_lt (hc j x hx))
    obtain ⟨q0, q1, q2, q3, q4⟩ := as_cells hr
    have HX : Hid (l[j]? = some x) := hx
    clear hc hx hr
    go_wp2_with fail
    refine (HF.out x _ (List.mem_of_getElem? HX.out) (hbw.alloc hbw.size _)).mono ?_
    rintro e w2 ⟨rfl, hb⟩
    have l2 := below_lies hb (heap_alloc_new wr _) (by simp)
    have b2 : Below w.heap.size w w2 := (hbw.alloc hbw.size _).trans (hb.mono (by have := hbw.size; simp; omega))
    have o2 := (hown.keep ((Below.refl wr.heap.size wr).alloc (Nat.le_refl _) _)).keep hb
    have ow2 := hown.base
    clear hb hbw hown q0 q1 q2 q3 q4
    have r0 : w2.cell? ⟨wr.heap.size, 0, none⟩ = some (.int .i64 x.sd) := (lies_cell l2 0).trans rfl
    have r1 : w2.cell? ⟨wr.heap.size, 1, none⟩ = some (.int .i64 x.x) := (lies_cell l2 1).trans rfl
    have r2 : w2.cell? ⟨wr.heap.size, 2, none⟩ = some (.int .i64 x.y) := (lies_cell l2 2).trans rfl
    have r3 : w2.cell? ⟨wr.heap.size, 3, none⟩ = some (.int .i64 x.w) := (lies_cell l2 3).trans rfl
    have r4 : w2.cell? ⟨wr.heap.size, 4, none⟩ = some (.int .i64 x.h) := (lies_cell l2 4).trans rfl
    rcases Bool.eq_false_or_eq_true (p x) with hp | hp
    · rw [hp]
      have HS : Hid ((l.take (j + 1)).filter p = (l.take j).filter p ++ [x]) := filter_yes HX.out hp
      have hle := filter_len p l j
      rw [← HN.out] at hle
      generalize (l.take j).filter p = zs at o2 HS hle
      obtain ⟨L, hL⟩ : ∃ L, L = zs.length := ⟨_, rfl⟩
      have o2' := o2
      unfold OwnA at o2'
      rw [← hL] at o2' hle
      have HL : Hid (L = zs.length) := hL
      clear hL
      go_wp2_with (at_builtin; refine wpList_append_own _ rfl (.tmp 17) (.tmp 19) 29 rfl w.heap.size 47 i0 (.agg #[.int .i64 0, .int .i64 0, .int .i64 0, .int .i64 0, .int .i64 0]) 5 40 Try.underlying29 hi hz0 hz1 hz2 rfl (by decide) _ _ _ rfl (o2'.alloc _) ⟨w2.heap.size, 0, none⟩ 1 1 (asL x) rfl rfl (five_cells _ _ _ _ rfl) (asL_one x) (by unfold maxLen; omega) (by omega) (by have := b2.size; simp; omega) ?_)
      intro v' w3 hown3 hgrow3 _
      have b3 : Below w.heap.size w w3 := (b2.alloc b2.size _).grown hgrow3 (by have := b2.size; simp; omega) (fun k hk => o2.base k hk)
      have o3 : OwnA w3 w.heap.size v' ((l.take (j + 1)).filter p) := by rw [HS.out]; exact OwnA.snoc HL.out hown3
      clear b2 o2 hown3 hgrow3 o2' r0 r1 r2 r3 r4 l2
      go_wp2
      go_roundw
      case rel => exact ⟨j + 1, by omega, by go_num, o3, b3⟩
      case measure => simp [intOf]; omega
    · rw [hp]
      rw [← filter_no HX.out hp] at o2
      go_wp2
      go_roundw
      case rel => exact ⟨j + 1, by omega, by go_num, o2, b2⟩
      case measure => simp [intOf]; omega
end Go.Proofs.Ytdkfjdjgfmabgaa
