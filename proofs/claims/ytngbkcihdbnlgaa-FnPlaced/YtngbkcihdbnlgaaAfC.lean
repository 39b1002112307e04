/-
  The room at a stretch: of the model and of the program, for every row of floats whose sums are no matter.
-/
import Derived.Test.YtngbkcihdbnlgaaAfB
namespace Go.Proofs.Ytngbkcihdbnlgaa
open Go.ChangeShapes Go.WideShapes Go.ChangeAt Go.RowKit
set_option linter.unusedVariables false

def mx (q : Asd → Int) (l : List Asd) (b : Int) : Int := l.foldl (fun m y => max m (q y)) b
def mn (q : Asd → Int) (l : List Asd) (b : Int) : Int := l.foldl (fun m y => min m (q y)) b
theorem mx_snoc (q : Asd → Int) (l : List Asd) (b : Int) (x : Asd) : mx q (l ++ [x]) b = max (mx q l b) (q x) := by simp [mx]
theorem mn_snoc (q : Asd → Int) (l : List Asd) (b : Int) (x : Asd) : mn q (l ++ [x]) b = min (mn q l b) (q x) := by simp [mn]
theorem mx_max (q : Asd → Int) : ∀ (l : List Asd) (a b : Int), mx q l (max a b) = max a (mx q l b)
  | [], a, b => rfl
  | x :: xs, a, b => by
    show mx q xs (max (max a b) (q x)) = max a (mx q xs (max b (q x)))
    rw [Int.max_assoc, mx_max q xs]
theorem gr_mx (q : Asd → Int) (l : List Asd) (z : Asd) : gr q (l ++ [z]) = mx q l (q z) := by
  cases l with
  | nil => rfl
  | cons x xs =>
    show mx q (xs ++ [z]) (q x) = mx q xs (max (q z) (q x))
    rw [mx_snoc, mx_max, Int.max_comm]
theorem mn_neg (q : Asd → Int) : ∀ (l : List Asd) (b : Int), mn q l b = -(mx (fun y => -(q y)) l (-b))
  | [], b => by simp [mn, mx]
  | x :: xs, b => by
    show mn q xs (min b (q x)) = -(mx (fun y => -(q y)) xs (max (-b) (-(q x))))
    rw [mn_neg q xs]
    congr 2
    omega
theorem le_mn (q : Asd → Int) (l : List Asd) (z : Asd) : le q (l ++ [z]) = mn q l (q z) := by
  unfold le
  rw [gr_mx, mn_neg]
theorem mx_ge (q : Asd → Int) (l : List Asd) (b : Int) : b ≤ mx q l b ∧ ∀ y ∈ l, q y ≤ mx q l b := gr_ge l b
theorem mx_le {q : Asd → Int} {l : List Asd} {b B : Int} (h : b ≤ B) (hy : ∀ y ∈ l, q y ≤ B) : mx q l b ≤ B := gr_le l b h hy
def endx (x : Asd) : Int := x.x + x.w
def begx (x : Asd) : Int := x.x
def roomA (t e : Int) (l : List Asd) (left : Int) : Int := mx endx (leftL t e l) left
def roomB (t e : Int) (l : List Asd) (right : Int) : Int := mn begx (rightL t e l) right
theorem list_snoc_cons (l : List Asd) (z : Asd) : ∃ x xs, l ++ [z] = x :: xs ∧ xs.length = l.length := by
  cases l with
  | nil => exact ⟨z, [], rfl, rfl⟩
  | cons x xs => exact ⟨x, xs ++ [z], rfl, by simp⟩
theorem fine_at {x : Int} (h0 : -300000000 ≤ x) (h1 : x ≤ 300000000) : Fine ⟨0, x, 0, 0, 0⟩ := ⟨h0, h1, by simp, by simp, by simp, by simp, by simp, by simp⟩
theorem grown_row {w w' : World} {g off : Nat} {ns : List Asd} {row : Option Nat} (h : AsRow w (some ⟨g, off, none⟩) ns) (hg : w.grownBy w' row) (hne : some g ≠ row) : AsRow w' (some ⟨g, off, none⟩) ns := by
  rcases h with h | ⟨b, o, e, hc⟩
  · exact .inl h
  · simp only [Option.some.injEq, Addr.mk.injEq, and_true] at e
    obtain ⟨rfl, rfl⟩ := e
    exact .inr ⟨g, off, rfl, fun i x hx j v hv => (World.grownBy.cell hg (hc i x hx j v hv) hne)⟩
theorem greatest_row (f : FuncId) (eg : ∀ args w, (callFunc f args).run Try.prog w = .ok (.enter f args) w) (q : Asd → Int) (g off n cap : Nat) (ns : List Asd) (z : Asd) (w : World) (hn : n = ns.length + 1) (hr : AsRow w (some ⟨g, off, none⟩) (ns ++ [z])) (hl : n ≤ 1048576) (hcap : n ≤ cap)
    (hf : ∀ (x : Asd) (W : World), x ∈ ns ++ [z] → Calls Try.prog f #[.agg #[.int .i64 x.sd, .int .i64 x.x, .int .i64 x.y, .int .i64 x.w, .int .i64 x.h]] W fun e w' => e = .returned (.int .i64 (q x)) ∧ Below W.heap.size W w') :
    Calls Try.prog 50 #[.slice (some ⟨g, off, none⟩) n cap, .func (.func f) #[] #[]] w fun e w' => e = .returned (.int .i64 (mx q ns (q z))) ∧ Below w.heap.size w w' := by
  rw [← gr_mx]
  obtain ⟨x, xs, e, hlen⟩ := list_snoc_cons ns z
  rw [e] at hr hf ⊢
  obtain ⟨b', off', e', hc⟩ := as_some hr (i := 0) (x := x) rfl
  simp only [Option.some.injEq, Addr.mk.injEq, and_true] at e'
  obtain ⟨rfl, rfl⟩ := e'
  obtain rfl : n = xs.length + 1 := by omega
  exact greatest0_any f eg q g off xs.length cap x xs w rfl hc (by omega) hcap (fun y W hy _ => hf y W hy)
theorem least_row (f : FuncId) (eg : ∀ args w, (callFunc f args).run Try.prog w = .ok (.enter f args) w) (q : Asd → Int) (g off n cap : Nat) (ns : List Asd) (z : Asd) (w : World) (hn : n = ns.length + 1) (hr : AsRow w (some ⟨g, off, none⟩) (ns ++ [z])) (hl : n ≤ 1048576) (hcap : n ≤ cap)
    (hq : ∀ y ∈ ns ++ [z], -400000000 ≤ q y ∧ q y ≤ 400000000)
    (hf : ∀ (x : Asd) (W : World), x ∈ ns ++ [z] → Calls Try.prog f #[.agg #[.int .i64 x.sd, .int .i64 x.x, .int .i64 x.y, .int .i64 x.w, .int .i64 x.h]] W fun e w' => e = .returned (.int .i64 (q x)) ∧ Below W.heap.size W w') :
    Calls Try.prog 60 #[.slice (some ⟨g, off, none⟩) n cap, .func (.func f) #[] #[]] w fun e w' => e = .returned (.int .i64 (mn q ns (q z))) ∧ Below w.heap.size w w' := by
  rw [← le_mn]
  obtain ⟨x, xs, e, hlen⟩ := list_snoc_cons ns z
  rw [e] at hr hf hq ⊢
  obtain ⟨b', off', e', hc⟩ := as_some hr (i := 0) (x := x) rfl
  simp only [Option.some.injEq, Addr.mk.injEq, and_true] at e'
  obtain ⟨rfl, rfl⟩ := e'
  obtain rfl : n = xs.length + 1 := by omega
  exact least_any f eg q g off xs.length cap x xs w rfl hc (by omega) hcap hq hf
set_option maxHeartbeats 4000000 in
theorem roomIn_any (t e : Int) (a : Option Addr) (n cap : Nat) (l : List Asd) (left right : Int) (w : World) (hn : n = l.length) (hr : AsRow w a l) (hl : n ≤ 1048575) (hx : ∀ x ∈ l, Fine x) (hl0 : -300000000 ≤ left) (hl1 : left ≤ 300000000) (hr0 : -300000000 ≤ right) (hr1 : right ≤ 300000000) :
    Calls Try.prog 41 #[.slice a n cap, .agg #[.int .i64 t, .int .i64 e], .int .i64 left, .int .i64 right] w fun r w' => r = .returned (.tuple #[.int .i64 (roomA t e l left), .int .i64 (roomB t e l right)]) ∧ Below w.heap.size w w' := by
  have hb1 : Below w.heap.size w (w.alloc (.cells #[.int .i64 t, .int .i64 e] 70)) := below_one rfl
  have SI := sides_any t e a n cap l (w.alloc (.cells #[.int .i64 t, .int .i64 e] 70)) hn (hr.below hb1) (by omega) hx
  have HB : Hid (Below w.heap.size w (w.alloc (.cells #[.int .i64 t, .int .i64 e] 70))) := hb1
  have HA : Hid (roomA t e l left = mx endx (leftL t e l) left) := rfl
  have HR : Hid (roomB t e l right = mn begx (rightL t e l) right) := rfl
  have hls : (leftL t e l).length ≤ 1048575 := Nat.le_trans (List.length_filter_le _ _) (Nat.le_trans (List.length_filter_le _ _) (by rw [← hn]; exact hl))
  have hrs : (rightL t e l).length ≤ 1048575 := Nat.le_trans (List.length_filter_le _ _) (Nat.le_trans (List.length_filter_le _ _) (by rw [← hn]; exact hl))
  have FL : Hid (∀ x ∈ leftL t e l, Fine x) := fun x hm => hx x (List.mem_filter.1 (List.mem_filter.1 hm).1).1
  have FR : Hid (∀ x ∈ rightL t e l, Fine x) := fun x hm => hx x (List.mem_filter.1 (List.mem_filter.1 hm).1).1
  generalize leftL t e l = ls at SI HA hls FL
  generalize rightL t e l = rs at SI HR hrs FR
  clear hn hr hx hb1
  go_enter Try.func41, Try.ntmps41
  go_wp2_with fail
  refine SI.mono ?_
  rintro e' w2 ⟨a1, v2, rfl, r1, n1, s2, hb⟩
  have b2 : Below w.heap.size w w2 := HB.out.trans (hb.mono (by simp))
  have hBB : w.heap.size ≤ (w.alloc (.cells #[.int .i64 t, .int .i64 e] 70)).heap.size := by simp
  obtain ⟨a2, c2, rfl, hc2, r2, n2, t2⟩ := s2
  clear hb SI HB
  obtain ⟨k, hk⟩ : ∃ k, k = ls.length := ⟨_, rfl⟩
  obtain ⟨m, hm⟩ : ∃ m, m = rs.length := ⟨_, rfl⟩
  rw [← hk] at hls n1
  rw [← hm] at hrs n2 hc2
  rw [← hk, ← hm]
  have HK : Hid (k = ls.length) := hk
  have HM : Hid (m = rs.length) := hm
  clear hk hm
  have r1' : ∀ o, AsRow (w2.alloc o) a1 ls := fun o => r1.below (below_one rfl)
  go_wp2_with (at_builtin; refine wpList_append_x _ rfl (.tmp 18) (.tmp 21) rfl a1 k k ls rfl HK.out (by omega) (r1' _) (fun h => ⟨n1 h, n1 h⟩) (fun h => absurd h (by omega)) ⟨w2.heap.size, 0, none⟩ ⟨0, left, 0, 0, 0⟩ rfl (five_cells _ ⟨0, left, 0, 0, 0⟩ _ _ rfl) ?_)
  intro g3 off3 c3 w3 hc3 r3 g3' hge3 hlt3
  rw [rowIf_full] at g3'
  have b3 : Below w.heap.size w w3 := (b2.alloc b2.size _).grown g3' (by have := b2.size; simp; omega) (fun k hk => by cases hk)
  have hx3 : Below w2.heap.size w2 w3 := ((Below.refl _ _).alloc (Nat.le_refl _) _).grown g3' (by simp) (fun k hk => by cases hk)
  have r23 := r2.below hx3
  have t23 : ∀ b, a2 = some b → ∃ g off, b = ⟨g, off, none⟩ ∧ w3.there g off (c2 * 5) ∧ w.heap.size ≤ g ∧ g < w2.heap.size := fun b hb => by
    obtain ⟨g, off, rfl, k1, k2, k3⟩ := t2 b hb
    exact ⟨g, off, rfl, as_there_below k3 hx3 k2, by omega, k2⟩
  have hge : w2.heap.size < g3 := by omega
  have hsz : w2.heap.size ≤ w3.heap.size := hx3.size
  have HC3 : Hid (k + 1 ≤ c3) := hc3
  clear r1 n1 r2 t2 g3' hge3 hx3 r1' b2 hc3 hBB
  have r23' : ∀ o, AsRow (w3.alloc o) a2 rs := fun o => r23.below (below_one rfl)
  have t23' : ∀ (o : Obj) b, a2 = some b → ∃ g off, b = ⟨g, off, none⟩ ∧ (w3.alloc o).there g off (c2 * 5) := fun o b hb => by
    obtain ⟨g, off, rfl, k1, k2, k3⟩ := t23 b hb
    exact ⟨g, off, rfl, as_there_below k1 (below_one rfl) (by omega)⟩
  go_wp2_with (at_builtin; refine wpList_append_x _ rfl (.tmp 23) (.tmp 26) rfl a2 m c2 rs rfl HM.out (by omega) (r23' _) n2 (fun _ => t23' _) ⟨w3.heap.size, 0, none⟩ ⟨0, right, 0, 0, 0⟩ rfl (five_cells _ ⟨0, right, 0, 0, 0⟩ _ _ rfl) ?_)
  intro g4 off4 c4 w4 hc4 r4 g4' hge4 hlt4
  have hrow4 : ∀ j, rowIf m c2 a2 = some j → w.heap.size ≤ j ∧ j < w2.heap.size := fun j hj => by
    obtain ⟨b, hb, hj'⟩ := rowIf_some hj
    obtain ⟨g, off, rfl, k1, k2, k3⟩ := t23 b hb
    simp at hj'
    omega
  have b4 : Below w.heap.size w w4 := (b3.alloc b3.size _).grown g4' (by have := b3.size; simp; omega) (fun j hj => (hrow4 j hj).1)
  have r34 : AsRow w4 (some ⟨g3, off3, none⟩) (ls ++ [⟨0, left, 0, 0, 0⟩]) := grown_row (r3.below (below_one rfl)) g4' (fun e => by have := (hrow4 g3 e.symm).2; omega)
  have GR := greatest_row 59 (enters_of Try.func59 (by kernel_rfl) rfl) endx g3 off3 (k + 1) c3 ls ⟨0, left, 0, 0, 0⟩ w4 (by rw [← HK.out]) r34 (by omega) HC3.out (fun x W hm => endOf_b x W (by
    rcases List.mem_append.1 hm with h | h
    · exact FL.out x h
    · rw [List.mem_singleton.1 h]; exact fine_at hl0 hl1))
  have LE := fun (W : World) (hW : Below w4.heap.size w4 W) => least_row 61 (enters_of Try.func61 (by kernel_rfl) rfl) begx g4 off4 (m + 1) c4 rs ⟨0, right, 0, 0, 0⟩ W (by rw [← HM.out]) (r4.below hW) (by omega) hc4 (fun x hm => by
    have : Fine x := by
      rcases List.mem_append.1 hm with h | h
      · exact FR.out x h
      · rw [List.mem_singleton.1 h]; exact fine_at hr0 hr1
    have h0 := this.x0
    have h1 := this.x1
    unfold begx
    omega) (fun x W hm => beginOf_b x W)
  have e1 : endx ⟨0, left, 0, 0, 0⟩ = left := by simp [endx]
  have e2 : begx ⟨0, right, 0, 0, 0⟩ = right := rfl
  rw [e1, ← HA.out] at GR
  rw [e2, ← HR.out] at LE
  clear r34 r4 r23 t23 r23' t23' g4' hge4 hrow4 e1 e2 r3 n2 HC3 b3
  go_wp2_with fail
  refine GR.mono ?_
  rintro e' w5 ⟨rfl, c5⟩
  have b5 := b4.trans (c5.mono b4.size)
  clear GR
  go_wp2_with fail
  refine (LE _ c5).mono ?_
  rintro e' w6 ⟨rfl, c6⟩
  have b6 := b5.trans (c6.mono b5.size)
  clear LE c5 c6
  go_wp2
  go_ret2
  exact ⟨rfl, b6⟩
end Go.Proofs.Ytngbkcihdbnlgaa
