/-
  PlaceFloat of the model, for every row of floats and every numbers.
-/
import Derived.Test.YtngbkcihdbnlgaaAfQ
import Derived.Laws.Rows
namespace Go.Proofs.Ytngbkcihdbnlgaa
open Go.ChangeShapes Go.WideShapes Go.ChangeAt Go.RowKit
set_option linter.unusedVariables false

theorem results_row_tmpA {P : Program} {fn : Func} {p q : Tmp} {ty : TypeId} (h : fn.results = #[.cell p ty, .tmp q]) (tmps : Array Value) (w : World) (g : Nat) (t : TypeId) (cs : Array Value) (fr : Nat × Nat) (d : TypeDesc) (v : Value)
    (hp : tmps.getD p undef = .pointer (some ⟨g, 0, none⟩)) (hg : w.heap[g]? = some (.cells cs t fr))
    (hu : P.underlying ty = some d) (hd : (match d with | .struct _ | .array _ _ => true | _ => false) = true) (hi : (P.info? ty).map (·.size) = some cs.size) (hq : tmps.getD q undef = v) :
    (results fn tmps).run P w = .ok (.tuple #[.agg cs, v]) w := by
  have hp' : tmps[p]?.getD undef = .pointer (some ⟨g, 0, none⟩) := by simpa using hp
  have hq' : tmps[q]?.getD undef = v := by simpa using hq
  simp [results, h, hp', hq', asAddr, run_loadVar_row w g t ty cs fr d hg hu hd hi]
def asC (x : Asd) : Array Value := #[.int .i64 x.sd, .int .i64 x.x, .int .i64 x.y, .int .i64 x.w, .int .i64 x.h]
/-- What the search for a place keeps. -/
structure PutAt (l : List Asd) (wide high left right y Y : Int) (f : Nat) : Prop where
  same : putY l wide high left right f Y = putY l wide high left right (l.length + 1) (begY l y)
  left : (nextL l Y).length < f
  lo : -100000000 ≤ Y
  hi : Y ≤ 101000000
theorem putAt_start {l : List Asd} {wide high left right y : Int} (hx : ∀ x ∈ l, goodA x = true) (hy0 : -100000000 ≤ y) (hy1 : y ≤ 100000000) : PutAt l wide high left right y (begY l y) (l.length + 1) :=
  ⟨rfl, Nat.lt_succ_of_le (List.length_filter_le _ _), by have := (beg_ge l y).1; omega, beg_le (by omega) (fun x hm => by have := (goodA_parts (hx x hm)).2.2.2.2; omega)⟩
theorem putAt_ok {l : List Asd} {wide high left right y Y : Int} {f : Nat} (h : PutAt l wide high left right y Y f) (hok : okAt l wide high left right Y = true) : putY l wide high left right (l.length + 1) (begY l y) = Y := by
  obtain ⟨f, rfl⟩ : ∃ f', f = f' + 1 := ⟨f - 1, by have := h.left; omega⟩
  rw [← h.same]
  unfold putY
  rw [if_pos hok]
theorem putAt_next {l : List Asd} {wide high left right y Y : Int} {f : Nat} (hx : ∀ x ∈ l, goodA x = true) (h : PutAt l wide high left right y Y f) (hok : okAt l wide high left right Y = false) : PutAt l wide high left right y (nextN l Y) (f - 1) ∧ (nextL l (nextN l Y)).length < (nextL l Y).length := by
  obtain ⟨o, ho, e, hlt, hlen⟩ := next_down hok
  obtain ⟨f, rfl⟩ : ∃ f', f = f' + 1 := ⟨f - 1, by have := h.left; omega⟩
  have g := goodA_parts (hx o ho)
  have hlo := h.lo
  refine ⟨⟨?_, by have := h.left; simp only [Nat.add_sub_cancel]; omega, by omega, by omega⟩, hlen⟩
  rw [← h.same]
  conv => rhs; unfold putY
  rw [hok]
  rfl
theorem okAt_any {l : List Asd} {wide high left right Y : Int} (h : l.any (atB Y (endS Y high)) = false) : okAt l wide high left right Y = true := by unfold okAt; rw [h]; rfl
theorem okAt_room {l : List Asd} {wide high left right Y : Int} (h : l.any (atB Y (endS Y high)) = true) : okAt l wide high left right Y = decide (wide ≤ roomB Y (endS Y high) l right - roomA Y (endS Y high) l left) := by unfold okAt; rw [h]; rfl
theorem room_bds {l : List Asd} (hx : ∀ x ∈ l, goodA x = true) {left right : Int} (l0 : -100000000 ≤ left) (l1 : left ≤ 100000000) (r0 : -100000000 ≤ right) (r1 : right ≤ 100000000) (t e : Int) : (-100000000 ≤ roomA t e l left ∧ roomA t e l left ≤ 101000000) ∧ (-100000000 ≤ roomB t e l right ∧ roomB t e l right ≤ 100000000) := by
  have a := roomA_bd (t := t) (e := e) (l := l) (left := left) (B := 101000000) (by omega) (fun x hm => by have := goodA_parts (hx x hm); omega)
  have b := roomB_bd (t := t) (e := e) (l := l) (right := right) (B := -100000000) r0 (fun x hm => by have := goodA_parts (hx x hm); omega)
  omega
/-- The float that is placed at Y. -/
def atY (l : List Asd) (side wide high left right Y : Int) : Asd := ⟨side, putX l side wide high left right Y, Y, wide, high⟩
theorem atY_put {l : List Asd} {side wide high left right y Y : Int} (h : putY l wide high left right (l.length + 1) (begY l y) = Y) : atY l side wide high left right Y = putF l side wide high y left right := by
  unfold atY putF
  rw [h]
theorem beg_take {l : List Asd} {y : Int} {k : Nat} {x : Asd} (hx : l[k]? = some x) : begY (l.take (k + 1)) y = max (begY (l.take k) y) x.y := by
  unfold begY
  rw [List.take_add_one, hx]
  exact mx_snoc topx _ _ x
set_option maxHeartbeats 8000000 in
theorem l7Put_any (a : Option Addr) (n cap : Nat) (l : List Asd) (side wide high y left right : Int) (w : World) (hn : n = l.length) (hr : AsRow w a l) (hl : n ≤ 1048576) (hx : ∀ x ∈ l, goodA x = true)
    (hw0 : 0 ≤ wide) (hw1 : wide ≤ 1000000) (hh0 : 0 ≤ high) (hh1 : high ≤ 1000000) (hy0 : -100000000 ≤ y) (hy1 : y ≤ 100000000) (hl0 : -100000000 ≤ left) (hl1 : left ≤ 100000000) (hr0 : -100000000 ≤ right) (hr1 : right ≤ 100000000) :
    Calls Try.prog 35 #[.slice a n cap, .int .i64 side, .int .i64 wide, .int .i64 high, .int .i64 y, .int .i64 left, .int .i64 right] w fun e w' => e = .returned (.agg (asC (putF l side wide high y left right))) ∧ Below w.heap.size w w' := by
  have HN : Hid (n = l.length) := hn
  have HR : Hid (AsRow w a l) := hr
  have HX : Hid (∀ x ∈ l, goodA x = true) := hx
  have FX : Hid (∀ x ∈ l, Fine x) := fun x hm => goodA_fine (hx x hm)
  have l0 : (w.alloc (.cells #[.int .i64 0, .int .i64 0, .int .i64 0, .int .i64 0, .int .i64 0] 27)).heap[w.heap.size]? = some (.cells #[.int .i64 0, .int .i64 0, .int .i64 0, .int .i64 0, .int .i64 0] 27 (0, 0)) := heap_alloc_new w _
  have hb0 : Below w.heap.size w (w.alloc (.cells #[.int .i64 0, .int .i64 0, .int .i64 0, .int .i64 0, .int .i64 0] 27)) := (Below.refl _ _).alloc (Nat.le_refl _) _
  have HL0 : Hid ((w.alloc (.cells #[.int .i64 0, .int .i64 0, .int .i64 0, .int .i64 0, .int .i64 0] 27)).heap[w.heap.size]? = some (.cells #[.int .i64 0, .int .i64 0, .int .i64 0, .int .i64 0, .int .i64 0] 27 (0, 0))) := l0
  have HB0 : Hid (Below w.heap.size w (w.alloc (.cells #[.int .i64 0, .int .i64 0, .int .i64 0, .int .i64 0, .int .i64 0] 27))) := hb0
  clear hn hr hx l0 hb0
  go_enter Try.func35, Try.ntmps35
  go_wp2_with fail
  go_loopw [4, 22] (fun u i wr => ∃ k : Nat, k ≤ n ∧ i = .int .i64 k ∧ u = .int .i64 (begY (l.take k) y) ∧ wr.heap[w.heap.size]? = some (.cells #[.int .i64 0, .int .i64 0, .int .i64 0, .int .i64 0, .int .i64 0] 27 (0, 0)) ∧ Below w.heap.size w wr) (fun _ i _ => n - (intOf i).toNat)
  case atStart => exact ⟨0, Nat.zero_le _, rfl, by rw [List.take_zero]; rfl, HL0.out, HB0.out⟩
  case round =>
    obtain ⟨k, hk, rfl, rfl, hl2, hbw⟩ := hrel
    clear HL0 HB0
    by_cases hlt : k < n
    · obtain ⟨x, hx⟩ : ∃ x, l[k]? = some x := ⟨_, List.getElem?_eq_getElem (by have := HN.out; omega)⟩
      obtain ⟨b, off, rfl, hc⟩ := as_some HR.out hx
      have hr := as_below (hc k x hx) hbw (as_lt (hc k x hx))
      obtain ⟨q0, q1, q2, q3, q4⟩ := as_cells hr
      have HY : Hid (begY (l.take (k + 1)) y = max (begY (l.take k) y) x.y) := beg_take hx
      have b2 : ∀ o, Below w.heap.size w (wr.alloc o) := fun o => hbw.alloc hbw.size _
      have l2 : ∀ o, (wr.alloc o).heap[w.heap.size]? = some (.cells #[.int .i64 0, .int .i64 0, .int .i64 0, .int .i64 0, .int .i64 0] 27 (0, 0)) := fun o => heap_in hl2
      generalize begY (l.take k) y = m at HY
      clear hc hx hr hl2 hbw
      by_cases h : m < x.y
      · go_wp2
        go_roundw
        case rel => exact ⟨k + 1, by omega, by go_num, by rw [HY.out, show max m x.y = x.y by omega], l2 _, b2 _⟩
        case measure => simp [intOf]; omega
      · go_wp2
        go_roundw
        case rel => exact ⟨k + 1, by omega, by go_num, by rw [HY.out, show max m x.y = m by omega], l2 _, b2 _⟩
        case measure => simp [intOf]; omega
    have HT : Hid (l.take k = l) := List.take_of_length_le (by have := HN.out; omega)
    rw [HT.out]
    have ST := putAt_start (wide := wide) (high := high) (left := left) (right := right) HX.out hy0 hy1
    have HST : Hid (PutAt l wide high left right y (begY l y) (l.length + 1)) := ST
    have HL2 : Hid (wr.heap[w.heap.size]? = some (.cells #[.int .i64 0, .int .i64 0, .int .i64 0, .int .i64 0, .int .i64 0] 27 (0, 0))) := hl2
    have HBW : Hid (Below w.heap.size w wr) := hbw
    clear ST hl2 hbw
    go_wp2_with fail
    go_loopw [4] (fun u wr => ∃ (Y : Int) (f : Nat), u = .int .i64 Y ∧ PutAt l wide high left right y Y f ∧ wr.heap[w.heap.size]? = some (.cells #[.int .i64 0, .int .i64 0, .int .i64 0, .int .i64 0, .int .i64 0] 27 (0, 0)) ∧ Below w.heap.size w wr) (fun u _ => (nextL l (intOf u)).length)
    case atStart => exact ⟨_, _, rfl, HST.out, HL2.out, HBW.out⟩
    case round =>
      clear HL2 HBW HST
      obtain ⟨Y, f, rfl, hp, hl2, hbw⟩ := hrel
      have HP : Hid (PutAt l wide high left right y Y f) := hp
      have y0 := hp.lo
      have y1 := hp.hi
      have rb := room_bds HX.out hl0 hl1 hr0 hr1 Y (endS Y high)
      obtain ⟨⟨ra0, ra1⟩, ⟨rb0, rb1⟩⟩ := rb
      clear hp
      go_wp2_with fail
      refine (l7Room_any a n cap l Y high left right _ HN.out (HR.out.below hbw) hl FX.out (by omega) (by omega) (by omega) (by omega)).mono ?_
      rintro e w2 ⟨rfl, c2⟩
      have b2 := hbw.trans (c2.mono hbw.size)
      have l2 := below_lies c2 hl2 (lies_lt hl2)
      clear c2 hbw hl2
      have HXX : Hid (∀ Z, Z = putX l side wide high left right Y → (⟨side, Z, Y, wide, high⟩ : Asd) = atY l side wide high left right Y) := fun Z h => by unfold atY; rw [h]
      have HPX : Hid (putX l side wide high left right Y = if side = 2 then roomB Y (endS Y high) l right - wide else roomA Y (endS Y high) l left) := rfl
      have HOK := fun h => okAt_any (l := l) (wide := wide) (high := high) (left := left) (right := right) (Y := Y) h
      have HRM := fun h => okAt_room (l := l) (wide := wide) (high := high) (left := left) (right := right) (Y := Y) h
      generalize roomA Y (endS Y high) l left = A at ra0 ra1 HPX HRM
      generalize roomB Y (endS Y high) l right = B at rb0 rb1 HPX HRM
      go_wp2_with fail
      refine (l7Any_any a n cap l Y high _ HN.out (HR.out.below b2) hl FX.out (by omega) (by omega) (by omega) (by omega)).mono ?_
      rintro e w3 ⟨rfl, c3⟩
      have b3 := b2.trans (c3.mono b2.size)
      have l3 := below_lies c3 l2 (lies_lt l2)
      have s3 := b3.size
      have t3 := lies_lt l3
      clear c3 b2 l2
      have FIN : okAt l wide high left right Y = true → ∀ X, X = putX l side wide high left right Y → (#[.int .i64 side, .int .i64 X, .int .i64 Y, .int .i64 wide, .int .i64 high] : Array Value) = asC (putF l side wide high y left right) := fun hok X hX => by
        rw [← atY_put (putAt_ok HP.out hok), ← HXX.out X hX]
        rfl
      rcases Bool.eq_false_or_eq_true (l.any (atB Y (endS Y high))) with ha | ha
      rotate_left
      · rw [ha]
        have hok : Hid (okAt l wide high left right Y = true) := HOK ha
        clear ha
        by_cases hs : side = 2
        · have HS : Hid (side = 2) := hs
          have F1 : IntKind.i64.wrap (B - wide) = B - wide := wrapA _ (by omega) (by omega)
          subst hs
          clear HRM HOK
          go_wp2_with ((with_reducible show wpList _ _ _ (⟨none, Op.store 27 (Operand.tmp 14) (Operand.tmp 66), _, _, _, _⟩ :: _) _ _); refine wpList_putA rfl _ _ _ rfl rfl w.heap.size 0 5 [.int .i64 2, .int .i64 (B - wide), .int .i64 Y, .int .i64 wide, .int .i64 high] #[.int .i64 0, .int .i64 0, .int .i64 0, .int .i64 0, .int .i64 0] 27 rfl (by go_simp) (heap_in l3) rfl (by kernel_rfl) (by kernel_rfl) (by kernel_rfl) ?_; intro w9 p9 l9 n9)
          exact bodyPost_ret (v := .agg (asC (putF l 2 wide high y left right))) (results_cell_row Try.results35 _ _ _ _ (asC (putF l 2 wide high y left right)) _ _ rfl (l9.trans (congrArg (fun c => some (Obj.cells c 27 (0, 0))) (FIN hok.out _ (by rw [HPX.out]; simp)))) Try.underlying27 rfl (by kernel_rfl)) rfl ⟨rfl, p9.below (b3.alloc b3.size _) (Nat.le_refl _)⟩
        · have HS : Hid (¬ side = 2) := hs
          clear HRM HOK
          go_wp2_with ((with_reducible show wpList _ _ _ (⟨none, Op.store 27 (Operand.tmp 14) (Operand.tmp 66), _, _, _, _⟩ :: _) _ _); refine wpList_putA rfl _ _ _ rfl rfl w.heap.size 0 5 [.int .i64 side, .int .i64 A, .int .i64 Y, .int .i64 wide, .int .i64 high] #[.int .i64 0, .int .i64 0, .int .i64 0, .int .i64 0, .int .i64 0] 27 rfl (by go_simp) (heap_in l3) rfl (by kernel_rfl) (by kernel_rfl) (by kernel_rfl) ?_; intro w9 p9 l9 n9)
          exact bodyPost_ret (v := .agg (asC (putF l side wide high y left right))) (results_cell_row Try.results35 _ _ _ _ (asC (putF l side wide high y left right)) _ _ rfl (l9.trans (congrArg (fun c => some (Obj.cells c 27 (0, 0))) (FIN hok.out _ (by rw [HPX.out, if_neg HS.out])))) Try.underlying27 rfl (by kernel_rfl)) rfl ⟨rfl, p9.below (b3.alloc b3.size _) (Nat.le_refl _)⟩
      rw [ha]
      have HRM' := HRM ha
      have F2 : IntKind.i64.wrap (B - A) = B - A := wrapA _ (by omega) (by omega)
      by_cases hw : wide ≤ B - A
      · have hok : Hid (okAt l wide high left right Y = true) := by show okAt l wide high left right Y = true; rw [HRM', decide_eq_true hw]
        clear ha HRM'
        by_cases hs : side = 2
        · have HS : Hid (side = 2) := hs
          have F1 : IntKind.i64.wrap (B - wide) = B - wide := wrapA _ (by omega) (by omega)
          subst hs
          clear HRM HOK
          go_wp2_with ((with_reducible show wpList _ _ _ (⟨none, Op.store 27 (Operand.tmp 14) (Operand.tmp 66), _, _, _, _⟩ :: _) _ _); refine wpList_putA rfl _ _ _ rfl rfl w.heap.size 0 5 [.int .i64 2, .int .i64 (B - wide), .int .i64 Y, .int .i64 wide, .int .i64 high] #[.int .i64 0, .int .i64 0, .int .i64 0, .int .i64 0, .int .i64 0] 27 rfl (by go_simp) (heap_in l3) rfl (by kernel_rfl) (by kernel_rfl) (by kernel_rfl) ?_; intro w9 p9 l9 n9)
          exact bodyPost_ret (v := .agg (asC (putF l 2 wide high y left right))) (results_cell_row Try.results35 _ _ _ _ (asC (putF l 2 wide high y left right)) _ _ rfl (l9.trans (congrArg (fun c => some (Obj.cells c 27 (0, 0))) (FIN hok.out _ (by rw [HPX.out]; simp)))) Try.underlying27 rfl (by kernel_rfl)) rfl ⟨rfl, p9.below (b3.alloc b3.size _) (Nat.le_refl _)⟩
        · have HS : Hid (¬ side = 2) := hs
          clear HRM HOK
          go_wp2_with ((with_reducible show wpList _ _ _ (⟨none, Op.store 27 (Operand.tmp 14) (Operand.tmp 66), _, _, _, _⟩ :: _) _ _); refine wpList_putA rfl _ _ _ rfl rfl w.heap.size 0 5 [.int .i64 side, .int .i64 A, .int .i64 Y, .int .i64 wide, .int .i64 high] #[.int .i64 0, .int .i64 0, .int .i64 0, .int .i64 0, .int .i64 0] 27 rfl (by go_simp) (heap_in l3) rfl (by kernel_rfl) (by kernel_rfl) (by kernel_rfl) ?_; intro w9 p9 l9 n9)
          exact bodyPost_ret (v := .agg (asC (putF l side wide high y left right))) (results_cell_row Try.results35 _ _ _ _ (asC (putF l side wide high y left right)) _ _ rfl (l9.trans (congrArg (fun c => some (Obj.cells c 27 (0, 0))) (FIN hok.out _ (by rw [HPX.out, if_neg HS.out])))) Try.underlying27 rfl (by kernel_rfl)) rfl ⟨rfl, p9.below (b3.alloc b3.size _) (Nat.le_refl _)⟩
      have hok : Hid (okAt l wide high left right Y = false) := by show okAt l wide high left right Y = false; rw [HRM', decide_eq_false hw]
      clear ha HRM' HRM HOK FIN
      go_wp2_with fail
      refine (l7Next_any a n cap l Y _ HN.out (HR.out.below b3) hl FX.out).mono ?_
      rintro e w4 ⟨rfl, c4⟩
      have b4 := b3.trans (c4.mono b3.size)
      have l4 := below_lies c4 l3 (lies_lt l3)
      obtain ⟨p4, m4⟩ := putAt_next HX.out HP.out hok.out
      have HP4 : Hid (PutAt l wide high left right y (nextN l Y) (f - 1)) := p4
      have HM4 : Hid ((nextL l (nextN l Y)).length < (nextL l Y).length) := m4
      clear c4 b3 l3 p4 m4
      go_wp2
      go_roundw
      case rel => exact ⟨_, _, rfl, HP4.out, l4, b4⟩
      case measure => simpa [intOf] using HM4.out
end Go.Proofs.Ytngbkcihdbnlgaa
