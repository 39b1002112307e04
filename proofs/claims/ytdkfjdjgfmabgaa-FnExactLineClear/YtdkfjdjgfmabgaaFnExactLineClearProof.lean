/-
  At every row of floats and every line LineClear answers as its model, and leaves its arguments as they are. Full form, no condition.
-/
import Derived.Test.YtdkfjdjgfmabgaaLcA
import Derived.Test.YtdkfjdjgfmabgaaLnF
import Derived.Test.YtdkfjdjgfmabgaaLnO
import Derived.Test.YtdkfjdjgfmabgaaAfO
import Derived.ShutString
import Derived.ChangeOld
import Derived.Below
namespace Go.Proofs.Ytdkfjdjgfmabgaa.fnExactLineClear
open Go.ChangeShapes Go.WideShapes Go.ChangeAt Go.RowKit
open Go.ChangeMaps (open_string shut_string)
set_option linter.unusedVariables false

theorem own : ownKnob Try.prog.godebug = none := by kernel_rfl
theorem laidOut : laidOutB Try.prog = true := by kernel_rfl
theorem open_line {H : Type} {enc : TypeId × Value → H} {w : World} {base b0 : Nat} {spare : Nat → Bool} {held : Bool} {r : Reach} {v : Value} {d : DataW H} {p : List MemPlace}
    (hv : Value.okWide Try.prog w r b0 24 v) (h : DataW.Trod enc Try.prog w base spare held 24 v d p) :
    ∃ x : Ln, v = .agg #[.int .i64 x.bx, .int .i64 x.x, .int .i64 x.y, .int .i64 x.w, .int .i64 x.h, .string x.tx] ∧ x.tx.size ≤ maxLen := by
  obtain ⟨cs, rfl, hsz⟩ := okWide_struct Try.underlying24 hv
  obtain ⟨fuel, hf⟩ := h
  obtain ⟨n, hn, hs⟩ := line_cells hf
  refine ⟨n, ?_, hs⟩
  simp only [Value.cells] at hn
  rw [← Array.toArray_toList (xs := cs), hn]
  rfl

set_option maxRecDepth 100000 in
set_option maxHeartbeats 2000000 in
theorem szA_any (a : Option Addr) (n cap : Nat) (w : World) (hl : n ≤ maxLen) :
    Calls Try.prog 5 #[.slice a n cap, .int .i64 1048576] w fun e w' => (∃ z : Int, e = .returned (.int .i64 z) ∧ (z = -1 ∨ 0 ≤ z ∧ z ≤ 1048576 ∧ n ≤ 1048576)) ∧ Below w.heap.size w w' := by
  unfold maxLen at hl
  by_cases hbig : (1048576 : Int) < (n : Int)
  · have hq : (1048576 : Int) - (n : Int) < 0 := by omega
    go_enter Try.func5, Try.ntmps5
    go_wp2
    go_ret
    exact ⟨⟨_, rfl, Or.inl rfl⟩, Below.refl _ _⟩
  have hq : ¬ ((1048576 : Int) - (n : Int) < 0) := by omega
  go_enter Try.func5, Try.ntmps5
  go_wp2
  go_ret
  exact ⟨⟨_, rfl, Or.inr ⟨by omega, by omega, by omega⟩⟩, Below.refl _ _⟩
set_option maxRecDepth 100000 in
set_option maxHeartbeats 8000000 in
theorem walk (a : Option Addr) (cap : Nat) (ns : List Asd) (x : Ln) (w : World) (hr : AsRow w a ns) (hl : ns.length ≤ maxLen) (hs : x.tx.size ≤ maxLen) :
    Calls Try.prog 3 #[.slice a ns.length cap, .agg #[.int .i64 x.bx, .int .i64 x.x, .int .i64 x.y, .int .i64 x.w, .int .i64 x.h, .string x.tx]] w fun e w' => e = .returned (.bool true) ∧ Below w.heap.size w w' := by
  have HL0 : Hid ((w.alloc (.cells #[.int .i64 x.bx, .int .i64 x.x, .int .i64 x.y, .int .i64 x.w, .int .i64 x.h, .string x.tx] 24)).heap[w.heap.size]? = some (.cells #[.int .i64 x.bx, .int .i64 x.x, .int .i64 x.y, .int .i64 x.w, .int .i64 x.h, .string x.tx] 24 (0, 0))) := heap_alloc_new w (.cells #[.int .i64 x.bx, .int .i64 x.x, .int .i64 x.y, .int .i64 x.w, .int .i64 x.h, .string x.tx] 24)
  have HB0 : Hid (Below w.heap.size w (w.alloc (.cells #[.int .i64 x.bx, .int .i64 x.x, .int .i64 x.y, .int .i64 x.w, .int .i64 x.h, .string x.tx] 24))) := (Below.refl _ _).alloc (Nat.le_refl _) _
  have SZ := fun W => szA_any a ns.length cap W hl
  have SL := fun (W : World) (left : Int) (h0 : 0 ≤ left) (h1 : left ≤ 1048576) => szLine_any x left W h0 h1 hs
  have TL := fun (W : World) => toLine_any x W
  obtain ⟨n, hn⟩ : ∃ n, n = ns.length := ⟨_, rfl⟩
  have HR : Hid (AsRow w a ns) := hr
  have HN : Hid (n = ns.length) := hn
  rw [← hn] at SZ
  rw [← hn]
  clear hr hn hl hs
  go_enter Try.func3, Try.ntmps3
  go_wp2_with fail
  refine (SZ _).mono ?_
  rintro e w1 ⟨⟨z, rfl, hz⟩, c1⟩
  have b1 := HB0.out.trans (c1.mono HB0.out.size)
  have l1 := below_lies c1 HL0.out (lies_lt HL0.out)
  clear SZ c1 HL0 HB0
  rcases hz with rfl | ⟨hz0, hz1, hlen⟩
  · go_wp2
    go_ret
    exact ⟨rfl, b1⟩
  rw [HN.out] at hlen
  have TN := fun (W : World) (h : Below w.heap.size w W) => toAsides a cap ns W (HR.out.below h) hlen
  have S := fun (W : World) (g : Nat) (h : AsOwn W g n ns n) => specClear_any (some ⟨g, 0, none⟩) n n ns x W HN.out (by have h := h; rw [HN.out] at h; exact h.row) (by rw [HN.out]; exact hlen)
  have I := fun (W : World) (g : Nat) (h : AsOwn W g n ns n) => implClear_any (some ⟨g, 0, none⟩) n n ns x W HN.out (by have h := h; rw [HN.out] at h; exact h.row) (by rw [HN.out]; exact hlen)
  have EN := fun (W : World) (g g' : Nat) (h : AsOwn W g n ns n) (h' : AsOwn W g' n ns n) => eqAsides (some ⟨g, 0, none⟩) (some ⟨g', 0, none⟩) n n ns W (by have h := h; rw [HN.out] at h; exact h.row) (by have h := h'; rw [HN.out] at h; exact h.row) hlen
  rw [← HN.out] at TN EN
  generalize lcR ns x = r at S I
  generalize lcOk ns x = s at S I
  clear hlen
  have hz' : ¬ (z < 0) := by omega
  obtain ⟨q0, q1, q2, q3, q4, q5⟩ := keepL6 (Below.refl _ _) l1
  have SLz := fun W => SL W z hz0 hz1
  clear SL
  go_wp2_with fail
  refine (SLz _).mono ?_
  rintro e w2 ⟨rfl, c2⟩
  have b2 := b1.trans (c2.mono b1.size)
  have l2 := below_lies c2 l1 (lies_lt l1)
  clear c2 l1 b1 q0 q1 q2 q3 q4 q5 SLz
  by_cases hsz : (x.tx.size : Int) ≤ z
  rotate_left
  · rw [if_neg hsz]
    go_wp2
    go_ret
    exact ⟨rfl, b2⟩
  rw [if_pos hsz]
  have hz2 : ¬ (z - (x.tx.size : Int) < 0) := by omega
  have HB2 : Hid (Below w.heap.size w w2) := b2
  obtain ⟨q0, q1, q2, q3, q4, q5⟩ := keepL6 (Below.refl _ _) l2
  clear b2
  go_wp2_with fail
  go_region_held3 (fun w' => w'.cell? ⟨w.heap.size, 0, none⟩ = some (.int .i64 x.bx) ∧ w'.cell? ⟨w.heap.size, 1, none⟩ = some (.int .i64 x.x) ∧ w'.cell? ⟨w.heap.size, 2, none⟩ = some (.int .i64 x.y) ∧ w'.cell? ⟨w.heap.size, 3, none⟩ = some (.int .i64 x.w) ∧ w'.cell? ⟨w.heap.size, 4, none⟩ = some (.int .i64 x.h) ∧ w'.cell? ⟨w.heap.size, 5, none⟩ = some (.string x.tx))
    (first | go_keep | exact kr | exact kq | exact kp | exact keepL6 (Below.refl _ _) l2)
    ((first
      | (go_at_call 7; have lc := below_lies hc (below_lies hb l2 (lies_lt l2)) (lies_lt (below_lies hb l2 (lies_lt l2))); go_fit (S _ _ ho2); rintro e x1 ⟨rfl, hd⟩; have kr := keepL6 hd lc)
      | (go_at_call 8; have lb := below_lies hb l2 (lies_lt l2); have mark2 := hfirst; go_fit (TN _ (HB2.out.trans (Below.mono (B := w2.heap.size) ⟨hb.os, hb.tape, hb.output, hb.size, hb.block⟩ HB2.out.size))); rintro e v1 ⟨rfl, hc, hzz, ho2⟩; have kq := keepL6 hc lb)
      | (go_at_call 9; have lb := below_lies hb l2 (lies_lt l2); have mark3 := ho1; go_fit (TL _); rintro e v1 ⟨rfl, hc⟩; have kq := keepL6 hc lb; have ho2 := ho1.below hc hz1')
      | (go_at_call 8; go_fit (TN _ HB2.out.drew); rintro e u1 ⟨rfl, hb, hz1', ho1⟩; have kp := keepL6 hb l2)
      | (go_at_call 9; go_fit (TL _); rintro e u1 ⟨rfl, hb⟩; have hfirst := hb.size; have kp := keepL6 hb l2)
      | fail))
  all_goals
    have l3 := below_lies hd lc (lies_lt lc)
    have b3 : Below w.heap.size w x1 := ((HB2.out.trans (Below.mono (B := w2.heap.size) ⟨hb.os, hb.tape, hb.output, hb.size, hb.block⟩ HB2.out.size)).trans (Below.mono (B := u1.heap.size) ⟨hc.os, hc.tape, hc.output, hc.size, hc.block⟩ (Nat.le_trans HB2.out.size hb.size))).trans (Below.mono (B := v1.heap.size) ⟨hd.os, hd.tape, hd.output, hd.size, hd.block⟩ (Nat.le_trans (Nat.le_trans HB2.out.size hb.size) hc.size))
    clear kp kq kr hb hc hd ho2 lc l2 S HB2 q0 q1 q2 q3 q4 q5
    try clear hfirst
    try clear ho1
    go_wp2_with fail
    refine (TN _ b3).mono ?_
    rintro e w4 ⟨rfl, c4, z4, o4⟩
    have b4 := b3.trans (c4.mono b3.size)
    have l4 := below_lies c4 l3 (lies_lt l3)
    obtain ⟨q0, q1, q2, q3, q4, q5⟩ := keepL6 (Below.refl _ _) l4
    clear c4 l3
    go_wp2_with fail
    refine (TL _).mono ?_
    rintro e w5 ⟨rfl, c5⟩
    have b5 := b4.trans (c5.mono b4.size)
    have o5 := o4.below c5 z4
    have z5 := Nat.lt_of_lt_of_le z4 c5.size
    clear c5 o4 l4 q0 q1 q2 q3 q4 q5 z4 TL
    go_wp2_with fail
    refine (I _ _ o5).mono ?_
    rintro e w6 ⟨rfl, c6⟩
    have b6 := b5.trans (c6.mono b5.size)
    have o6 := o5.below c6 z5
    have z6 := Nat.lt_of_lt_of_le z5 c6.size
    clear c6 o5 I z5
    go_wp2_with fail
    refine (TN _ b6).mono ?_
    rintro e w7 ⟨rfl, c7, z7, o7⟩
    have b7 := b6.trans (c7.mono b6.size)
    have o67 := o6.below c7 z6
    clear c7 o6
    go_wp2_with fail
    refine (EN _ _ _ o67 o7).mono ?_
    rintro e w8 ⟨rfl, c8⟩
    have b8 := b7.trans (c8.mono b7.size)
    clear c8 o67 o7
    go_wp2
    go_ret
    exact ⟨rfl, b8⟩

set_option maxRecDepth 100000 in
theorem lifted (os : Os) (started : os.Started) (H : Type) (enc : TypeId × Value → H) :
    ReturnsInHanded {} Try.checked os 3 .any (Rows.fnExactLineClearSpec.pre6 enc Try.prog Try.f3 Rows.fnExactLineClearRow.domain false) (Rows.fnExactLineClearSpec.post enc Try.prog Try.f3 false true false false) := by
  refine returnsInHanded_of_change (C := Try.checked) own started (by kernel_rfl) Try.func3
    (ChangeSpec.witness6 (enc := enc) (C := Try.checked) false ⟨#[], #[.slice none 0 0, .agg #[.int .i64 0, .int .i64 0, .int .i64 0, .int .i64 0, .int .i64 0, .string ByteArray.empty]], []⟩ 8 (by kernel_rfl) (by kernel_rfl) (by kernel_rfl) (by kernel_rfl)) ?_
  intro W base args ds gs before hval0 hW hcnd _
  have hval : ∀ (j : Nat) t v, Try.f3.params[j]? = some t → args[j]? = some v → Value.okWide Try.prog W .any base t v := hval0
  have hW' := hW
  obtain ⟨p, q, hA0, hV, rfl, hfz, hnd⟩ := hW
  have hA : DataW.TrodAll enc Try.prog W 0 (fun _ => true) true Try.f3.params.toList args.toList ds p := hA0
  rw [Try.params3] at hA hval
  obtain ⟨v0, vs0, d0, ds0, p0, q0, hargs, rfl, rfl, h0, r0⟩ := trodAll_cons hA
  obtain ⟨v1, vs1, d1, ds1, p1, q1, rfl, rfl, rfl, h1, r1⟩ := trodAll_cons r0
  obtain ⟨rfl, rfl, rfl⟩ := trodAll_nil r1
  obtain rfl : args = #[v0, v1] := by cases args; simp_all
  obtain ⟨rfl, rfl⟩ := trodVars_none hV
  obtain ⟨a0, cap0, ns0, rfl, r0r, l0r⟩ := open_asides (hval 0 22 v0 rfl rfl) h0
  obtain ⟨x1, rfl, s1⟩ := open_line (hval 1 24 v1 rfl rfl) h1
  have lt0 : ∀ x ∈ p0, x.block < W.heap.size := by obtain ⟨m, hm⟩ := h0; exact DataW.trod_lt m _ _ _ hm
  have lt1 : ∀ x ∈ p1, x.block < W.heap.size := by obtain ⟨m, hm⟩ := h1; exact DataW.trod_lt m _ _ _ hm
  clear hA0 hval0
  refine (walk a0 cap0 ns0 x1 W r0r l0r s1).mono fun e W' ⟨he, bel⟩ => ?_
  subst he
  exact ⟨_, rfl, _, _, _, [], _, [], hW', trodAll_mk1 (shut_bool Try.underlying4 _), (trodAll_cons_mk (Below.trod laidOut (by kernel_rfl) (of_decide_eq_true (by kernel_rfl)) h0 bel lt0) (trodAll_cons_mk (Below.trod laidOut (by kernel_rfl) (of_decide_eq_true (by kernel_rfl)) h1 bel lt1) trodAll_mk0)), rfl, bel.frame _, fun h => by cases h⟩

theorem said : Rows.FnExactLineClearSaid :=
  OpenClaim.holds_of_wide 3 Try.f3 rfl rfl rfl rfl rfl rfl rfl ⟨rfl, rfl, rfl, rfl, rfl⟩ rfl rfl rfl rfl rfl (by kernel_rfl) Try.func3 (by kernel_rfl)
    (of_decide_eq_true (by kernel_rfl)) (by unfold Func.isWrapper; first | (rw [if_pos (by decide +kernel)]; kernel_rfl) | (rw [if_neg (by decide +kernel)]; exact ⟨rfl, rfl⟩))
    (fun os started H enc _ => lifted os started H enc)
end Go.Proofs.Ytdkfjdjgfmabgaa.fnExactLineClear
namespace Go.Proofs.Ytdkfjdjgfmabgaa
open Go
/-- The given statement. -/
theorem fnExactLineClear_holds : Rows.FnExactLineClearSaid := fnExactLineClear.said
#print axioms fnExactLineClear_holds
end Go.Proofs.Ytdkfjdjgfmabgaa
