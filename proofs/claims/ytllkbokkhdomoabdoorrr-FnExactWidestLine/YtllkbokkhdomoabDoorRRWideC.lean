/-
  Contract of the model's WidestLine.
-/
import Derived.Test.YtllkbokkhdomoabDoorRRWideB
import Derived.Deep.AppendLies
namespace Go.Proofs.YtllkbokkhdomoabDoorRR
open Go.ChangeShapes Go.WideShapes Go.ChangeAt Go.RowKit
set_option linter.unusedVariables false

theorem own_lower {w : World} {B C e size n : Nat} {v : Value} {xs : List Value} (h : w.ownsRow B e size v n xs) (hC : C ≤ B) : w.ownsRow C e size v n xs := by
  refine ⟨h.1, ?_⟩
  rcases h.2 with hn | ⟨g, cap, cur, rfl, hb, rest⟩
  · exact .inl hn
  · exact .inr ⟨g, cap, cur, rfl, Nat.le_trans hC hb, rest⟩
theorem news_one {W : World} {b : Nat} {z : Int} (h : W.cell? ⟨b, 0, none⟩ = some (.int .i64 z)) : ∀ j u, [Value.int .i64 z][j]? = some u → W.cell? ((⟨b, 0, none⟩ : Addr).add j) = some u := by
  intro j u hu
  match j, hu with
  | 0, hu =>
    simp at hu
    subst hu
    exact h
theorem BoxAt.grown {w w' : World} {b : Nat} {fa fd fn fu fb : Int} {row : Option Nat} (h : BoxAt w b fa fd fn fu fb) (hg : w.grownBy w' row) (hr : row ≠ some b) : BoxAt w' b fa fd fn fu fb := by
  obtain ⟨h0, h1, h2, h3, h4, h5⟩ := h
  have e := fun o => World.cell?_of_block (w := w) (w' := w') (a := ⟨b, o, none⟩) (hg.block b h0 (Ne.symm hr))
  exact ⟨Nat.lt_of_lt_of_le h0 hg.size, (e 0).trans h1, (e 1).trans h2, (e 2).trans h3, (e 3).trans h4, (e 4).trans h5⟩
/-- The ends of a text's lines: behind each line break, and the length. -/
def endsF (s : ByteArray) : List Nat := placesN (tenB s) s.size ++ [s.size]
theorem endsF_len (s : ByteArray) : (endsF s).length ≤ s.size + 1 := by
  unfold endsF
  rw [List.length_append, List.length_singleton]
  have := placesN_len (tenB s) s.size
  omega
theorem endsF_ok (s : ByteArray) : EndsOk s.size (endsF s) := by
  have hB := placesN_between (tenB s) s.size
  unfold endsF
  generalize placesN (tenB s) s.size = E at hB
  obtain ⟨h1, h2, h3⟩ := hB
  intro j hj
  rw [prevE_lo E s.size j (by simp at hj; omega)]
  by_cases e : j = E.length
  · subst e; rw [getD_snoc_hi]; omega
  · have hj' : j < E.length := by simp at hj; omega
    rw [getD_snoc_lo E s.size j hj']
    have := h1 j hj'
    omega
theorem endsF_ints (s : ByteArray) : intsN (endsF s) = placesL (tenB s) s.size ++ [(s.size : Int)] := by
  unfold endsF intsN; rw [placesN_int]; simp

set_option maxRecDepth 100000 in
set_option maxHeartbeats 8000000 in
theorem specLine_any (fa fd fn fu fb : Int) (s : ByteArray) (w : World) (hs : s.size ≤ 200) (hf : 1 ≤ fn ∧ fn ≤ 6400 ∧ 1 ≤ fu ∧ fu ≤ 6400 ∧ 1 ≤ fb ∧ fb ≤ 6400) :
    Calls Tryd.prog 9 #[.agg #[.int .i64 fa, .int .i64 fd, .int .i64 fn, .int .i64 fu, .int .i64 fb], .string s] w fun e w' => e = .returned (.int .i64 (widestK (Wd fn fu fb) s (endsF s) (endsF s).length)) ∧ Below w.heap.size w w' := by
  obtain ⟨i0, hi, hz0, hz1, hz2⟩ := info_parts Tryd.infoInt
  have hBk := box_new w fa fd fn fu fb
  have hll := placesL_len (tenB s) s.size
  have hel : (endsF s).length = (placesL (tenB s) s.size).length + 1 := by
    have := congrArg List.length (endsF_ints s)
    simpa [intsN] using this
  have WD := fun (a : Option Addr) (cap : Nat) (w : World) (h : Row w a (placesL (tenB s) s.size ++ [(s.size : Int)])) => specWidest_any fa fd fn fu fb s (endsF s) a (endsF s).length cap w rfl (by omega) hs hf (endsF_ok s) (by rw [endsF_ints]; exact h)
  have FL : ∀ W : World, w.heap.size + 1 ≤ W.heap.size → Calls Tryd.prog 16 #[.string s] W fun e w' => ∃ v, e = .returned v ∧ OwnI w' (w.heap.size + 1) v (placesL (tenB s) s.size) ∧ Below W.heap.size W w' := fun W hW => (specForcedL_any s W hs).mono fun e w' ⟨v, h1, h2, h3⟩ => ⟨v, h1, own_lower h2 hW, h3⟩
  generalize widestK (Wd fn fu fb) s (endsF s) (endsF s).length = r at WD ⊢
  rw [hel] at WD
  clear hel
  generalize placesL (tenB s) s.size = zs at FL WD hll
  have hz : zs.length ≤ 200 := by omega
  clear hll
  have rowO : ∀ {W : World} {g cap : Nat}, W.ownsRow (w.heap.size + 1) 3 1 (.slice (some ⟨g, 0, none⟩) (zs.length + 1) cap) (zs.length + 1) (zs.map (Value.int .i64) ++ [.int .i64 s.size]) → Row W (some ⟨g, 0, none⟩) (zs ++ [(s.size : Int)]) := fun {W g cap} h => by
    obtain ⟨a, c, h1, h2⟩ := (OwnI.snoc (z := (s.size : Int)) rfl h).row
    have h3 : some ⟨g, 0, none⟩ = a := by injection h1
    rw [h3]
    exact h2
  go_enter Tryd.func9, Tryd.ntmps9
  go_wp2_with fail
  go_region_held3 (fun w' => w'.cell? ⟨w.heap.size, 0, none⟩ = some (.int .i64 fa) ∧ w'.cell? ⟨w.heap.size, 1, none⟩ = some (.int .i64 fd) ∧ w'.cell? ⟨w.heap.size, 2, none⟩ = some (.int .i64 fn) ∧ w'.cell? ⟨w.heap.size, 3, none⟩ = some (.int .i64 fu) ∧ w'.cell? ⟨w.heap.size, 4, none⟩ = some (.int .i64 fb))
    (first | go_keep | exact hx3.2 | exact hx2.2 | exact hx1.2)
    ((first
      | (go_at_call 16; refine (FL _ (by simp)).mono ?_; rintro e w1 ⟨v1, rfl, ho, hb⟩; have hx1 : BoxAt w1 w.heap.size fa fd fn fu fb := (by first | exact hBk.below ⟨hb.os, hb.tape, hb.output, hb.size, hb.block⟩ | exact (hBk.below ((Below.refl _ _).alloc (Nat.le_refl _) _)).below ⟨hb.os, hb.tape, hb.output, hb.size, hb.block⟩ | fail))
      | (refine step_append_lies _ (by rfl) _ _ _ (by rfl) (w.heap.size + 1) 3 i0 _ 1 8 Tryd.underlying32 hi hz0 hz1 hz2 rfl (by omega) v1 zs.length (zs.map (Value.int .i64)) (by rfl) ho ⟨w.heap.size + 1, 0, none⟩ 1 1 [.int .i64 s.size] (by rfl) (by rfl) (news_one ((hb.cell (p := ⟨w.heap.size + 1, 0, none⟩) (by simp)).trans (by simp))) (one_i64 _) (by omega) (by unfold maxLen; omega) (by omega) (by have := hb.size; simp at this; omega) _ rfl ?_; intro g cap w2 hown2 hgrow2 hat hlt; have hx2 : BoxAt w2 w.heap.size fa fd fn fu fb := hx1.grown hgrow2 (fun e => by have := ho.base _ e; omega))
      | (refine step_append_lies _ (by rfl) _ _ _ (by rfl) (w.heap.size + 1) 3 i0 _ 1 8 Tryd.underlying32 hi hz0 hz1 hz2 rfl (by omega) v1 zs.length (zs.map (Value.int .i64)) (by rfl) ((ho.alloc _).drew) ⟨w1.heap.size, 0, none⟩ 1 1 [.int .i64 s.size] (by rfl) (by rfl) (news_one (by simp)) (one_i64 _) (by omega) (by unfold maxLen; omega) (by omega) (by have := hb.size; simp at this; simp; omega) _ rfl ?_; intro g cap w2 hown2 hgrow2 hat hlt; have hx2 : BoxAt w2 w.heap.size fa fd fn fu fb := (hx1.below ((Below.refl _ _).alloc (Nat.le_refl _) _)).grown hgrow2 (fun e => by have := ho.base _ e; omega))
      | (go_at_call 15; refine (WD _ _ _ (rowO hown2)).mono ?_; rintro e w3 ⟨rfl, hb3⟩; have hx3 : BoxAt w3 w.heap.size fa fd fn fu fb := hx2.below ⟨hb3.os, hb3.tape, hb3.output, hb3.size, hb3.block⟩)
      | fail))
  all_goals
    have bw1 : Below w.heap.size w w1 := below_grow hb (by repeat (first | exact Below.refl _ _ | refine Below.drew ?_ | refine Below.alloc ?_ (by first | (simp; done) | (simp; omega)) _))
    have bw2 : Below w.heap.size w w2 := by
      first
        | exact bw1.grown hgrow2 bw1.size (fun k hk => by have := ho.base k hk; omega)
        | exact (bw1.alloc bw1.size _).grown hgrow2 (by have := bw1.size; simp; omega) (fun k hk => by have := ho.base k hk; omega)
    have bw3 := bw2.trans (hb3.mono bw2.size)
    clear hb hgrow2 hb3 bw1 bw2 hx1 hx2 hx3 hat hlt hown2 ho
    go_wp2
    go_ret
    exact ⟨rfl, bw3⟩

/-- What WidestLine answers. -/
def wlB (fa fd fn fu fb : Int) (s : ByteArray) : Bool := fontB fa fd fn fu fb && okB false s
def wlN (fa fd fn fu fb : Int) (s : ByteArray) : Int := if wlB fa fd fn fu fb s then widestK (Wd fn fu fb) s (endsF s) (endsF s).length else 0
theorem wl_no {fa fd fn fu fb : Int} {s : ByteArray} (h : wlB fa fd fn fu fb s = false) : Value.tuple #[.int .i64 0, .bool false] = .tuple #[.int .i64 (wlN fa fd fn fu fb s), .bool (wlB fa fd fn fu fb s)] := by simp [wlN, h]
theorem wl_yes {fa fd fn fu fb : Int} {s : ByteArray} (h : wlB fa fd fn fu fb s = true) : Value.tuple #[.int .i64 (widestK (Wd fn fu fb) s (endsF s) (endsF s).length), .bool true] = .tuple #[.int .i64 (wlN fa fd fn fu fb s), .bool (wlB fa fd fn fu fb s)] := by simp [wlN, h]

set_option maxHeartbeats 4000000 in
theorem specWidestLine_any (fa fd fn fu fb : Int) (s : ByteArray) (w : World) (hs : s.size ≤ maxLen) :
    Calls Tryd.prog 4 #[.agg #[.int .i64 fa, .int .i64 fd, .int .i64 fn, .int .i64 fu, .int .i64 fb], .string s] w fun e w' => e = .returned (.tuple #[.int .i64 (wlN fa fd fn fu fb s), .bool (wlB fa fd fn fu fb s)]) ∧ Below w.heap.size w w' := by
  have PL := fun w => specText_any false s w hs
  unfold maxLen at hs
  cases hF : fontB fa fd fn fu fb
  · have HV : Hid (_ = _) := wl_no (fa := fa) (fd := fd) (fn := fn) (fu := fu) (fb := fb) (s := s) (by simp [wlB, hF])
    go_enter Tryd.func4, Tryd.ntmps4
    go_wp2_with (go_at_call 7; refine (specGood_any _ _ _ _ _ _).mono ?_; rintro e w1 ⟨rfl, hb1⟩)
    go_ret2
    exact ⟨congrArg Ending.returned HV.out, ((Below.refl _ _).alloc (Nat.le_refl _) _).trans (hb1.mono (by simp))⟩
  cases hT : okB false s
  · have HV : Hid (_ = _) := wl_no (fa := fa) (fd := fd) (fn := fn) (fu := fu) (fb := fb) (s := s) (by simp [wlB, hT])
    rw [hT] at PL
    go_enter Tryd.func4, Tryd.ntmps4
    go_wp2_with (first | (go_at_call 7; refine (specGood_any _ _ _ _ _ _).mono ?_; rintro e w1 ⟨rfl, hb1⟩) | (go_at_call 8; refine (PL _).mono ?_; rintro e w' ⟨rfl, rfl⟩))
    go_ret2
    exact ⟨congrArg Ending.returned HV.out, ((Below.refl _ _).alloc (Nat.le_refl _) _).trans (hb1.mono (by simp))⟩
  · have HV : Hid (_ = _) := wl_yes (fa := fa) (fd := fd) (fn := fn) (fu := fu) (fb := fb) (s := s) (by simp [wlB, hF, hT])
    have hg := fontB_yes hF
    have LN := fun w => specLine_any fa fd fn fu fb s w (okB_yes hT).1 (by omega)
    rw [hT] at PL
    clear hg hT
    go_enter Tryd.func4, Tryd.ntmps4
    go_wp2_with (first | (go_at_call 7; refine (specGood_any _ _ _ _ _ _).mono ?_; rintro e w1 ⟨rfl, hb1⟩; have hc := fun o => hb1.cell (p := ⟨w.heap.size, o, none⟩) (by simp)) | (go_at_call 8; refine (PL _).mono ?_; rintro e w' ⟨rfl, rfl⟩) | (go_at_call 9; refine (LN _).mono ?_; rintro e w2 ⟨rfl, hb2⟩))
    go_ret2
    exact ⟨congrArg Ending.returned HV.out, (((Below.refl _ _).alloc (Nat.le_refl _) _).trans (hb1.mono (by simp))).trans (hb2.mono (by have := hb1.size; simp at this; omega))⟩
end Go.Proofs.YtllkbokkhdomoabDoorRR
