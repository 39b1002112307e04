/-
  PlaceFloat of the program, for every row of floats and every numbers.
-/
import Derived.Test.YtngbkcihdbnlgaaAfI
import Derived.Test.YtngbkcihdbnlgaaAfS
namespace Go.Proofs.Ytngbkcihdbnlgaa
open Go.ChangeShapes Go.WideShapes Go.ChangeAt Go.RowKit
set_option linter.unusedVariables false

def placeOkI (l : List Asd) (side wide high y left right : Int) : Bool := placeOk l side wide high y left right && goodA (putF l side wide high y left right)
def placeRI (l : List Asd) (side wide high y left right : Int) : Asd := if placeOkI l side wide high y left right then putF l side wide high y left right else as0
theorem goodA_new (side wide high y : Int) : goodA ⟨side, 0, y, wide, high⟩ = ((decide (side = 1) || decide (side = 2)) && extB wide && extB high && nearB y) := by
  unfold goodA sideB
  rw [show nearB (⟨side, 0, y, wide, high⟩ : Asd).x = true from rfl, Bool.and_true]
theorem five_facts {w : World} {g : Nat} {a b c d e : Value} {t : TypeId} {fr : Nat × Nat} (h : w.heap[g]? = some (.cells #[a, b, c, d, e] t fr)) : w.cell? ⟨g, 0, none⟩ = some a ∧ w.cell? ⟨g, 1, none⟩ = some b ∧ w.cell? ⟨g, 2, none⟩ = some c ∧ w.cell? ⟨g, 3, none⟩ = some d ∧ w.cell? ⟨g, 4, none⟩ = some e :=
  ⟨cell_at h 0 rfl, cell_at h 1 rfl, cell_at h 2 rfl, cell_at h 3 rfl, cell_at h 4 rfl⟩
set_option maxHeartbeats 16000000 in
theorem implPlace_any (a : Option Addr) (n cap : Nat) (l : List Asd) (side wide high y left right : Int) (w : World) (ha : Handed a n cap) (hn : n = l.length) (hr : AsRow w a l) (hl : n ≤ 1048576) :
    Calls Try.prog 10 #[.slice a n cap, .int .i64 side, .int .i64 wide, .int .i64 high, .int .i64 y, .int .i64 left, .int .i64 right] w fun e w' => e = .returned (.tuple #[.agg (asC (placeRI l side wide high y left right)), .bool (placeOkI l side wide high y left right)]) ∧ Below w.heap.size w w' := by
  have l0 : ((w.alloc (.cells #[.int .i64 0, .int .i64 0, .int .i64 0, .int .i64 0, .int .i64 0] 27)).alloc (.cells #[.int .i64 side, .int .i64 0, .int .i64 y, .int .i64 wide, .int .i64 high] 27)).heap[w.heap.size]? = some (.cells #[.int .i64 0, .int .i64 0, .int .i64 0, .int .i64 0, .int .i64 0] 27 (0, 0)) := heap_in (heap_alloc_new w _)
  have a0 : ((w.alloc (.cells #[.int .i64 0, .int .i64 0, .int .i64 0, .int .i64 0, .int .i64 0] 27)).alloc (.cells #[.int .i64 side, .int .i64 0, .int .i64 y, .int .i64 wide, .int .i64 high] 27)).heap[w.heap.size + 1]? = some (.cells #[.int .i64 side, .int .i64 0, .int .i64 y, .int .i64 wide, .int .i64 high] 27 (0, 0)) := heap_at _ _ _ (by simp)
  have hb0 : Below w.heap.size w ((w.alloc (.cells #[.int .i64 0, .int .i64 0, .int .i64 0, .int .i64 0, .int .i64 0] 27)).alloc (.cells #[.int .i64 side, .int .i64 0, .int .i64 y, .int .i64 wide, .int .i64 high] 27)) := ((Below.refl _ _).alloc (Nat.le_refl _) _).alloc (by simp) _
  have G := implGoodF_any a n cap l ((w.alloc (.cells #[.int .i64 0, .int .i64 0, .int .i64 0, .int .i64 0, .int .i64 0] 27)).alloc (.cells #[.int .i64 side, .int .i64 0, .int .i64 y, .int .i64 wide, .int .i64 high] 27)) hn (hr.below hb0) hl
  have GA := fun W => isGoodFloat_any ⟨side, 0, y, wide, high⟩ W
  have HN : Hid (n = l.length) := hn
  have HR : Hid (AsRow w a l) := hr
  have HA : Hid (Handed a n cap) := ha
  have HL0 : Hid (((w.alloc (.cells #[.int .i64 0, .int .i64 0, .int .i64 0, .int .i64 0, .int .i64 0] 27)).alloc (.cells #[.int .i64 side, .int .i64 0, .int .i64 y, .int .i64 wide, .int .i64 high] 27)).heap[w.heap.size]? = some (.cells #[.int .i64 0, .int .i64 0, .int .i64 0, .int .i64 0, .int .i64 0] 27 (0, 0))) := l0
  have HA0 : Hid (((w.alloc (.cells #[.int .i64 0, .int .i64 0, .int .i64 0, .int .i64 0, .int .i64 0] 27)).alloc (.cells #[.int .i64 side, .int .i64 0, .int .i64 y, .int .i64 wide, .int .i64 high] 27)).heap[w.heap.size + 1]? = some (.cells #[.int .i64 side, .int .i64 0, .int .i64 y, .int .i64 wide, .int .i64 high] 27 (0, 0))) := a0
  have HB0 : Hid (Below w.heap.size w ((w.alloc (.cells #[.int .i64 0, .int .i64 0, .int .i64 0, .int .i64 0, .int .i64 0] 27)).alloc (.cells #[.int .i64 side, .int .i64 0, .int .i64 y, .int .i64 wide, .int .i64 high] 27))) := hb0
  have HP : Hid (placeOkI l side wide high y left right = (placeOk l side wide high y left right && goodA (putF l side wide high y left right))) := rfl
  have HQ : Hid (placeOk l side wide high y left right = (goodF l && !decide (l.length = 40) && goodA ⟨side, 0, y, wide, high⟩ && nearB left && nearB right)) := by
    show placeOk l side wide high y left right = _
    rw [goodA_new]
    unfold placeOk
    cases goodF l <;> cases (decide (l.length = 40)) <;> cases (decide (side = 1) || decide (side = 2)) <;> cases extB wide <;> cases extB high <;> cases nearB y <;> rfl
  have HRR : Hid (placeRI l side wide high y left right = if placeOkI l side wide high y left right then putF l side wide high y left right else as0) := rfl
  clear hn hr l0 hb0 a0 ha
  rcases Bool.eq_false_or_eq_true (goodF l) with hg | hg
  rotate_left
  · have HO : Hid (placeOkI l side wide high y left right = false) := by show placeOkI l side wide high y left right = false; rw [HP.out, HQ.out]; simp [hg]
    clear HP HQ
    clear GA
    go_enter Try.func10, Try.ntmps10
    go_wp2_with fail
    refine G.mono ?_
    rintro e w1 ⟨rfl, c1⟩
    rw [hg]
    have b1 := HB0.out.trans (c1.mono HB0.out.size)
    have l1 := below_lies c1 HL0.out (lies_lt HL0.out)
    have a1 := below_lies c1 HA0.out (lies_lt HA0.out)
    clear G c1 HB0 HL0 HA0
    clear a1
    go_wp2_with ((with_reducible show wpList _ _ _ (⟨none, Op.store 27 (Operand.tmp 14) (Operand.tmp 45), _, _, _, _⟩ :: _) _ _); refine wpList_putA rfl _ _ _ rfl rfl w.heap.size 0 5 [.int .i64 0, .int .i64 0, .int .i64 0, .int .i64 0, .int .i64 0] #[.int .i64 0, .int .i64 0, .int .i64 0, .int .i64 0, .int .i64 0] 27 rfl (by go_simp) l1 rfl (by kernel_rfl) (by kernel_rfl) (by kernel_rfl) ?_; intro w9 p9 l9 n9)
    exact bodyPost_ret (v := .tuple #[.agg (asC (placeRI l side wide high y left right)), .bool (placeOkI l side wide high y left right)]) (results_row_tmpA Try.results10 _ _ _ _ (asC (placeRI l side wide high y left right)) _ _ _ rfl (l9.trans (congrArg (fun c => some (Obj.cells c 27 (0, 0))) (by rw [HRR.out, HO.out]; rfl))) Try.underlying27 rfl (by kernel_rfl) (by rw [HO.out]; rfl)) rfl ⟨rfl, p9.below b1 (Nat.le_refl _)⟩
  have h40 : n ≤ 40 := by rw [HN.out]; exact goodF_len hg
  by_cases h41 : n = 40
  · subst h41
    have h40b : l.length = 40 := HN.out.symm
    have HO : Hid (placeOkI l side wide high y left right = false) := by show placeOkI l side wide high y left right = false; rw [HP.out, HQ.out]; simp [h40b]
    clear HP HQ
    clear h40b GA
    go_enter Try.func10, Try.ntmps10
    go_wp2_with fail
    refine G.mono ?_
    rintro e w1 ⟨rfl, c1⟩
    rw [hg]
    have b1 := HB0.out.trans (c1.mono HB0.out.size)
    have l1 := below_lies c1 HL0.out (lies_lt HL0.out)
    have a1 := below_lies c1 HA0.out (lies_lt HA0.out)
    clear G c1 HB0 HL0 HA0
    clear a1
    go_wp2_with ((with_reducible show wpList _ _ _ (⟨none, Op.store 27 (Operand.tmp 14) (Operand.tmp 45), _, _, _, _⟩ :: _) _ _); refine wpList_putA rfl _ _ _ rfl rfl w.heap.size 0 5 [.int .i64 0, .int .i64 0, .int .i64 0, .int .i64 0, .int .i64 0] #[.int .i64 0, .int .i64 0, .int .i64 0, .int .i64 0, .int .i64 0] 27 rfl (by go_simp) l1 rfl (by kernel_rfl) (by kernel_rfl) (by kernel_rfl) ?_; intro w9 p9 l9 n9)
    exact bodyPost_ret (v := .tuple #[.agg (asC (placeRI l side wide high y left right)), .bool (placeOkI l side wide high y left right)]) (results_row_tmpA Try.results10 _ _ _ _ (asC (placeRI l side wide high y left right)) _ _ _ rfl (l9.trans (congrArg (fun c => some (Obj.cells c 27 (0, 0))) (by rw [HRR.out, HO.out]; rfl))) Try.underlying27 rfl (by kernel_rfl) (by rw [HO.out]; rfl)) rfl ⟨rfl, p9.below b1 (Nat.le_refl _)⟩
  have h40b : ¬ l.length = 40 := by rw [← HN.out]; exact h41
  have h42 : ¬ (40 ≤ (n : Int)) := by omega
  clear h41
  rcases Bool.eq_false_or_eq_true (goodA ⟨side, 0, y, wide, high⟩) with hs | hs
  rotate_left
  · have HO : Hid (placeOkI l side wide high y left right = false) := by show placeOkI l side wide high y left right = false; rw [HP.out, HQ.out]; simp [hs]
    clear HP HQ
    clear h40b
    go_enter Try.func10, Try.ntmps10
    go_wp2_with fail
    refine G.mono ?_
    rintro e w1 ⟨rfl, c1⟩
    rw [hg]
    have b1 := HB0.out.trans (c1.mono HB0.out.size)
    have l1 := below_lies c1 HL0.out (lies_lt HL0.out)
    have a1 := below_lies c1 HA0.out (lies_lt HA0.out)
    clear G c1 HB0 HL0 HA0
    obtain ⟨f0, f1, f2, f3, f4⟩ := five_facts a1
    go_wp2_with fail
    refine (GA _).mono ?_
    rintro e w2 ⟨rfl, c2⟩
    rw [hs]
    have b2 := b1.trans (c2.mono b1.size)
    have l2 := below_lies c2 l1 (lies_lt l1)
    have a2 := below_lies c2 a1 (lies_lt a1)
    clear GA c2 b1 l1 a1 f0 f1 f2 f3 f4
    clear a2
    go_wp2_with ((with_reducible show wpList _ _ _ (⟨none, Op.store 27 (Operand.tmp 14) (Operand.tmp 45), _, _, _, _⟩ :: _) _ _); refine wpList_putA rfl _ _ _ rfl rfl w.heap.size 0 5 [.int .i64 0, .int .i64 0, .int .i64 0, .int .i64 0, .int .i64 0] #[.int .i64 0, .int .i64 0, .int .i64 0, .int .i64 0, .int .i64 0] 27 rfl (by go_simp) l2 rfl (by kernel_rfl) (by kernel_rfl) (by kernel_rfl) ?_; intro w9 p9 l9 n9)
    exact bodyPost_ret (v := .tuple #[.agg (asC (placeRI l side wide high y left right)), .bool (placeOkI l side wide high y left right)]) (results_row_tmpA Try.results10 _ _ _ _ (asC (placeRI l side wide high y left right)) _ _ _ rfl (l9.trans (congrArg (fun c => some (Obj.cells c 27 (0, 0))) (by rw [HRR.out, HO.out]; rfl))) Try.underlying27 rfl (by kernel_rfl) (by rw [HO.out]; rfl)) rfl ⟨rfl, p9.below b2 (Nat.le_refl _)⟩
  rcases Bool.eq_false_or_eq_true (nearB left) with t3 | t3
  rotate_left
  · have HO : Hid (placeOkI l side wide high y left right = false) := by show placeOkI l side wide high y left right = false; rw [HP.out, HQ.out]; simp [t3]
    clear HP HQ
    clear h40b
    go_enter Try.func10, Try.ntmps10
    go_wp2_with fail
    refine G.mono ?_
    rintro e w1 ⟨rfl, c1⟩
    rw [hg]
    have b1 := HB0.out.trans (c1.mono HB0.out.size)
    have l1 := below_lies c1 HL0.out (lies_lt HL0.out)
    have a1 := below_lies c1 HA0.out (lies_lt HA0.out)
    clear G c1 HB0 HL0 HA0
    obtain ⟨f0, f1, f2, f3, f4⟩ := five_facts a1
    go_wp2_with fail
    refine (GA _).mono ?_
    rintro e w2 ⟨rfl, c2⟩
    rw [hs]
    have b2 := b1.trans (c2.mono b1.size)
    have l2 := below_lies c2 l1 (lies_lt l1)
    have a2 := below_lies c2 a1 (lies_lt a1)
    clear GA c2 b1 l1 a1 f0 f1 f2 f3 f4
    go_wp2_with fail
    refine (isNear_any left _).mono ?_
    rintro e w' ⟨rfl, hw'⟩
    have hw' := hw'.symm
    subst hw'
    rw [t3]
    clear a2
    go_wp2_with ((with_reducible show wpList _ _ _ (⟨none, Op.store 27 (Operand.tmp 14) (Operand.tmp 45), _, _, _, _⟩ :: _) _ _); refine wpList_putA rfl _ _ _ rfl rfl w.heap.size 0 5 [.int .i64 0, .int .i64 0, .int .i64 0, .int .i64 0, .int .i64 0] #[.int .i64 0, .int .i64 0, .int .i64 0, .int .i64 0, .int .i64 0] 27 rfl (by go_simp) l2 rfl (by kernel_rfl) (by kernel_rfl) (by kernel_rfl) ?_; intro w9 p9 l9 n9)
    exact bodyPost_ret (v := .tuple #[.agg (asC (placeRI l side wide high y left right)), .bool (placeOkI l side wide high y left right)]) (results_row_tmpA Try.results10 _ _ _ _ (asC (placeRI l side wide high y left right)) _ _ _ rfl (l9.trans (congrArg (fun c => some (Obj.cells c 27 (0, 0))) (by rw [HRR.out, HO.out]; rfl))) Try.underlying27 rfl (by kernel_rfl) (by rw [HO.out]; rfl)) rfl ⟨rfl, p9.below b2 (Nat.le_refl _)⟩
  rcases Bool.eq_false_or_eq_true (nearB right) with t4 | t4
  rotate_left
  · have HO : Hid (placeOkI l side wide high y left right = false) := by show placeOkI l side wide high y left right = false; rw [HP.out, HQ.out]; simp [t4]
    clear HP HQ
    clear h40b
    go_enter Try.func10, Try.ntmps10
    go_wp2_with fail
    refine G.mono ?_
    rintro e w1 ⟨rfl, c1⟩
    rw [hg]
    have b1 := HB0.out.trans (c1.mono HB0.out.size)
    have l1 := below_lies c1 HL0.out (lies_lt HL0.out)
    have a1 := below_lies c1 HA0.out (lies_lt HA0.out)
    clear G c1 HB0 HL0 HA0
    obtain ⟨f0, f1, f2, f3, f4⟩ := five_facts a1
    go_wp2_with fail
    refine (GA _).mono ?_
    rintro e w2 ⟨rfl, c2⟩
    rw [hs]
    have b2 := b1.trans (c2.mono b1.size)
    have l2 := below_lies c2 l1 (lies_lt l1)
    have a2 := below_lies c2 a1 (lies_lt a1)
    clear GA c2 b1 l1 a1 f0 f1 f2 f3 f4
    go_wp2_with fail
    refine (isNear_any left _).mono ?_
    rintro e w' ⟨rfl, hw'⟩
    have hw' := hw'.symm
    subst hw'
    rw [t3]
    go_wp2_with fail
    refine (isNear_any right _).mono ?_
    rintro e w' ⟨rfl, hw'⟩
    have hw' := hw'.symm
    subst hw'
    rw [t4]
    clear a2
    go_wp2_with ((with_reducible show wpList _ _ _ (⟨none, Op.store 27 (Operand.tmp 14) (Operand.tmp 45), _, _, _, _⟩ :: _) _ _); refine wpList_putA rfl _ _ _ rfl rfl w.heap.size 0 5 [.int .i64 0, .int .i64 0, .int .i64 0, .int .i64 0, .int .i64 0] #[.int .i64 0, .int .i64 0, .int .i64 0, .int .i64 0, .int .i64 0] 27 rfl (by go_simp) l2 rfl (by kernel_rfl) (by kernel_rfl) (by kernel_rfl) ?_; intro w9 p9 l9 n9)
    exact bodyPost_ret (v := .tuple #[.agg (asC (placeRI l side wide high y left right)), .bool (placeOkI l side wide high y left right)]) (results_row_tmpA Try.results10 _ _ _ _ (asC (placeRI l side wide high y left right)) _ _ _ rfl (l9.trans (congrArg (fun c => some (Obj.cells c 27 (0, 0))) (by rw [HRR.out, HO.out]; rfl))) Try.underlying27 rfl (by kernel_rfl) (by rw [HO.out]; rfl)) rfl ⟨rfl, p9.below b2 (Nat.le_refl _)⟩
  have HOK : Hid (placeOk l side wide high y left right = true) := by show placeOk l side wide high y left right = true; rw [HQ.out]; simp [hg, h40b, hs, t3, t4]
  have GX : Hid (∀ x ∈ l, goodA x = true) := fun x hm => goodF_mem hg hm
  have HO3 : Hid (placeOkI l side wide high y left right = goodA (putF l side wide high y left right)) := by show placeOkI l side wide high y left right = _; rw [HP.out, HOK.out, Bool.true_and]
  have HR3 : Hid (placeRI l side wide high y left right = if goodA (putF l side wide high y left right) then putF l side wide high y left right else as0) := by show placeRI l side wide high y left right = _; rw [HRR.out, HO3.out]
  clear HP HQ HRR h40b
  go_enter Try.func10, Try.ntmps10
  go_wp2_with fail
  refine G.mono ?_
  rintro e w1 ⟨rfl, c1⟩
  rw [hg]
  have b1 := HB0.out.trans (c1.mono HB0.out.size)
  have l1 := below_lies c1 HL0.out (lies_lt HL0.out)
  have a1 := below_lies c1 HA0.out (lies_lt HA0.out)
  clear G c1 HB0 HL0 HA0
  obtain ⟨f0, f1, f2, f3, f4⟩ := five_facts a1
  go_wp2_with fail
  refine (GA _).mono ?_
  rintro e w2 ⟨rfl, c2⟩
  rw [hs]
  have b2 := b1.trans (c2.mono b1.size)
  have l2 := below_lies c2 l1 (lies_lt l1)
  have a2 := below_lies c2 a1 (lies_lt a1)
  clear GA c2 b1 l1 a1 f0 f1 f2 f3 f4
  go_wp2_with fail
  refine (isNear_any left _).mono ?_
  rintro e w' ⟨rfl, hw'⟩
  have hw' := hw'.symm
  subst hw'
  rw [t3]
  go_wp2_with fail
  refine (isNear_any right _).mono ?_
  rintro e w' ⟨rfl, hw'⟩
  have hw' := hw'.symm
  subst hw'
  rw [t4]
  have e3 := inB_yes t3
  have e4 := inB_yes t4
  obtain ⟨es, ew, eh, _, ey⟩ := goodA_parts hs
  obtain ⟨f0, f1, f2, f3, f4⟩ := five_facts a2
  have PL := placed_any a n cap l ⟨side, 0, y, wide, high⟩ left right w2 HA.out HN.out (HR.out.below b2) (by omega) GX.out ew.1 ew.2 eh.1 eh.2 ey.1 ey.2 (by omega) (by omega) (by omega) (by omega)
  have PL' : Calls Try.prog 32 #[.slice a n cap, .agg #[.int .i64 side, .int .i64 0, .int .i64 y, .int .i64 wide, .int .i64 high], .int .i64 left, .int .i64 right] w2 fun e w' => e = .returned (.agg (asC (putF l side wide high y left right))) ∧ Below w2.heap.size w2 w' := PL
  generalize putF l side wide high y left right = X at HR3 HO3 PL'
  clear PL es ew eh ey hs
  go_wp2_with fail
  refine PL'.mono ?_
  rintro e w3 ⟨rfl, c3⟩
  have b3 := b2.trans (c3.mono b2.size)
  have l3 := below_lies c3 l2 (lies_lt l2)
  have a3 := below_lies c3 a2 (lies_lt a2)
  clear c3 b2 l2 a2 f0 f1 f2 f3 f4 PL'
  go_wp2_with ((with_reducible show wpList _ _ _ (⟨none, Op.store 27 (Operand.tmp 16) (Operand.tmp 50), _, _, _, _⟩ :: _) _ _); refine wpList_putA rfl _ _ _ rfl rfl (w.heap.size + 1) 0 5 (asC X).toList #[.int .i64 side, .int .i64 0, .int .i64 y, .int .i64 wide, .int .i64 high] 27 rfl rfl a3 rfl (by kernel_rfl) (by kernel_rfl) (by kernel_rfl) ?_; intro w4 p4 a4 n4; have a4' : w4.heap[w.heap.size + 1]? = some (.cells #[.int .i64 X.sd, .int .i64 X.x, .int .i64 X.y, .int .i64 X.w, .int .i64 X.h] 27 (0, 0)) := a4; obtain ⟨f0, f1, f2, f3, f4⟩ := five_facts a4')
  refine (isGoodFloat_any X _).mono ?_
  rintro e w5 ⟨rfl, c5⟩
  have b4 : Below w.heap.size w w4 := p4.below b3 (by omega)
  have l4 : w4.heap[w.heap.size]? = some (.cells #[.int .i64 0, .int .i64 0, .int .i64 0, .int .i64 0, .int .i64 0] 27 (0, 0)) := p4.lies l3 (by omega)
  have b5 := b4.trans (c5.mono b4.size)
  have l5 := below_lies c5 l4 (lies_lt l4)
  have a5 := below_lies c5 a4' (lies_lt a4')
  clear f0 f1 f2 f3 f4 c5 b4 l4 a4 a4' p4 n4 b3 l3 a3
  rcases Bool.eq_false_or_eq_true (goodA X) with hX | hX
  rotate_left
  · rw [hX]
    have HO : Hid (placeOkI l side wide high y left right = false) := by show placeOkI l side wide high y left right = false; rw [HO3.out, hX]
    have HRR : Hid (placeRI l side wide high y left right = as0) := by show placeRI l side wide high y left right = as0; rw [HR3.out, hX]; rfl
    clear a5 hX HO3 HR3
    go_wp2_with ((with_reducible show wpList _ _ _ (⟨none, Op.store 27 (Operand.tmp 14) (Operand.tmp 54), _, _, _, _⟩ :: _) _ _); refine wpList_putA rfl _ _ _ rfl rfl w.heap.size 0 5 [.int .i64 0, .int .i64 0, .int .i64 0, .int .i64 0, .int .i64 0] #[.int .i64 0, .int .i64 0, .int .i64 0, .int .i64 0, .int .i64 0] 27 rfl (by go_simp) l5 rfl (by kernel_rfl) (by kernel_rfl) (by kernel_rfl) ?_; intro w9 p9 l9 n9)
    exact bodyPost_ret (v := .tuple #[.agg (asC (placeRI l side wide high y left right)), .bool (placeOkI l side wide high y left right)]) (results_row_tmpA Try.results10 _ _ _ _ (asC (placeRI l side wide high y left right)) _ _ _ rfl (l9.trans (congrArg (fun c => some (Obj.cells c 27 (0, 0))) (by rw [HRR.out]; rfl))) Try.underlying27 rfl (by kernel_rfl) (by rw [HO.out]; rfl)) rfl ⟨rfl, p9.below b5 (Nat.le_refl _)⟩
  rw [hX]
  have HO : Hid (placeOkI l side wide high y left right = true) := by show placeOkI l side wide high y left right = true; rw [HO3.out, hX]
  have HRR : Hid (placeRI l side wide high y left right = X) := by show placeRI l side wide high y left right = X; rw [HR3.out, hX]; rfl
  obtain ⟨f0, f1, f2, f3, f4⟩ := five_facts a5
  clear hX HO3 HR3
  go_wp2_with ((with_reducible show wpList _ _ _ (⟨none, Op.store 27 (Operand.tmp 14) (Operand.tmp 55), _, _, _, _⟩ :: _) _ _); refine wpList_putA rfl _ _ _ rfl rfl w.heap.size 0 5 [.int .i64 X.sd, .int .i64 X.x, .int .i64 X.y, .int .i64 X.w, .int .i64 X.h] #[.int .i64 0, .int .i64 0, .int .i64 0, .int .i64 0, .int .i64 0] 27 rfl (by go_simp) l5 rfl (by kernel_rfl) (by kernel_rfl) (by kernel_rfl) ?_; intro w9 p9 l9 n9)
  exact bodyPost_ret (v := .tuple #[.agg (asC (placeRI l side wide high y left right)), .bool (placeOkI l side wide high y left right)]) (results_row_tmpA Try.results10 _ _ _ _ (asC (placeRI l side wide high y left right)) _ _ _ rfl (l9.trans (congrArg (fun c => some (Obj.cells c 27 (0, 0))) (by rw [HRR.out]; rfl))) Try.underlying27 rfl (by kernel_rfl) (by rw [HO.out]; rfl)) rfl ⟨rfl, p9.below b5 (Nat.le_refl _)⟩
end Go.Proofs.Ytngbkcihdbnlgaa
