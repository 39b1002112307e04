/-
  PlaceFloat of the model, for every row of floats and every numbers.
-/
import Derived.Test.YtngbkcihdbnlgaaAfL
namespace Go.Proofs.Ytngbkcihdbnlgaa
open Go.ChangeShapes Go.WideShapes Go.ChangeAt Go.RowKit
set_option linter.unusedVariables false

def placeOk (l : List Asd) (side wide high y left right : Int) : Bool := goodF l && !decide (l.length = 40) && (decide (side = 1) || decide (side = 2)) && extB wide && extB high && nearB y && nearB left && nearB right
def placeR (l : List Asd) (side wide high y left right : Int) : Asd := if placeOk l side wide high y left right then putF l side wide high y left right else as0
set_option maxHeartbeats 16000000 in
theorem specPlace_any (a : Option Addr) (n cap : Nat) (l : List Asd) (side wide high y left right : Int) (w : World) (hn : n = l.length) (hr : AsRow w a l) (hl : n ≤ 1048576) :
    Calls Try.prog 11 #[.slice a n cap, .int .i64 side, .int .i64 wide, .int .i64 high, .int .i64 y, .int .i64 left, .int .i64 right] w fun e w' => e = .returned (.tuple #[.agg (asC (placeR l side wide high y left right)), .bool (placeOk l side wide high y left right)]) ∧ Below w.heap.size w w' := by
  have l0 : (w.alloc (.cells #[.int .i64 0, .int .i64 0, .int .i64 0, .int .i64 0, .int .i64 0] 27)).heap[w.heap.size]? = some (.cells #[.int .i64 0, .int .i64 0, .int .i64 0, .int .i64 0, .int .i64 0] 27 (0, 0)) := heap_alloc_new w _
  have hb0 : Below w.heap.size w (w.alloc (.cells #[.int .i64 0, .int .i64 0, .int .i64 0, .int .i64 0, .int .i64 0] 27)) := (Below.refl _ _).alloc (Nat.le_refl _) _
  have G := specGoodF_any a n cap l (w.alloc (.cells #[.int .i64 0, .int .i64 0, .int .i64 0, .int .i64 0, .int .i64 0] 27)) hn (hr.below hb0) hl
  have HN : Hid (n = l.length) := hn
  have HR : Hid (AsRow w a l) := hr
  have HL0 : Hid ((w.alloc (.cells #[.int .i64 0, .int .i64 0, .int .i64 0, .int .i64 0, .int .i64 0] 27)).heap[w.heap.size]? = some (.cells #[.int .i64 0, .int .i64 0, .int .i64 0, .int .i64 0, .int .i64 0] 27 (0, 0))) := l0
  have HB0 : Hid (Below w.heap.size w (w.alloc (.cells #[.int .i64 0, .int .i64 0, .int .i64 0, .int .i64 0, .int .i64 0] 27))) := hb0
  have HP : Hid (placeOk l side wide high y left right = (goodF l && !decide (l.length = 40) && (decide (side = 1) || decide (side = 2)) && extB wide && extB high && nearB y && nearB left && nearB right)) := rfl
  have HRR : Hid (placeR l side wide high y left right = if placeOk l side wide high y left right then putF l side wide high y left right else as0) := rfl
  clear hn hr l0 hb0
  rcases Bool.eq_false_or_eq_true (goodF l) with hg | hg
  rotate_left
  · have HO : Hid (placeOk l side wide high y left right = false) := by show placeOk l side wide high y left right = false; rw [HP.out]; simp [hg]
    clear HP
    go_enter Try.func11, Try.ntmps11
    go_wp2_with fail
    refine G.mono ?_
    rintro e w1 ⟨rfl, c1⟩
    rw [hg]
    have b1 := HB0.out.trans (c1.mono HB0.out.size)
    have l1 := below_lies c1 HL0.out (lies_lt HL0.out)
    clear G c1 HB0 HL0
    go_wp2_with ((with_reducible show wpList _ _ _ (⟨none, Op.store 27 (Operand.tmp 14) (Operand.tmp 57), _, _, _, _⟩ :: _) _ _); refine wpList_putA rfl _ _ _ rfl rfl w.heap.size 0 5 [.int .i64 0, .int .i64 0, .int .i64 0, .int .i64 0, .int .i64 0] #[.int .i64 0, .int .i64 0, .int .i64 0, .int .i64 0, .int .i64 0] 27 rfl (by go_simp) l1 rfl (by kernel_rfl) (by kernel_rfl) (by kernel_rfl) ?_; intro w9 p9 l9 n9)
    exact bodyPost_ret (v := .tuple #[.agg (asC (placeR l side wide high y left right)), .bool (placeOk l side wide high y left right)]) (results_row_tmpA Try.results11 _ _ _ _ (asC (placeR l side wide high y left right)) _ _ _ rfl (l9.trans (congrArg (fun c => some (Obj.cells c 27 (0, 0))) (by rw [HRR.out, HO.out]; rfl))) Try.underlying27 rfl (by kernel_rfl) (by rw [HO.out]; rfl)) rfl ⟨rfl, p9.below b1 (Nat.le_refl _)⟩
  by_cases h40 : n = 40
  · subst h40
    have h40b : l.length = 40 := HN.out.symm
    have HO : Hid (placeOk l side wide high y left right = false) := by show placeOk l side wide high y left right = false; rw [HP.out]; simp [h40b]
    clear HP
    clear h40b
    go_enter Try.func11, Try.ntmps11
    go_wp2_with fail
    refine G.mono ?_
    rintro e w1 ⟨rfl, c1⟩
    rw [hg]
    have b1 := HB0.out.trans (c1.mono HB0.out.size)
    have l1 := below_lies c1 HL0.out (lies_lt HL0.out)
    clear G c1 HB0 HL0
    go_wp2_with ((with_reducible show wpList _ _ _ (⟨none, Op.store 27 (Operand.tmp 14) (Operand.tmp 57), _, _, _, _⟩ :: _) _ _); refine wpList_putA rfl _ _ _ rfl rfl w.heap.size 0 5 [.int .i64 0, .int .i64 0, .int .i64 0, .int .i64 0, .int .i64 0] #[.int .i64 0, .int .i64 0, .int .i64 0, .int .i64 0, .int .i64 0] 27 rfl (by go_simp) l1 rfl (by kernel_rfl) (by kernel_rfl) (by kernel_rfl) ?_; intro w9 p9 l9 n9)
    exact bodyPost_ret (v := .tuple #[.agg (asC (placeR l side wide high y left right)), .bool (placeOk l side wide high y left right)]) (results_row_tmpA Try.results11 _ _ _ _ (asC (placeR l side wide high y left right)) _ _ _ rfl (l9.trans (congrArg (fun c => some (Obj.cells c 27 (0, 0))) (by rw [HRR.out, HO.out]; rfl))) Try.underlying27 rfl (by kernel_rfl) (by rw [HO.out]; rfl)) rfl ⟨rfl, p9.below b1 (Nat.le_refl _)⟩
  have h40b : ¬ l.length = 40 := by rw [← HN.out]; exact h40
  have h40' : ¬ ((n : Int) = 40) := by omega
  by_cases s1 : side = 1
  · subst s1
    rcases Bool.eq_false_or_eq_true (extB wide) with t0 | t0
    rotate_left
    · have HO : Hid (placeOk l 1 wide high y left right = false) := by show placeOk l 1 wide high y left right = false; rw [HP.out]; simp [t0]
      clear HP
      clear h40b
      go_enter Try.func11, Try.ntmps11
      go_wp2_with fail
      refine G.mono ?_
      rintro e w1 ⟨rfl, c1⟩
      rw [hg]
      have b1 := HB0.out.trans (c1.mono HB0.out.size)
      have l1 := below_lies c1 HL0.out (lies_lt HL0.out)
      clear G c1 HB0 HL0
      go_wp2_with fail
      refine (l7Span_any wide _).mono ?_
      rintro e w' ⟨rfl, hw'⟩
      have hw' := hw'.symm
      subst hw'
      rw [t0]
      go_wp2_with ((with_reducible show wpList _ _ _ (⟨none, Op.store 27 (Operand.tmp 14) (Operand.tmp 57), _, _, _, _⟩ :: _) _ _); refine wpList_putA rfl _ _ _ rfl rfl w.heap.size 0 5 [.int .i64 0, .int .i64 0, .int .i64 0, .int .i64 0, .int .i64 0] #[.int .i64 0, .int .i64 0, .int .i64 0, .int .i64 0, .int .i64 0] 27 rfl (by go_simp) l1 rfl (by kernel_rfl) (by kernel_rfl) (by kernel_rfl) ?_; intro w9 p9 l9 n9)
      exact bodyPost_ret (v := .tuple #[.agg (asC (placeR l 1 wide high y left right)), .bool (placeOk l 1 wide high y left right)]) (results_row_tmpA Try.results11 _ _ _ _ (asC (placeR l 1 wide high y left right)) _ _ _ rfl (l9.trans (congrArg (fun c => some (Obj.cells c 27 (0, 0))) (by rw [HRR.out, HO.out]; rfl))) Try.underlying27 rfl (by kernel_rfl) (by rw [HO.out]; rfl)) rfl ⟨rfl, p9.below b1 (Nat.le_refl _)⟩
    rcases Bool.eq_false_or_eq_true (extB high) with t1 | t1
    rotate_left
    · have HO : Hid (placeOk l 1 wide high y left right = false) := by show placeOk l 1 wide high y left right = false; rw [HP.out]; simp [t1]
      clear HP
      clear h40b
      go_enter Try.func11, Try.ntmps11
      go_wp2_with fail
      refine G.mono ?_
      rintro e w1 ⟨rfl, c1⟩
      rw [hg]
      have b1 := HB0.out.trans (c1.mono HB0.out.size)
      have l1 := below_lies c1 HL0.out (lies_lt HL0.out)
      clear G c1 HB0 HL0
      go_wp2_with fail
      refine (l7Span_any wide _).mono ?_
      rintro e w' ⟨rfl, hw'⟩
      have hw' := hw'.symm
      subst hw'
      rw [t0]
      go_wp2_with fail
      refine (l7Span_any high _).mono ?_
      rintro e w' ⟨rfl, hw'⟩
      have hw' := hw'.symm
      subst hw'
      rw [t1]
      go_wp2_with ((with_reducible show wpList _ _ _ (⟨none, Op.store 27 (Operand.tmp 14) (Operand.tmp 57), _, _, _, _⟩ :: _) _ _); refine wpList_putA rfl _ _ _ rfl rfl w.heap.size 0 5 [.int .i64 0, .int .i64 0, .int .i64 0, .int .i64 0, .int .i64 0] #[.int .i64 0, .int .i64 0, .int .i64 0, .int .i64 0, .int .i64 0] 27 rfl (by go_simp) l1 rfl (by kernel_rfl) (by kernel_rfl) (by kernel_rfl) ?_; intro w9 p9 l9 n9)
      exact bodyPost_ret (v := .tuple #[.agg (asC (placeR l 1 wide high y left right)), .bool (placeOk l 1 wide high y left right)]) (results_row_tmpA Try.results11 _ _ _ _ (asC (placeR l 1 wide high y left right)) _ _ _ rfl (l9.trans (congrArg (fun c => some (Obj.cells c 27 (0, 0))) (by rw [HRR.out, HO.out]; rfl))) Try.underlying27 rfl (by kernel_rfl) (by rw [HO.out]; rfl)) rfl ⟨rfl, p9.below b1 (Nat.le_refl _)⟩
    rcases Bool.eq_false_or_eq_true (nearB y) with t2 | t2
    rotate_left
    · have HO : Hid (placeOk l 1 wide high y left right = false) := by show placeOk l 1 wide high y left right = false; rw [HP.out]; simp [t2]
      clear HP
      clear h40b
      go_enter Try.func11, Try.ntmps11
      go_wp2_with fail
      refine G.mono ?_
      rintro e w1 ⟨rfl, c1⟩
      rw [hg]
      have b1 := HB0.out.trans (c1.mono HB0.out.size)
      have l1 := below_lies c1 HL0.out (lies_lt HL0.out)
      clear G c1 HB0 HL0
      go_wp2_with fail
      refine (l7Span_any wide _).mono ?_
      rintro e w' ⟨rfl, hw'⟩
      have hw' := hw'.symm
      subst hw'
      rw [t0]
      go_wp2_with fail
      refine (l7Span_any high _).mono ?_
      rintro e w' ⟨rfl, hw'⟩
      have hw' := hw'.symm
      subst hw'
      rw [t1]
      go_wp2_with fail
      refine (l7Place_any y _).mono ?_
      rintro e w' ⟨rfl, hw'⟩
      have hw' := hw'.symm
      subst hw'
      rw [t2]
      go_wp2_with ((with_reducible show wpList _ _ _ (⟨none, Op.store 27 (Operand.tmp 14) (Operand.tmp 57), _, _, _, _⟩ :: _) _ _); refine wpList_putA rfl _ _ _ rfl rfl w.heap.size 0 5 [.int .i64 0, .int .i64 0, .int .i64 0, .int .i64 0, .int .i64 0] #[.int .i64 0, .int .i64 0, .int .i64 0, .int .i64 0, .int .i64 0] 27 rfl (by go_simp) l1 rfl (by kernel_rfl) (by kernel_rfl) (by kernel_rfl) ?_; intro w9 p9 l9 n9)
      exact bodyPost_ret (v := .tuple #[.agg (asC (placeR l 1 wide high y left right)), .bool (placeOk l 1 wide high y left right)]) (results_row_tmpA Try.results11 _ _ _ _ (asC (placeR l 1 wide high y left right)) _ _ _ rfl (l9.trans (congrArg (fun c => some (Obj.cells c 27 (0, 0))) (by rw [HRR.out, HO.out]; rfl))) Try.underlying27 rfl (by kernel_rfl) (by rw [HO.out]; rfl)) rfl ⟨rfl, p9.below b1 (Nat.le_refl _)⟩
    rcases Bool.eq_false_or_eq_true (nearB left) with t3 | t3
    rotate_left
    · have HO : Hid (placeOk l 1 wide high y left right = false) := by show placeOk l 1 wide high y left right = false; rw [HP.out]; simp [t3]
      clear HP
      clear h40b
      go_enter Try.func11, Try.ntmps11
      go_wp2_with fail
      refine G.mono ?_
      rintro e w1 ⟨rfl, c1⟩
      rw [hg]
      have b1 := HB0.out.trans (c1.mono HB0.out.size)
      have l1 := below_lies c1 HL0.out (lies_lt HL0.out)
      clear G c1 HB0 HL0
      go_wp2_with fail
      refine (l7Span_any wide _).mono ?_
      rintro e w' ⟨rfl, hw'⟩
      have hw' := hw'.symm
      subst hw'
      rw [t0]
      go_wp2_with fail
      refine (l7Span_any high _).mono ?_
      rintro e w' ⟨rfl, hw'⟩
      have hw' := hw'.symm
      subst hw'
      rw [t1]
      go_wp2_with fail
      refine (l7Place_any y _).mono ?_
      rintro e w' ⟨rfl, hw'⟩
      have hw' := hw'.symm
      subst hw'
      rw [t2]
      go_wp2_with fail
      refine (l7Place_any left _).mono ?_
      rintro e w' ⟨rfl, hw'⟩
      have hw' := hw'.symm
      subst hw'
      rw [t3]
      go_wp2_with ((with_reducible show wpList _ _ _ (⟨none, Op.store 27 (Operand.tmp 14) (Operand.tmp 57), _, _, _, _⟩ :: _) _ _); refine wpList_putA rfl _ _ _ rfl rfl w.heap.size 0 5 [.int .i64 0, .int .i64 0, .int .i64 0, .int .i64 0, .int .i64 0] #[.int .i64 0, .int .i64 0, .int .i64 0, .int .i64 0, .int .i64 0] 27 rfl (by go_simp) l1 rfl (by kernel_rfl) (by kernel_rfl) (by kernel_rfl) ?_; intro w9 p9 l9 n9)
      exact bodyPost_ret (v := .tuple #[.agg (asC (placeR l 1 wide high y left right)), .bool (placeOk l 1 wide high y left right)]) (results_row_tmpA Try.results11 _ _ _ _ (asC (placeR l 1 wide high y left right)) _ _ _ rfl (l9.trans (congrArg (fun c => some (Obj.cells c 27 (0, 0))) (by rw [HRR.out, HO.out]; rfl))) Try.underlying27 rfl (by kernel_rfl) (by rw [HO.out]; rfl)) rfl ⟨rfl, p9.below b1 (Nat.le_refl _)⟩
    rcases Bool.eq_false_or_eq_true (nearB right) with t4 | t4
    rotate_left
    · have HO : Hid (placeOk l 1 wide high y left right = false) := by show placeOk l 1 wide high y left right = false; rw [HP.out]; simp [t4]
      clear HP
      clear h40b
      go_enter Try.func11, Try.ntmps11
      go_wp2_with fail
      refine G.mono ?_
      rintro e w1 ⟨rfl, c1⟩
      rw [hg]
      have b1 := HB0.out.trans (c1.mono HB0.out.size)
      have l1 := below_lies c1 HL0.out (lies_lt HL0.out)
      clear G c1 HB0 HL0
      go_wp2_with fail
      refine (l7Span_any wide _).mono ?_
      rintro e w' ⟨rfl, hw'⟩
      have hw' := hw'.symm
      subst hw'
      rw [t0]
      go_wp2_with fail
      refine (l7Span_any high _).mono ?_
      rintro e w' ⟨rfl, hw'⟩
      have hw' := hw'.symm
      subst hw'
      rw [t1]
      go_wp2_with fail
      refine (l7Place_any y _).mono ?_
      rintro e w' ⟨rfl, hw'⟩
      have hw' := hw'.symm
      subst hw'
      rw [t2]
      go_wp2_with fail
      refine (l7Place_any left _).mono ?_
      rintro e w' ⟨rfl, hw'⟩
      have hw' := hw'.symm
      subst hw'
      rw [t3]
      go_wp2_with fail
      refine (l7Place_any right _).mono ?_
      rintro e w' ⟨rfl, hw'⟩
      have hw' := hw'.symm
      subst hw'
      rw [t4]
      go_wp2_with ((with_reducible show wpList _ _ _ (⟨none, Op.store 27 (Operand.tmp 14) (Operand.tmp 57), _, _, _, _⟩ :: _) _ _); refine wpList_putA rfl _ _ _ rfl rfl w.heap.size 0 5 [.int .i64 0, .int .i64 0, .int .i64 0, .int .i64 0, .int .i64 0] #[.int .i64 0, .int .i64 0, .int .i64 0, .int .i64 0, .int .i64 0] 27 rfl (by go_simp) l1 rfl (by kernel_rfl) (by kernel_rfl) (by kernel_rfl) ?_; intro w9 p9 l9 n9)
      exact bodyPost_ret (v := .tuple #[.agg (asC (placeR l 1 wide high y left right)), .bool (placeOk l 1 wide high y left right)]) (results_row_tmpA Try.results11 _ _ _ _ (asC (placeR l 1 wide high y left right)) _ _ _ rfl (l9.trans (congrArg (fun c => some (Obj.cells c 27 (0, 0))) (by rw [HRR.out, HO.out]; rfl))) Try.underlying27 rfl (by kernel_rfl) (by rw [HO.out]; rfl)) rfl ⟨rfl, p9.below b1 (Nat.le_refl _)⟩
    have HO : Hid (placeOk l 1 wide high y left right = true) := by show placeOk l 1 wide high y left right = true; rw [HP.out]; simp [hg, h40b, decide_true, t0, t1, t2, t3, t4]
    have GX : Hid (∀ x ∈ l, goodA x = true) := fun x hm => goodF_mem hg hm
    clear h40b HP
    go_enter Try.func11, Try.ntmps11
    go_wp2_with fail
    refine G.mono ?_
    rintro e w1 ⟨rfl, c1⟩
    rw [hg]
    have b1 := HB0.out.trans (c1.mono HB0.out.size)
    have l1 := below_lies c1 HL0.out (lies_lt HL0.out)
    clear G c1 HB0 HL0
    go_wp2_with fail
    refine (l7Span_any wide _).mono ?_
    rintro e w' ⟨rfl, hw'⟩
    have hw' := hw'.symm
    subst hw'
    rw [t0]
    go_wp2_with fail
    refine (l7Span_any high _).mono ?_
    rintro e w' ⟨rfl, hw'⟩
    have hw' := hw'.symm
    subst hw'
    rw [t1]
    go_wp2_with fail
    refine (l7Place_any y _).mono ?_
    rintro e w' ⟨rfl, hw'⟩
    have hw' := hw'.symm
    subst hw'
    rw [t2]
    go_wp2_with fail
    refine (l7Place_any left _).mono ?_
    rintro e w' ⟨rfl, hw'⟩
    have hw' := hw'.symm
    subst hw'
    rw [t3]
    go_wp2_with fail
    refine (l7Place_any right _).mono ?_
    rintro e w' ⟨rfl, hw'⟩
    have hw' := hw'.symm
    subst hw'
    rw [t4]
    have e0 := inB_yes t0
    have e1 := inB_yes t1
    have e2 := inB_yes t2
    have e3 := inB_yes t3
    have e4 := inB_yes t4
    clear t0 t1 t2 t3 t4
    go_wp2_with fail
    refine (l7Put_any a n cap l 1 wide high y left right _ HN.out (HR.out.below b1) hl GX.out (by omega) (by omega) (by omega) (by omega) (by omega) (by omega) (by omega) (by omega) (by omega) (by omega)).mono ?_
    rintro e w2 ⟨rfl, c2⟩
    have b2 := b1.trans (c2.mono b1.size)
    have l2 := below_lies c2 l1 (lies_lt l1)
    clear c2 b1 l1
    go_wp2_with ((with_reducible show wpList _ _ _ (⟨none, Op.store 27 (Operand.tmp 14) (Operand.tmp 65), _, _, _, _⟩ :: _) _ _); refine wpList_putA rfl _ _ _ rfl rfl w.heap.size 0 5 (asC (putF l 1 wide high y left right)).toList #[.int .i64 0, .int .i64 0, .int .i64 0, .int .i64 0, .int .i64 0] 27 rfl rfl l2 rfl (by kernel_rfl) (by kernel_rfl) (by kernel_rfl) ?_; intro w9 p9 l9 n9)
    exact bodyPost_ret (v := .tuple #[.agg (asC (placeR l 1 wide high y left right)), .bool (placeOk l 1 wide high y left right)]) (results_row_tmpA Try.results11 _ _ _ _ (asC (placeR l 1 wide high y left right)) _ _ _ rfl (l9.trans (congrArg (fun c => some (Obj.cells c 27 (0, 0))) (by rw [HRR.out, HO.out]; rfl))) Try.underlying27 rfl (by kernel_rfl) (by rw [HO.out]; rfl)) rfl ⟨rfl, p9.below b2 (Nat.le_refl _)⟩
  by_cases s2 : side = 2
  · subst s2
    rcases Bool.eq_false_or_eq_true (extB wide) with t0 | t0
    rotate_left
    · have HO : Hid (placeOk l 2 wide high y left right = false) := by show placeOk l 2 wide high y left right = false; rw [HP.out]; simp [t0]
      clear HP
      clear h40b
      go_enter Try.func11, Try.ntmps11
      go_wp2_with fail
      refine G.mono ?_
      rintro e w1 ⟨rfl, c1⟩
      rw [hg]
      have b1 := HB0.out.trans (c1.mono HB0.out.size)
      have l1 := below_lies c1 HL0.out (lies_lt HL0.out)
      clear G c1 HB0 HL0
      go_wp2_with fail
      refine (l7Span_any wide _).mono ?_
      rintro e w' ⟨rfl, hw'⟩
      have hw' := hw'.symm
      subst hw'
      rw [t0]
      go_wp2_with ((with_reducible show wpList _ _ _ (⟨none, Op.store 27 (Operand.tmp 14) (Operand.tmp 57), _, _, _, _⟩ :: _) _ _); refine wpList_putA rfl _ _ _ rfl rfl w.heap.size 0 5 [.int .i64 0, .int .i64 0, .int .i64 0, .int .i64 0, .int .i64 0] #[.int .i64 0, .int .i64 0, .int .i64 0, .int .i64 0, .int .i64 0] 27 rfl (by go_simp) l1 rfl (by kernel_rfl) (by kernel_rfl) (by kernel_rfl) ?_; intro w9 p9 l9 n9)
      exact bodyPost_ret (v := .tuple #[.agg (asC (placeR l 2 wide high y left right)), .bool (placeOk l 2 wide high y left right)]) (results_row_tmpA Try.results11 _ _ _ _ (asC (placeR l 2 wide high y left right)) _ _ _ rfl (l9.trans (congrArg (fun c => some (Obj.cells c 27 (0, 0))) (by rw [HRR.out, HO.out]; rfl))) Try.underlying27 rfl (by kernel_rfl) (by rw [HO.out]; rfl)) rfl ⟨rfl, p9.below b1 (Nat.le_refl _)⟩
    rcases Bool.eq_false_or_eq_true (extB high) with t1 | t1
    rotate_left
    · have HO : Hid (placeOk l 2 wide high y left right = false) := by show placeOk l 2 wide high y left right = false; rw [HP.out]; simp [t1]
      clear HP
      clear h40b
      go_enter Try.func11, Try.ntmps11
      go_wp2_with fail
      refine G.mono ?_
      rintro e w1 ⟨rfl, c1⟩
      rw [hg]
      have b1 := HB0.out.trans (c1.mono HB0.out.size)
      have l1 := below_lies c1 HL0.out (lies_lt HL0.out)
      clear G c1 HB0 HL0
      go_wp2_with fail
      refine (l7Span_any wide _).mono ?_
      rintro e w' ⟨rfl, hw'⟩
      have hw' := hw'.symm
      subst hw'
      rw [t0]
      go_wp2_with fail
      refine (l7Span_any high _).mono ?_
      rintro e w' ⟨rfl, hw'⟩
      have hw' := hw'.symm
      subst hw'
      rw [t1]
      go_wp2_with ((with_reducible show wpList _ _ _ (⟨none, Op.store 27 (Operand.tmp 14) (Operand.tmp 57), _, _, _, _⟩ :: _) _ _); refine wpList_putA rfl _ _ _ rfl rfl w.heap.size 0 5 [.int .i64 0, .int .i64 0, .int .i64 0, .int .i64 0, .int .i64 0] #[.int .i64 0, .int .i64 0, .int .i64 0, .int .i64 0, .int .i64 0] 27 rfl (by go_simp) l1 rfl (by kernel_rfl) (by kernel_rfl) (by kernel_rfl) ?_; intro w9 p9 l9 n9)
      exact bodyPost_ret (v := .tuple #[.agg (asC (placeR l 2 wide high y left right)), .bool (placeOk l 2 wide high y left right)]) (results_row_tmpA Try.results11 _ _ _ _ (asC (placeR l 2 wide high y left right)) _ _ _ rfl (l9.trans (congrArg (fun c => some (Obj.cells c 27 (0, 0))) (by rw [HRR.out, HO.out]; rfl))) Try.underlying27 rfl (by kernel_rfl) (by rw [HO.out]; rfl)) rfl ⟨rfl, p9.below b1 (Nat.le_refl _)⟩
    rcases Bool.eq_false_or_eq_true (nearB y) with t2 | t2
    rotate_left
    · have HO : Hid (placeOk l 2 wide high y left right = false) := by show placeOk l 2 wide high y left right = false; rw [HP.out]; simp [t2]
      clear HP
      clear h40b
      go_enter Try.func11, Try.ntmps11
      go_wp2_with fail
      refine G.mono ?_
      rintro e w1 ⟨rfl, c1⟩
      rw [hg]
      have b1 := HB0.out.trans (c1.mono HB0.out.size)
      have l1 := below_lies c1 HL0.out (lies_lt HL0.out)
      clear G c1 HB0 HL0
      go_wp2_with fail
      refine (l7Span_any wide _).mono ?_
      rintro e w' ⟨rfl, hw'⟩
      have hw' := hw'.symm
      subst hw'
      rw [t0]
      go_wp2_with fail
      refine (l7Span_any high _).mono ?_
      rintro e w' ⟨rfl, hw'⟩
      have hw' := hw'.symm
      subst hw'
      rw [t1]
      go_wp2_with fail
      refine (l7Place_any y _).mono ?_
      rintro e w' ⟨rfl, hw'⟩
      have hw' := hw'.symm
      subst hw'
      rw [t2]
      go_wp2_with ((with_reducible show wpList _ _ _ (⟨none, Op.store 27 (Operand.tmp 14) (Operand.tmp 57), _, _, _, _⟩ :: _) _ _); refine wpList_putA rfl _ _ _ rfl rfl w.heap.size 0 5 [.int .i64 0, .int .i64 0, .int .i64 0, .int .i64 0, .int .i64 0] #[.int .i64 0, .int .i64 0, .int .i64 0, .int .i64 0, .int .i64 0] 27 rfl (by go_simp) l1 rfl (by kernel_rfl) (by kernel_rfl) (by kernel_rfl) ?_; intro w9 p9 l9 n9)
      exact bodyPost_ret (v := .tuple #[.agg (asC (placeR l 2 wide high y left right)), .bool (placeOk l 2 wide high y left right)]) (results_row_tmpA Try.results11 _ _ _ _ (asC (placeR l 2 wide high y left right)) _ _ _ rfl (l9.trans (congrArg (fun c => some (Obj.cells c 27 (0, 0))) (by rw [HRR.out, HO.out]; rfl))) Try.underlying27 rfl (by kernel_rfl) (by rw [HO.out]; rfl)) rfl ⟨rfl, p9.below b1 (Nat.le_refl _)⟩
    rcases Bool.eq_false_or_eq_true (nearB left) with t3 | t3
    rotate_left
    · have HO : Hid (placeOk l 2 wide high y left right = false) := by show placeOk l 2 wide high y left right = false; rw [HP.out]; simp [t3]
      clear HP
      clear h40b
      go_enter Try.func11, Try.ntmps11
      go_wp2_with fail
      refine G.mono ?_
      rintro e w1 ⟨rfl, c1⟩
      rw [hg]
      have b1 := HB0.out.trans (c1.mono HB0.out.size)
      have l1 := below_lies c1 HL0.out (lies_lt HL0.out)
      clear G c1 HB0 HL0
      go_wp2_with fail
      refine (l7Span_any wide _).mono ?_
      rintro e w' ⟨rfl, hw'⟩
      have hw' := hw'.symm
      subst hw'
      rw [t0]
      go_wp2_with fail
      refine (l7Span_any high _).mono ?_
      rintro e w' ⟨rfl, hw'⟩
      have hw' := hw'.symm
      subst hw'
      rw [t1]
      go_wp2_with fail
      refine (l7Place_any y _).mono ?_
      rintro e w' ⟨rfl, hw'⟩
      have hw' := hw'.symm
      subst hw'
      rw [t2]
      go_wp2_with fail
      refine (l7Place_any left _).mono ?_
      rintro e w' ⟨rfl, hw'⟩
      have hw' := hw'.symm
      subst hw'
      rw [t3]
      go_wp2_with ((with_reducible show wpList _ _ _ (⟨none, Op.store 27 (Operand.tmp 14) (Operand.tmp 57), _, _, _, _⟩ :: _) _ _); refine wpList_putA rfl _ _ _ rfl rfl w.heap.size 0 5 [.int .i64 0, .int .i64 0, .int .i64 0, .int .i64 0, .int .i64 0] #[.int .i64 0, .int .i64 0, .int .i64 0, .int .i64 0, .int .i64 0] 27 rfl (by go_simp) l1 rfl (by kernel_rfl) (by kernel_rfl) (by kernel_rfl) ?_; intro w9 p9 l9 n9)
      exact bodyPost_ret (v := .tuple #[.agg (asC (placeR l 2 wide high y left right)), .bool (placeOk l 2 wide high y left right)]) (results_row_tmpA Try.results11 _ _ _ _ (asC (placeR l 2 wide high y left right)) _ _ _ rfl (l9.trans (congrArg (fun c => some (Obj.cells c 27 (0, 0))) (by rw [HRR.out, HO.out]; rfl))) Try.underlying27 rfl (by kernel_rfl) (by rw [HO.out]; rfl)) rfl ⟨rfl, p9.below b1 (Nat.le_refl _)⟩
    rcases Bool.eq_false_or_eq_true (nearB right) with t4 | t4
    rotate_left
    · have HO : Hid (placeOk l 2 wide high y left right = false) := by show placeOk l 2 wide high y left right = false; rw [HP.out]; simp [t4]
      clear HP
      clear h40b
      go_enter Try.func11, Try.ntmps11
      go_wp2_with fail
      refine G.mono ?_
      rintro e w1 ⟨rfl, c1⟩
      rw [hg]
      have b1 := HB0.out.trans (c1.mono HB0.out.size)
      have l1 := below_lies c1 HL0.out (lies_lt HL0.out)
      clear G c1 HB0 HL0
      go_wp2_with fail
      refine (l7Span_any wide _).mono ?_
      rintro e w' ⟨rfl, hw'⟩
      have hw' := hw'.symm
      subst hw'
      rw [t0]
      go_wp2_with fail
      refine (l7Span_any high _).mono ?_
      rintro e w' ⟨rfl, hw'⟩
      have hw' := hw'.symm
      subst hw'
      rw [t1]
      go_wp2_with fail
      refine (l7Place_any y _).mono ?_
      rintro e w' ⟨rfl, hw'⟩
      have hw' := hw'.symm
      subst hw'
      rw [t2]
      go_wp2_with fail
      refine (l7Place_any left _).mono ?_
      rintro e w' ⟨rfl, hw'⟩
      have hw' := hw'.symm
      subst hw'
      rw [t3]
      go_wp2_with fail
      refine (l7Place_any right _).mono ?_
      rintro e w' ⟨rfl, hw'⟩
      have hw' := hw'.symm
      subst hw'
      rw [t4]
      go_wp2_with ((with_reducible show wpList _ _ _ (⟨none, Op.store 27 (Operand.tmp 14) (Operand.tmp 57), _, _, _, _⟩ :: _) _ _); refine wpList_putA rfl _ _ _ rfl rfl w.heap.size 0 5 [.int .i64 0, .int .i64 0, .int .i64 0, .int .i64 0, .int .i64 0] #[.int .i64 0, .int .i64 0, .int .i64 0, .int .i64 0, .int .i64 0] 27 rfl (by go_simp) l1 rfl (by kernel_rfl) (by kernel_rfl) (by kernel_rfl) ?_; intro w9 p9 l9 n9)
      exact bodyPost_ret (v := .tuple #[.agg (asC (placeR l 2 wide high y left right)), .bool (placeOk l 2 wide high y left right)]) (results_row_tmpA Try.results11 _ _ _ _ (asC (placeR l 2 wide high y left right)) _ _ _ rfl (l9.trans (congrArg (fun c => some (Obj.cells c 27 (0, 0))) (by rw [HRR.out, HO.out]; rfl))) Try.underlying27 rfl (by kernel_rfl) (by rw [HO.out]; rfl)) rfl ⟨rfl, p9.below b1 (Nat.le_refl _)⟩
    have HO : Hid (placeOk l 2 wide high y left right = true) := by show placeOk l 2 wide high y left right = true; rw [HP.out]; simp [hg, h40b, decide_true, t0, t1, t2, t3, t4]
    have GX : Hid (∀ x ∈ l, goodA x = true) := fun x hm => goodF_mem hg hm
    clear h40b HP
    go_enter Try.func11, Try.ntmps11
    go_wp2_with fail
    refine G.mono ?_
    rintro e w1 ⟨rfl, c1⟩
    rw [hg]
    have b1 := HB0.out.trans (c1.mono HB0.out.size)
    have l1 := below_lies c1 HL0.out (lies_lt HL0.out)
    clear G c1 HB0 HL0
    go_wp2_with fail
    refine (l7Span_any wide _).mono ?_
    rintro e w' ⟨rfl, hw'⟩
    have hw' := hw'.symm
    subst hw'
    rw [t0]
    go_wp2_with fail
    refine (l7Span_any high _).mono ?_
    rintro e w' ⟨rfl, hw'⟩
    have hw' := hw'.symm
    subst hw'
    rw [t1]
    go_wp2_with fail
    refine (l7Place_any y _).mono ?_
    rintro e w' ⟨rfl, hw'⟩
    have hw' := hw'.symm
    subst hw'
    rw [t2]
    go_wp2_with fail
    refine (l7Place_any left _).mono ?_
    rintro e w' ⟨rfl, hw'⟩
    have hw' := hw'.symm
    subst hw'
    rw [t3]
    go_wp2_with fail
    refine (l7Place_any right _).mono ?_
    rintro e w' ⟨rfl, hw'⟩
    have hw' := hw'.symm
    subst hw'
    rw [t4]
    have e0 := inB_yes t0
    have e1 := inB_yes t1
    have e2 := inB_yes t2
    have e3 := inB_yes t3
    have e4 := inB_yes t4
    clear t0 t1 t2 t3 t4
    go_wp2_with fail
    refine (l7Put_any a n cap l 2 wide high y left right _ HN.out (HR.out.below b1) hl GX.out (by omega) (by omega) (by omega) (by omega) (by omega) (by omega) (by omega) (by omega) (by omega) (by omega)).mono ?_
    rintro e w2 ⟨rfl, c2⟩
    have b2 := b1.trans (c2.mono b1.size)
    have l2 := below_lies c2 l1 (lies_lt l1)
    clear c2 b1 l1
    go_wp2_with ((with_reducible show wpList _ _ _ (⟨none, Op.store 27 (Operand.tmp 14) (Operand.tmp 65), _, _, _, _⟩ :: _) _ _); refine wpList_putA rfl _ _ _ rfl rfl w.heap.size 0 5 (asC (putF l 2 wide high y left right)).toList #[.int .i64 0, .int .i64 0, .int .i64 0, .int .i64 0, .int .i64 0] 27 rfl rfl l2 rfl (by kernel_rfl) (by kernel_rfl) (by kernel_rfl) ?_; intro w9 p9 l9 n9)
    exact bodyPost_ret (v := .tuple #[.agg (asC (placeR l 2 wide high y left right)), .bool (placeOk l 2 wide high y left right)]) (results_row_tmpA Try.results11 _ _ _ _ (asC (placeR l 2 wide high y left right)) _ _ _ rfl (l9.trans (congrArg (fun c => some (Obj.cells c 27 (0, 0))) (by rw [HRR.out, HO.out]; rfl))) Try.underlying27 rfl (by kernel_rfl) (by rw [HO.out]; rfl)) rfl ⟨rfl, p9.below b2 (Nat.le_refl _)⟩
  have HO : Hid (placeOk l side wide high y left right = false) := by show placeOk l side wide high y left right = false; rw [HP.out]; simp [s1, s2]
  clear HP
  clear h40b
  go_enter Try.func11, Try.ntmps11
  go_wp2_with fail
  refine G.mono ?_
  rintro e w1 ⟨rfl, c1⟩
  rw [hg]
  have b1 := HB0.out.trans (c1.mono HB0.out.size)
  have l1 := below_lies c1 HL0.out (lies_lt HL0.out)
  clear G c1 HB0 HL0
  go_wp2_with ((with_reducible show wpList _ _ _ (⟨none, Op.store 27 (Operand.tmp 14) (Operand.tmp 57), _, _, _, _⟩ :: _) _ _); refine wpList_putA rfl _ _ _ rfl rfl w.heap.size 0 5 [.int .i64 0, .int .i64 0, .int .i64 0, .int .i64 0, .int .i64 0] #[.int .i64 0, .int .i64 0, .int .i64 0, .int .i64 0, .int .i64 0] 27 rfl (by go_simp) l1 rfl (by kernel_rfl) (by kernel_rfl) (by kernel_rfl) ?_; intro w9 p9 l9 n9)
  exact bodyPost_ret (v := .tuple #[.agg (asC (placeR l side wide high y left right)), .bool (placeOk l side wide high y left right)]) (results_row_tmpA Try.results11 _ _ _ _ (asC (placeR l side wide high y left right)) _ _ _ rfl (l9.trans (congrArg (fun c => some (Obj.cells c 27 (0, 0))) (by rw [HRR.out, HO.out]; rfl))) Try.underlying27 rfl (by kernel_rfl) (by rw [HO.out]; rfl)) rfl ⟨rfl, p9.below b1 (Nat.le_refl _)⟩
end Go.Proofs.Ytngbkcihdbnlgaa
