/-
  Contract of DrawFitsIn: some font, some text of at most 1000 letters and some room, and all older memory left alone, for every byte slice of at most 1048576 bytes.
-/
import Derived.Test.YtllkbokkhdomoaaRDoorDrawAdv
import Derived.Deep.RegionHeld3
import Derived.Deep.DeepFit
namespace Go.Proofs.YtllkbokkhdomoaaRDoor
open Go.ChangeShapes Go.WideShapes Go.ChangeAt Go.RowKit
set_option linter.unusedVariables false

set_option maxHeartbeats 4000000 in
theorem drawFits_any (a : Option Addr) (len cap : Nat) (w : World) (hl : len ≤ 1048576) (h : RowB w a len) :
    Calls Tryd.prog 6 #[.slice a len cap] w fun e w' => ∃ (fa fd fn fu fb : Int) (s : ByteArray) (room : Int), e = .returned (.tuple #[.agg #[.int .i64 fa, .int .i64 fd, .int .i64 fn, .int .i64 fu, .int .i64 fb], .string s, .int .i64 room]) ∧ s.size ≤ 1000 ∧ Below w.heap.size w w' := by
  have hZ := (Below.refl w.heap.size w).alloc (Nat.le_refl _) (.cells #[.int .i64 0, .int .i64 0, .int .i64 0, .int .i64 0, .int .i64 0] 24)
  have DA := drawAdv_any a len cap _ hl (h.below hZ)
  have R0 := fontAt_new w 0 0 0 0 0
  go_enter Tryd.func6, Tryd.ntmps6
  go_wp2_with fail
  refine DA.mono ?_
  rintro e w1 ⟨fa, fd, fn, fu, fb, s, rfl, hs, hb1⟩
  have hb0 := hZ.trans (hb1.mono (by simp))
  have hRB := h.below hb0
  have R1 := R0.below hb1
  have sz1 := R1.1
  clear DA h hb1 R0 hZ
  have hC := cur_two w1 (.cells #[.int .i64 fa, .int .i64 fd, .int .i64 fn, .int .i64 fu, .int .i64 fb] 24) a len cap hl hRB
  have hBl := ((Below.refl w1.heap.size w1).alloc (Nat.le_refl _) (.cells #[.int .i64 fa, .int .i64 fd, .int .i64 fn, .int .i64 fu, .int .i64 fb] 24)).alloc (by simp) (.cells #[.slice a len cap, .int .i64 0, .int .u64 0] 44)
  have L1 := (fontAt_new w1 fa fd fn fu fb).below ((Below.refl _ _).alloc (Nat.le_refl _) (.cells #[.slice a len cap, .int .i64 0, .int .u64 0] 44))
  have R2 := R1.below hBl
  have P := pick_any (w1.heap.size + 1) len cap 0 a 4000 ((w1.alloc (.cells #[.int .i64 fa, .int .i64 fd, .int .i64 fn, .int .i64 fu, .int .i64 fb] 24)).alloc (.cells #[.slice a len cap, .int .i64 0, .int .u64 0] 44)).drew (by omega) hC (by omega) (by omega)
  have n1 : ¬ w.heap.size = w1.heap.size := by omega
  have n2 : ¬ w1.heap.size = w.heap.size := by omega
  clear hC hRB R1
  have HB : Hid (Below w.heap.size w w1) := hb0
  have HL : Hid (FontAt _ w1.heap.size fa fd fn fu fb) := L1
  have HR : Hid (FontAt _ w.heap.size 0 0 0 0 0) := R2
  have HD : Hid (Below w1.heap.size w1 _) := hBl
  clear hb0 L1 R2 hBl
  go_wp2_with fail
  go_region_held3 (fun w' => w'.cell? ⟨w1.heap.size, 0, none⟩ = some (.int .i64 fa) ∧ w'.cell? ⟨w1.heap.size, 1, none⟩ = some (.int .i64 fd) ∧ w'.cell? ⟨w1.heap.size, 2, none⟩ = some (.int .i64 fn) ∧ w'.cell? ⟨w1.heap.size, 3, none⟩ = some (.int .i64 fu) ∧ w'.cell? ⟨w1.heap.size, 4, none⟩ = some (.int .i64 fb))
    (first | go_keep | exact ⟨l1, l2, l3, l4, l5⟩)
    ((go_at_call 16; go_fit P; rintro e w2 ⟨x, rfl, x0, x1, hC2, hg2⟩; obtain ⟨l0, l1, l2, l3, l4, l5, _⟩ := FontAt.grown (b := w1.heap.size + 1) HL.out ⟨hg2.os, hg2.tape, hg2.output, hg2.size, hg2.block⟩ (by omega); obtain ⟨r0, r1, r2, r3, r4, r5, r6, r7, r8, r9, r10⟩ := FontAt.grown (b := w1.heap.size + 1) HR.out ⟨hg2.os, hg2.tape, hg2.output, hg2.size, hg2.block⟩ (by omega)))
  have hb2 := below_two (w := w1) ⟨hg2.os, hg2.tape, hg2.output, hg2.size, hg2.block⟩
  have hb3 := HB.out.trans (hb2.mono HB.out.size)
  clear hg2 hC2 P hb2
  go_wp2
  refine bodyPost_ret (v := .tuple #[.agg #[.int .i64 fa, .int .i64 fd, .int .i64 fn, .int .i64 fu, .int .i64 fb], .string s, .int .i64 _]) (by simp [results, Tryd.results6, go_sem, *]; rfl) rfl ⟨_, _, _, _, _, _, _, rfl, hs, ?_⟩
  repeat (refine Below.setCell ?_ (by first | (simp; done) | (simp; omega)) _)
  exact hb3
end Go.Proofs.YtllkbokkhdomoaaRDoor
