/-
  Each of the eighteen things of a good style: its text, by the program's method 'tell'; and whether it is as the plain style has it, by 'same'.
-/
import Derived.Test.YtojdmcennpgndaaGreatDoorTell3
import Derived.Test.YtojdmcennpgndaaGreatDoorTellW
import Derived.Test.YtojdmcennpgndaaGreatDoorWords
import Derived.Test.YtojdmcennpgndaaGreatDoorSame
import Derived.Test.YtojdmcennpgndaaGreatDoorStyG
namespace Go.Proofs.YtojdmcennpgndaaGreatDoor
open Go.ChangeShapes Go.WideShapes Go.ChangeAt Go.RowKit
set_option linter.unusedVariables false

def tokT (s : St) (k : Nat) : ByteArray := ([([ByteArray.empty, ⟨#[98, 108, 111, 99, 107]⟩, ⟨#[105, 110, 108, 105, 110, 101]⟩, ⟨#[110, 111, 110, 101]⟩] : List ByteArray).getD s.sh.toNat ByteArray.empty, ([⟨#[110, 111, 110, 101]⟩, ⟨#[108, 101, 102, 116]⟩, ⟨#[114, 105, 103, 104, 116]⟩] : List ByteArray).getD s.fl.toNat ByteArray.empty, ([⟨#[110, 111, 110, 101]⟩, ⟨#[108, 101, 102, 116]⟩, ⟨#[114, 105, 103, 104, 116]⟩, ⟨#[98, 111, 116, 104]⟩] : List ByteArray).getD s.cl.toNat ByteArray.empty, toldT s.w.a s.w.p s.w.n, toldT s.h.a s.h.p s.h.n, pixText s.mn, pixText s.mx, pixText s.mt, toldT s.mr.a s.mr.p s.mr.n, pixText s.mb, toldT s.ml.a s.ml.p s.ml.n, pixText s.bo, pixText s.pa, ([ByteArray.empty, ⟨#[110, 111, 114, 109, 97, 108]⟩, ⟨#[110, 111, 119, 114, 97, 112]⟩, ⟨#[112, 114, 101]⟩, ⟨#[112, 114, 101, 45, 119, 114, 97, 112]⟩, ⟨#[112, 114, 101, 45, 108, 105, 110, 101]⟩] : List ByteArray).getD s.wh.toNat ByteArray.empty, ([ByteArray.empty, ⟨#[108, 101, 102, 116]⟩, ⟨#[114, 105, 103, 104, 116]⟩, ⟨#[99, 101, 110, 116, 101, 114]⟩] : List ByteArray).getD s.al.toNat ByteArray.empty, pixText s.lh, pixText s.ri, pixText s.dn] : List ByteArray).getD k ByteArray.empty
def tokB (s : St) (k : Nat) : Bool := ([true, true, true, toldB s.w.a s.w.p s.w.n, toldB s.h.a s.h.p s.h.n, pixB s.mn, pixB s.mx, pixB s.mt, toldB s.mr.a s.mr.p s.mr.n, pixB s.mb, toldB s.ml.a s.ml.p s.ml.n, pixB s.bo, pixB s.pa, true, true, pixB s.lh, pixB s.ri, pixB s.dn] : List Bool).getD k true
def sameB (s : St) (k : Nat) : Bool := ([decide (s.sh = 1), decide (s.fl = 0), decide (s.cl = 0), decide (s.w.a = true ∧ s.w.p = false ∧ s.w.n = 0), decide (s.h.a = true ∧ s.h.p = false ∧ s.h.n = 0), decide (s.mn = 0), decide (s.mx = (-1)), decide (s.mt = 0), decide (s.mr.a = false ∧ s.mr.p = false ∧ s.mr.n = 0), decide (s.mb = 0), decide (s.ml.a = false ∧ s.ml.p = false ∧ s.ml.n = 0), decide (s.bo = 0), decide (s.pa = 0), decide (s.wh = 1), decide (s.al = 1), decide (s.lh = 0), decide (s.ri = 0), decide (s.dn = 0)] : List Bool).getD k true
def plainS : St := ⟨1, 0, 0, ⟨true, false, 0⟩, ⟨true, false, 0⟩, 0, -1, 0, ⟨false, false, 0⟩, 0, ⟨false, false, 0⟩, 0, 0, 1, 1, 0, 0, 0⟩
theorem size_bd {a p : Bool} {n : Int} (h : szB a p n = true) : -1000000 ≤ n ∧ n ≤ 1000000 := by
  cases a <;> cases p <;> simp [szB, inB] at h <;> omega
theorem told_word {wd : ByteArray} {e : Ending} (h : e = .returned (.tuple #[.string wd, .nilIface])) : Told true wd e := .inl ⟨rfl, h⟩
theorem tell_0 (s : St) (b : Nat) (w : World) (E : Env w) (hs : styleB s = true) (l0 : w.heap[b]? = some (.cells (#[.int .i64 s.sh, .int .i64 s.fl, .int .i64 s.cl, .bool s.w.a, .bool s.w.p, .int .i64 s.w.n, .bool s.h.a, .bool s.h.p, .int .i64 s.h.n, .int .i64 s.mn, .int .i64 s.mx, .int .i64 s.mt, .bool s.mr.a, .bool s.mr.p, .int .i64 s.mr.n, .int .i64 s.mb, .bool s.ml.a, .bool s.ml.p, .int .i64 s.ml.n, .int .i64 s.bo, .int .i64 s.pa, .int .i64 s.wh, .int .i64 s.al, .int .i64 s.lh, .int .i64 s.ri, .int .i64 s.dn]) 26 (0, 0))) :
    Calls Tryz.prog 25 #[.agg #[.string (nmT 0), .pointer (p1T b 0), .pointer (p2T b 0), .int .i64 (loT 0), .int .i64 (hiT 0), .bool (npT 0)]] w fun e w' => Told (tokB s 0) (tokT s 0) e ∧ Below w.heap.size w w' := by
  have h := hs
  unfold styleB gA gB gC gD gE at h
  simp only [Bool.and_eq_true] at h
  have hr := inB_yes h.1.1.1.1.1.1.1.1
  clear h hs
  have hc := lies_cell l0 0
  have hx : s.sh = 1 ∨ s.sh = 2 ∨ s.sh = 3 := by omega
  rcases hx with hx | hx | hx
  · have ht : tokT s 0 = ⟨#[98, 108, 111, 99, 107]⟩ := by unfold tokT; simp only [List.getD_cons_zero]; rw [hx]; rfl
    rw [ht]
    refine (tellW_any _ _ _ _ _ 1 _ #[⟨.string ⟨#[98, 108, 111, 99, 107]⟩, .int .i64 1, 0⟩, ⟨.string ⟨#[105, 110, 108, 105, 110, 101]⟩, .int .i64 2, 1⟩, ⟨.string ⟨#[110, 111, 110, 101]⟩, .int .i64 3, 2⟩] 3 ⟨#[98, 108, 111, 99, 107]⟩ w (hc.trans (by rw [← hx]; rfl)) wordsOf_0 ?_ ?_ ?_).mono (fun e w' h => ⟨told_word h.1, h.2⟩)
    · exact ⟨fun x hx' => by (simp only [List.mem_cons, List.not_mem_nil, or_false] at hx'; rcases hx' with rfl | rfl | rfl <;> decide), by simp, by simp⟩
    · intro x hx'
      simp only [List.mem_cons, List.not_mem_nil, or_false] at hx'
      rcases hx' with rfl | rfl | rfl
      all_goals exact ⟨_, _, rfl, rfl, fun h => by first | rfl | exact absurd h (by decide)⟩
    · exact ⟨⟨.string ⟨#[98, 108, 111, 99, 107]⟩, .int .i64 1, 0⟩, by simp, rfl⟩
  · have ht : tokT s 0 = ⟨#[105, 110, 108, 105, 110, 101]⟩ := by unfold tokT; simp only [List.getD_cons_zero]; rw [hx]; rfl
    rw [ht]
    refine (tellW_any _ _ _ _ _ 2 _ #[⟨.string ⟨#[98, 108, 111, 99, 107]⟩, .int .i64 1, 0⟩, ⟨.string ⟨#[105, 110, 108, 105, 110, 101]⟩, .int .i64 2, 1⟩, ⟨.string ⟨#[110, 111, 110, 101]⟩, .int .i64 3, 2⟩] 3 ⟨#[105, 110, 108, 105, 110, 101]⟩ w (hc.trans (by rw [← hx]; rfl)) wordsOf_0 ?_ ?_ ?_).mono (fun e w' h => ⟨told_word h.1, h.2⟩)
    · exact ⟨fun x hx' => by (simp only [List.mem_cons, List.not_mem_nil, or_false] at hx'; rcases hx' with rfl | rfl | rfl <;> decide), by simp, by simp⟩
    · intro x hx'
      simp only [List.mem_cons, List.not_mem_nil, or_false] at hx'
      rcases hx' with rfl | rfl | rfl
      all_goals exact ⟨_, _, rfl, rfl, fun h => by first | rfl | exact absurd h (by decide)⟩
    · exact ⟨⟨.string ⟨#[105, 110, 108, 105, 110, 101]⟩, .int .i64 2, 1⟩, by simp, rfl⟩
  · have ht : tokT s 0 = ⟨#[110, 111, 110, 101]⟩ := by unfold tokT; simp only [List.getD_cons_zero]; rw [hx]; rfl
    rw [ht]
    refine (tellW_any _ _ _ _ _ 3 _ #[⟨.string ⟨#[98, 108, 111, 99, 107]⟩, .int .i64 1, 0⟩, ⟨.string ⟨#[105, 110, 108, 105, 110, 101]⟩, .int .i64 2, 1⟩, ⟨.string ⟨#[110, 111, 110, 101]⟩, .int .i64 3, 2⟩] 3 ⟨#[110, 111, 110, 101]⟩ w (hc.trans (by rw [← hx]; rfl)) wordsOf_0 ?_ ?_ ?_).mono (fun e w' h => ⟨told_word h.1, h.2⟩)
    · exact ⟨fun x hx' => by (simp only [List.mem_cons, List.not_mem_nil, or_false] at hx'; rcases hx' with rfl | rfl | rfl <;> decide), by simp, by simp⟩
    · intro x hx'
      simp only [List.mem_cons, List.not_mem_nil, or_false] at hx'
      rcases hx' with rfl | rfl | rfl
      all_goals exact ⟨_, _, rfl, rfl, fun h => by first | rfl | exact absurd h (by decide)⟩
    · exact ⟨⟨.string ⟨#[110, 111, 110, 101]⟩, .int .i64 3, 2⟩, by simp, rfl⟩
theorem tell_1 (s : St) (b : Nat) (w : World) (E : Env w) (hs : styleB s = true) (l0 : w.heap[b]? = some (.cells (#[.int .i64 s.sh, .int .i64 s.fl, .int .i64 s.cl, .bool s.w.a, .bool s.w.p, .int .i64 s.w.n, .bool s.h.a, .bool s.h.p, .int .i64 s.h.n, .int .i64 s.mn, .int .i64 s.mx, .int .i64 s.mt, .bool s.mr.a, .bool s.mr.p, .int .i64 s.mr.n, .int .i64 s.mb, .bool s.ml.a, .bool s.ml.p, .int .i64 s.ml.n, .int .i64 s.bo, .int .i64 s.pa, .int .i64 s.wh, .int .i64 s.al, .int .i64 s.lh, .int .i64 s.ri, .int .i64 s.dn]) 26 (0, 0))) :
    Calls Tryz.prog 25 #[.agg #[.string (nmT 1), .pointer (p1T b 1), .pointer (p2T b 1), .int .i64 (loT 1), .int .i64 (hiT 1), .bool (npT 1)]] w fun e w' => Told (tokB s 1) (tokT s 1) e ∧ Below w.heap.size w w' := by
  have h := hs
  unfold styleB gA gB gC gD gE at h
  simp only [Bool.and_eq_true] at h
  have hr := inB_yes h.1.1.1.1.1.1.1.2
  clear h hs
  have hc := lies_cell l0 1
  have hx : s.fl = 0 ∨ s.fl = 1 ∨ s.fl = 2 := by omega
  rcases hx with hx | hx | hx
  · have ht : tokT s 1 = ⟨#[110, 111, 110, 101]⟩ := by unfold tokT; simp only [List.getD_cons_zero, List.getD_cons_succ]; rw [hx]; rfl
    rw [ht]
    refine (tellW_any _ _ _ _ _ 0 _ #[⟨.string ⟨#[110, 111, 110, 101]⟩, .int .i64 0, 0⟩, ⟨.string ⟨#[108, 101, 102, 116]⟩, .int .i64 1, 1⟩, ⟨.string ⟨#[114, 105, 103, 104, 116]⟩, .int .i64 2, 2⟩] 3 ⟨#[110, 111, 110, 101]⟩ w (hc.trans (by rw [← hx]; rfl)) wordsOf_1 ?_ ?_ ?_).mono (fun e w' h => ⟨told_word h.1, h.2⟩)
    · exact ⟨fun x hx' => by (simp only [List.mem_cons, List.not_mem_nil, or_false] at hx'; rcases hx' with rfl | rfl | rfl <;> decide), by simp, by simp⟩
    · intro x hx'
      simp only [List.mem_cons, List.not_mem_nil, or_false] at hx'
      rcases hx' with rfl | rfl | rfl
      all_goals exact ⟨_, _, rfl, rfl, fun h => by first | rfl | exact absurd h (by decide)⟩
    · exact ⟨⟨.string ⟨#[110, 111, 110, 101]⟩, .int .i64 0, 0⟩, by simp, rfl⟩
  · have ht : tokT s 1 = ⟨#[108, 101, 102, 116]⟩ := by unfold tokT; simp only [List.getD_cons_zero, List.getD_cons_succ]; rw [hx]; rfl
    rw [ht]
    refine (tellW_any _ _ _ _ _ 1 _ #[⟨.string ⟨#[110, 111, 110, 101]⟩, .int .i64 0, 0⟩, ⟨.string ⟨#[108, 101, 102, 116]⟩, .int .i64 1, 1⟩, ⟨.string ⟨#[114, 105, 103, 104, 116]⟩, .int .i64 2, 2⟩] 3 ⟨#[108, 101, 102, 116]⟩ w (hc.trans (by rw [← hx]; rfl)) wordsOf_1 ?_ ?_ ?_).mono (fun e w' h => ⟨told_word h.1, h.2⟩)
    · exact ⟨fun x hx' => by (simp only [List.mem_cons, List.not_mem_nil, or_false] at hx'; rcases hx' with rfl | rfl | rfl <;> decide), by simp, by simp⟩
    · intro x hx'
      simp only [List.mem_cons, List.not_mem_nil, or_false] at hx'
      rcases hx' with rfl | rfl | rfl
      all_goals exact ⟨_, _, rfl, rfl, fun h => by first | rfl | exact absurd h (by decide)⟩
    · exact ⟨⟨.string ⟨#[108, 101, 102, 116]⟩, .int .i64 1, 1⟩, by simp, rfl⟩
  · have ht : tokT s 1 = ⟨#[114, 105, 103, 104, 116]⟩ := by unfold tokT; simp only [List.getD_cons_zero, List.getD_cons_succ]; rw [hx]; rfl
    rw [ht]
    refine (tellW_any _ _ _ _ _ 2 _ #[⟨.string ⟨#[110, 111, 110, 101]⟩, .int .i64 0, 0⟩, ⟨.string ⟨#[108, 101, 102, 116]⟩, .int .i64 1, 1⟩, ⟨.string ⟨#[114, 105, 103, 104, 116]⟩, .int .i64 2, 2⟩] 3 ⟨#[114, 105, 103, 104, 116]⟩ w (hc.trans (by rw [← hx]; rfl)) wordsOf_1 ?_ ?_ ?_).mono (fun e w' h => ⟨told_word h.1, h.2⟩)
    · exact ⟨fun x hx' => by (simp only [List.mem_cons, List.not_mem_nil, or_false] at hx'; rcases hx' with rfl | rfl | rfl <;> decide), by simp, by simp⟩
    · intro x hx'
      simp only [List.mem_cons, List.not_mem_nil, or_false] at hx'
      rcases hx' with rfl | rfl | rfl
      all_goals exact ⟨_, _, rfl, rfl, fun h => by first | rfl | exact absurd h (by decide)⟩
    · exact ⟨⟨.string ⟨#[114, 105, 103, 104, 116]⟩, .int .i64 2, 2⟩, by simp, rfl⟩
theorem tell_2 (s : St) (b : Nat) (w : World) (E : Env w) (hs : styleB s = true) (l0 : w.heap[b]? = some (.cells (#[.int .i64 s.sh, .int .i64 s.fl, .int .i64 s.cl, .bool s.w.a, .bool s.w.p, .int .i64 s.w.n, .bool s.h.a, .bool s.h.p, .int .i64 s.h.n, .int .i64 s.mn, .int .i64 s.mx, .int .i64 s.mt, .bool s.mr.a, .bool s.mr.p, .int .i64 s.mr.n, .int .i64 s.mb, .bool s.ml.a, .bool s.ml.p, .int .i64 s.ml.n, .int .i64 s.bo, .int .i64 s.pa, .int .i64 s.wh, .int .i64 s.al, .int .i64 s.lh, .int .i64 s.ri, .int .i64 s.dn]) 26 (0, 0))) :
    Calls Tryz.prog 25 #[.agg #[.string (nmT 2), .pointer (p1T b 2), .pointer (p2T b 2), .int .i64 (loT 2), .int .i64 (hiT 2), .bool (npT 2)]] w fun e w' => Told (tokB s 2) (tokT s 2) e ∧ Below w.heap.size w w' := by
  have h := hs
  unfold styleB gA gB gC gD gE at h
  simp only [Bool.and_eq_true] at h
  have hr := inB_yes h.1.1.1.1.1.1.2
  clear h hs
  have hc := lies_cell l0 2
  have hx : s.cl = 0 ∨ s.cl = 1 ∨ s.cl = 2 ∨ s.cl = 3 := by omega
  rcases hx with hx | hx | hx | hx
  · have ht : tokT s 2 = ⟨#[110, 111, 110, 101]⟩ := by unfold tokT; simp only [List.getD_cons_zero, List.getD_cons_succ]; rw [hx]; rfl
    rw [ht]
    refine (tellW_any _ _ _ _ _ 0 _ #[⟨.string ⟨#[110, 111, 110, 101]⟩, .int .i64 0, 0⟩, ⟨.string ⟨#[108, 101, 102, 116]⟩, .int .i64 1, 1⟩, ⟨.string ⟨#[114, 105, 103, 104, 116]⟩, .int .i64 2, 2⟩, ⟨.string ⟨#[98, 111, 116, 104]⟩, .int .i64 3, 3⟩] 4 ⟨#[110, 111, 110, 101]⟩ w (hc.trans (by rw [← hx]; rfl)) wordsOf_2 ?_ ?_ ?_).mono (fun e w' h => ⟨told_word h.1, h.2⟩)
    · exact ⟨fun x hx' => by (simp only [List.mem_cons, List.not_mem_nil, or_false] at hx'; rcases hx' with rfl | rfl | rfl | rfl <;> decide), by simp, by simp⟩
    · intro x hx'
      simp only [List.mem_cons, List.not_mem_nil, or_false] at hx'
      rcases hx' with rfl | rfl | rfl | rfl
      all_goals exact ⟨_, _, rfl, rfl, fun h => by first | rfl | exact absurd h (by decide)⟩
    · exact ⟨⟨.string ⟨#[110, 111, 110, 101]⟩, .int .i64 0, 0⟩, by simp, rfl⟩
  · have ht : tokT s 2 = ⟨#[108, 101, 102, 116]⟩ := by unfold tokT; simp only [List.getD_cons_zero, List.getD_cons_succ]; rw [hx]; rfl
    rw [ht]
    refine (tellW_any _ _ _ _ _ 1 _ #[⟨.string ⟨#[110, 111, 110, 101]⟩, .int .i64 0, 0⟩, ⟨.string ⟨#[108, 101, 102, 116]⟩, .int .i64 1, 1⟩, ⟨.string ⟨#[114, 105, 103, 104, 116]⟩, .int .i64 2, 2⟩, ⟨.string ⟨#[98, 111, 116, 104]⟩, .int .i64 3, 3⟩] 4 ⟨#[108, 101, 102, 116]⟩ w (hc.trans (by rw [← hx]; rfl)) wordsOf_2 ?_ ?_ ?_).mono (fun e w' h => ⟨told_word h.1, h.2⟩)
    · exact ⟨fun x hx' => by (simp only [List.mem_cons, List.not_mem_nil, or_false] at hx'; rcases hx' with rfl | rfl | rfl | rfl <;> decide), by simp, by simp⟩
    · intro x hx'
      simp only [List.mem_cons, List.not_mem_nil, or_false] at hx'
      rcases hx' with rfl | rfl | rfl | rfl
      all_goals exact ⟨_, _, rfl, rfl, fun h => by first | rfl | exact absurd h (by decide)⟩
    · exact ⟨⟨.string ⟨#[108, 101, 102, 116]⟩, .int .i64 1, 1⟩, by simp, rfl⟩
  · have ht : tokT s 2 = ⟨#[114, 105, 103, 104, 116]⟩ := by unfold tokT; simp only [List.getD_cons_zero, List.getD_cons_succ]; rw [hx]; rfl
    rw [ht]
    refine (tellW_any _ _ _ _ _ 2 _ #[⟨.string ⟨#[110, 111, 110, 101]⟩, .int .i64 0, 0⟩, ⟨.string ⟨#[108, 101, 102, 116]⟩, .int .i64 1, 1⟩, ⟨.string ⟨#[114, 105, 103, 104, 116]⟩, .int .i64 2, 2⟩, ⟨.string ⟨#[98, 111, 116, 104]⟩, .int .i64 3, 3⟩] 4 ⟨#[114, 105, 103, 104, 116]⟩ w (hc.trans (by rw [← hx]; rfl)) wordsOf_2 ?_ ?_ ?_).mono (fun e w' h => ⟨told_word h.1, h.2⟩)
    · exact ⟨fun x hx' => by (simp only [List.mem_cons, List.not_mem_nil, or_false] at hx'; rcases hx' with rfl | rfl | rfl | rfl <;> decide), by simp, by simp⟩
    · intro x hx'
      simp only [List.mem_cons, List.not_mem_nil, or_false] at hx'
      rcases hx' with rfl | rfl | rfl | rfl
      all_goals exact ⟨_, _, rfl, rfl, fun h => by first | rfl | exact absurd h (by decide)⟩
    · exact ⟨⟨.string ⟨#[114, 105, 103, 104, 116]⟩, .int .i64 2, 2⟩, by simp, rfl⟩
  · have ht : tokT s 2 = ⟨#[98, 111, 116, 104]⟩ := by unfold tokT; simp only [List.getD_cons_zero, List.getD_cons_succ]; rw [hx]; rfl
    rw [ht]
    refine (tellW_any _ _ _ _ _ 3 _ #[⟨.string ⟨#[110, 111, 110, 101]⟩, .int .i64 0, 0⟩, ⟨.string ⟨#[108, 101, 102, 116]⟩, .int .i64 1, 1⟩, ⟨.string ⟨#[114, 105, 103, 104, 116]⟩, .int .i64 2, 2⟩, ⟨.string ⟨#[98, 111, 116, 104]⟩, .int .i64 3, 3⟩] 4 ⟨#[98, 111, 116, 104]⟩ w (hc.trans (by rw [← hx]; rfl)) wordsOf_2 ?_ ?_ ?_).mono (fun e w' h => ⟨told_word h.1, h.2⟩)
    · exact ⟨fun x hx' => by (simp only [List.mem_cons, List.not_mem_nil, or_false] at hx'; rcases hx' with rfl | rfl | rfl | rfl <;> decide), by simp, by simp⟩
    · intro x hx'
      simp only [List.mem_cons, List.not_mem_nil, or_false] at hx'
      rcases hx' with rfl | rfl | rfl | rfl
      all_goals exact ⟨_, _, rfl, rfl, fun h => by first | rfl | exact absurd h (by decide)⟩
    · exact ⟨⟨.string ⟨#[98, 111, 116, 104]⟩, .int .i64 3, 3⟩, by simp, rfl⟩
theorem tell_3 (s : St) (b : Nat) (w : World) (E : Env w) (hs : styleB s = true) (l0 : w.heap[b]? = some (.cells (#[.int .i64 s.sh, .int .i64 s.fl, .int .i64 s.cl, .bool s.w.a, .bool s.w.p, .int .i64 s.w.n, .bool s.h.a, .bool s.h.p, .int .i64 s.h.n, .int .i64 s.mn, .int .i64 s.mx, .int .i64 s.mt, .bool s.mr.a, .bool s.mr.p, .int .i64 s.mr.n, .int .i64 s.mb, .bool s.ml.a, .bool s.ml.p, .int .i64 s.ml.n, .int .i64 s.bo, .int .i64 s.pa, .int .i64 s.wh, .int .i64 s.al, .int .i64 s.lh, .int .i64 s.ri, .int .i64 s.dn]) 26 (0, 0))) :
    Calls Tryz.prog 25 #[.agg #[.string (nmT 3), .pointer (p1T b 3), .pointer (p2T b 3), .int .i64 (loT 3), .int .i64 (hiT 3), .bool (npT 3)]] w fun e w' => Told (tokB s 3) (tokT s 3) e ∧ Below w.heap.size w w' := by
  have h := hs
  unfold styleB gA gB gC gD gE at h
  simp only [Bool.and_eq_true] at h
  obtain ⟨g0, g1⟩ := size_bd h.1.1.1.2.1.1.1
  exact tellS_any _ _ _ _ _ _ _ _ _ w E g0 g1 (lies_cell l0 3) (lies_cell l0 4) (lies_cell l0 5)
theorem tell_4 (s : St) (b : Nat) (w : World) (E : Env w) (hs : styleB s = true) (l0 : w.heap[b]? = some (.cells (#[.int .i64 s.sh, .int .i64 s.fl, .int .i64 s.cl, .bool s.w.a, .bool s.w.p, .int .i64 s.w.n, .bool s.h.a, .bool s.h.p, .int .i64 s.h.n, .int .i64 s.mn, .int .i64 s.mx, .int .i64 s.mt, .bool s.mr.a, .bool s.mr.p, .int .i64 s.mr.n, .int .i64 s.mb, .bool s.ml.a, .bool s.ml.p, .int .i64 s.ml.n, .int .i64 s.bo, .int .i64 s.pa, .int .i64 s.wh, .int .i64 s.al, .int .i64 s.lh, .int .i64 s.ri, .int .i64 s.dn]) 26 (0, 0))) :
    Calls Tryz.prog 25 #[.agg #[.string (nmT 4), .pointer (p1T b 4), .pointer (p2T b 4), .int .i64 (loT 4), .int .i64 (hiT 4), .bool (npT 4)]] w fun e w' => Told (tokB s 4) (tokT s 4) e ∧ Below w.heap.size w w' := by
  have h := hs
  unfold styleB gA gB gC gD gE at h
  simp only [Bool.and_eq_true] at h
  obtain ⟨g0, g1⟩ := size_bd h.1.1.1.2.1.1.2
  exact tellS_any _ _ _ _ _ _ _ _ _ w E g0 g1 (lies_cell l0 6) (lies_cell l0 7) (lies_cell l0 8)
theorem tell_5 (s : St) (b : Nat) (w : World) (E : Env w) (hs : styleB s = true) (l0 : w.heap[b]? = some (.cells (#[.int .i64 s.sh, .int .i64 s.fl, .int .i64 s.cl, .bool s.w.a, .bool s.w.p, .int .i64 s.w.n, .bool s.h.a, .bool s.h.p, .int .i64 s.h.n, .int .i64 s.mn, .int .i64 s.mx, .int .i64 s.mt, .bool s.mr.a, .bool s.mr.p, .int .i64 s.mr.n, .int .i64 s.mb, .bool s.ml.a, .bool s.ml.p, .int .i64 s.ml.n, .int .i64 s.bo, .int .i64 s.pa, .int .i64 s.wh, .int .i64 s.al, .int .i64 s.lh, .int .i64 s.ri, .int .i64 s.dn]) 26 (0, 0))) :
    Calls Tryz.prog 25 #[.agg #[.string (nmT 5), .pointer (p1T b 5), .pointer (p2T b 5), .int .i64 (loT 5), .int .i64 (hiT 5), .bool (npT 5)]] w fun e w' => Told (tokB s 5) (tokT s 5) e ∧ Below w.heap.size w w' := by
  exact tellL_any _ _ _ _ _ _ _ w E (lies_cell l0 9) wordsOf_5
theorem tell_6 (s : St) (b : Nat) (w : World) (E : Env w) (hs : styleB s = true) (l0 : w.heap[b]? = some (.cells (#[.int .i64 s.sh, .int .i64 s.fl, .int .i64 s.cl, .bool s.w.a, .bool s.w.p, .int .i64 s.w.n, .bool s.h.a, .bool s.h.p, .int .i64 s.h.n, .int .i64 s.mn, .int .i64 s.mx, .int .i64 s.mt, .bool s.mr.a, .bool s.mr.p, .int .i64 s.mr.n, .int .i64 s.mb, .bool s.ml.a, .bool s.ml.p, .int .i64 s.ml.n, .int .i64 s.bo, .int .i64 s.pa, .int .i64 s.wh, .int .i64 s.al, .int .i64 s.lh, .int .i64 s.ri, .int .i64 s.dn]) 26 (0, 0))) :
    Calls Tryz.prog 25 #[.agg #[.string (nmT 6), .pointer (p1T b 6), .pointer (p2T b 6), .int .i64 (loT 6), .int .i64 (hiT 6), .bool (npT 6)]] w fun e w' => Told (tokB s 6) (tokT s 6) e ∧ Below w.heap.size w w' := by
  exact tellL_any _ _ _ _ _ _ _ w E (lies_cell l0 10) wordsOf_6
theorem tell_7 (s : St) (b : Nat) (w : World) (E : Env w) (hs : styleB s = true) (l0 : w.heap[b]? = some (.cells (#[.int .i64 s.sh, .int .i64 s.fl, .int .i64 s.cl, .bool s.w.a, .bool s.w.p, .int .i64 s.w.n, .bool s.h.a, .bool s.h.p, .int .i64 s.h.n, .int .i64 s.mn, .int .i64 s.mx, .int .i64 s.mt, .bool s.mr.a, .bool s.mr.p, .int .i64 s.mr.n, .int .i64 s.mb, .bool s.ml.a, .bool s.ml.p, .int .i64 s.ml.n, .int .i64 s.bo, .int .i64 s.pa, .int .i64 s.wh, .int .i64 s.al, .int .i64 s.lh, .int .i64 s.ri, .int .i64 s.dn]) 26 (0, 0))) :
    Calls Tryz.prog 25 #[.agg #[.string (nmT 7), .pointer (p1T b 7), .pointer (p2T b 7), .int .i64 (loT 7), .int .i64 (hiT 7), .bool (npT 7)]] w fun e w' => Told (tokB s 7) (tokT s 7) e ∧ Below w.heap.size w w' := by
  exact tellL_any _ _ _ _ _ _ _ w E (lies_cell l0 11) wordsOf_7
theorem tell_8 (s : St) (b : Nat) (w : World) (E : Env w) (hs : styleB s = true) (l0 : w.heap[b]? = some (.cells (#[.int .i64 s.sh, .int .i64 s.fl, .int .i64 s.cl, .bool s.w.a, .bool s.w.p, .int .i64 s.w.n, .bool s.h.a, .bool s.h.p, .int .i64 s.h.n, .int .i64 s.mn, .int .i64 s.mx, .int .i64 s.mt, .bool s.mr.a, .bool s.mr.p, .int .i64 s.mr.n, .int .i64 s.mb, .bool s.ml.a, .bool s.ml.p, .int .i64 s.ml.n, .int .i64 s.bo, .int .i64 s.pa, .int .i64 s.wh, .int .i64 s.al, .int .i64 s.lh, .int .i64 s.ri, .int .i64 s.dn]) 26 (0, 0))) :
    Calls Tryz.prog 25 #[.agg #[.string (nmT 8), .pointer (p1T b 8), .pointer (p2T b 8), .int .i64 (loT 8), .int .i64 (hiT 8), .bool (npT 8)]] w fun e w' => Told (tokB s 8) (tokT s 8) e ∧ Below w.heap.size w w' := by
  have h := hs
  unfold styleB gA gB gC gD gE at h
  simp only [Bool.and_eq_true] at h
  obtain ⟨g0, g1⟩ := size_bd h.1.1.1.2.2
  exact tellS_any _ _ _ _ _ _ _ _ _ w E g0 g1 (lies_cell l0 12) (lies_cell l0 13) (lies_cell l0 14)
theorem tell_9 (s : St) (b : Nat) (w : World) (E : Env w) (hs : styleB s = true) (l0 : w.heap[b]? = some (.cells (#[.int .i64 s.sh, .int .i64 s.fl, .int .i64 s.cl, .bool s.w.a, .bool s.w.p, .int .i64 s.w.n, .bool s.h.a, .bool s.h.p, .int .i64 s.h.n, .int .i64 s.mn, .int .i64 s.mx, .int .i64 s.mt, .bool s.mr.a, .bool s.mr.p, .int .i64 s.mr.n, .int .i64 s.mb, .bool s.ml.a, .bool s.ml.p, .int .i64 s.ml.n, .int .i64 s.bo, .int .i64 s.pa, .int .i64 s.wh, .int .i64 s.al, .int .i64 s.lh, .int .i64 s.ri, .int .i64 s.dn]) 26 (0, 0))) :
    Calls Tryz.prog 25 #[.agg #[.string (nmT 9), .pointer (p1T b 9), .pointer (p2T b 9), .int .i64 (loT 9), .int .i64 (hiT 9), .bool (npT 9)]] w fun e w' => Told (tokB s 9) (tokT s 9) e ∧ Below w.heap.size w w' := by
  exact tellL_any _ _ _ _ _ _ _ w E (lies_cell l0 15) wordsOf_9
theorem tell_10 (s : St) (b : Nat) (w : World) (E : Env w) (hs : styleB s = true) (l0 : w.heap[b]? = some (.cells (#[.int .i64 s.sh, .int .i64 s.fl, .int .i64 s.cl, .bool s.w.a, .bool s.w.p, .int .i64 s.w.n, .bool s.h.a, .bool s.h.p, .int .i64 s.h.n, .int .i64 s.mn, .int .i64 s.mx, .int .i64 s.mt, .bool s.mr.a, .bool s.mr.p, .int .i64 s.mr.n, .int .i64 s.mb, .bool s.ml.a, .bool s.ml.p, .int .i64 s.ml.n, .int .i64 s.bo, .int .i64 s.pa, .int .i64 s.wh, .int .i64 s.al, .int .i64 s.lh, .int .i64 s.ri, .int .i64 s.dn]) 26 (0, 0))) :
    Calls Tryz.prog 25 #[.agg #[.string (nmT 10), .pointer (p1T b 10), .pointer (p2T b 10), .int .i64 (loT 10), .int .i64 (hiT 10), .bool (npT 10)]] w fun e w' => Told (tokB s 10) (tokT s 10) e ∧ Below w.heap.size w w' := by
  have h := hs
  unfold styleB gA gB gC gD gE at h
  simp only [Bool.and_eq_true] at h
  obtain ⟨g0, g1⟩ := size_bd h.1.1.1.2.1.2
  exact tellS_any _ _ _ _ _ _ _ _ _ w E g0 g1 (lies_cell l0 16) (lies_cell l0 17) (lies_cell l0 18)
theorem tell_11 (s : St) (b : Nat) (w : World) (E : Env w) (hs : styleB s = true) (l0 : w.heap[b]? = some (.cells (#[.int .i64 s.sh, .int .i64 s.fl, .int .i64 s.cl, .bool s.w.a, .bool s.w.p, .int .i64 s.w.n, .bool s.h.a, .bool s.h.p, .int .i64 s.h.n, .int .i64 s.mn, .int .i64 s.mx, .int .i64 s.mt, .bool s.mr.a, .bool s.mr.p, .int .i64 s.mr.n, .int .i64 s.mb, .bool s.ml.a, .bool s.ml.p, .int .i64 s.ml.n, .int .i64 s.bo, .int .i64 s.pa, .int .i64 s.wh, .int .i64 s.al, .int .i64 s.lh, .int .i64 s.ri, .int .i64 s.dn]) 26 (0, 0))) :
    Calls Tryz.prog 25 #[.agg #[.string (nmT 11), .pointer (p1T b 11), .pointer (p2T b 11), .int .i64 (loT 11), .int .i64 (hiT 11), .bool (npT 11)]] w fun e w' => Told (tokB s 11) (tokT s 11) e ∧ Below w.heap.size w w' := by
  exact tellL_any _ _ _ _ _ _ _ w E (lies_cell l0 19) wordsOf_11
theorem tell_12 (s : St) (b : Nat) (w : World) (E : Env w) (hs : styleB s = true) (l0 : w.heap[b]? = some (.cells (#[.int .i64 s.sh, .int .i64 s.fl, .int .i64 s.cl, .bool s.w.a, .bool s.w.p, .int .i64 s.w.n, .bool s.h.a, .bool s.h.p, .int .i64 s.h.n, .int .i64 s.mn, .int .i64 s.mx, .int .i64 s.mt, .bool s.mr.a, .bool s.mr.p, .int .i64 s.mr.n, .int .i64 s.mb, .bool s.ml.a, .bool s.ml.p, .int .i64 s.ml.n, .int .i64 s.bo, .int .i64 s.pa, .int .i64 s.wh, .int .i64 s.al, .int .i64 s.lh, .int .i64 s.ri, .int .i64 s.dn]) 26 (0, 0))) :
    Calls Tryz.prog 25 #[.agg #[.string (nmT 12), .pointer (p1T b 12), .pointer (p2T b 12), .int .i64 (loT 12), .int .i64 (hiT 12), .bool (npT 12)]] w fun e w' => Told (tokB s 12) (tokT s 12) e ∧ Below w.heap.size w w' := by
  exact tellL_any _ _ _ _ _ _ _ w E (lies_cell l0 20) wordsOf_12
theorem tell_13 (s : St) (b : Nat) (w : World) (E : Env w) (hs : styleB s = true) (l0 : w.heap[b]? = some (.cells (#[.int .i64 s.sh, .int .i64 s.fl, .int .i64 s.cl, .bool s.w.a, .bool s.w.p, .int .i64 s.w.n, .bool s.h.a, .bool s.h.p, .int .i64 s.h.n, .int .i64 s.mn, .int .i64 s.mx, .int .i64 s.mt, .bool s.mr.a, .bool s.mr.p, .int .i64 s.mr.n, .int .i64 s.mb, .bool s.ml.a, .bool s.ml.p, .int .i64 s.ml.n, .int .i64 s.bo, .int .i64 s.pa, .int .i64 s.wh, .int .i64 s.al, .int .i64 s.lh, .int .i64 s.ri, .int .i64 s.dn]) 26 (0, 0))) :
    Calls Tryz.prog 25 #[.agg #[.string (nmT 13), .pointer (p1T b 13), .pointer (p2T b 13), .int .i64 (loT 13), .int .i64 (hiT 13), .bool (npT 13)]] w fun e w' => Told (tokB s 13) (tokT s 13) e ∧ Below w.heap.size w w' := by
  have h := hs
  unfold styleB gA gB gC gD gE at h
  simp only [Bool.and_eq_true] at h
  have hr := inB_yes h.1.1.1.1.1.2
  clear h hs
  have hc := lies_cell l0 21
  have hx : s.wh = 1 ∨ s.wh = 2 ∨ s.wh = 3 ∨ s.wh = 4 ∨ s.wh = 5 := by omega
  rcases hx with hx | hx | hx | hx | hx
  · have ht : tokT s 13 = ⟨#[110, 111, 114, 109, 97, 108]⟩ := by unfold tokT; simp only [List.getD_cons_zero, List.getD_cons_succ]; rw [hx]; rfl
    rw [ht]
    refine (tellW_any _ _ _ _ _ 1 _ #[⟨.string ⟨#[110, 111, 114, 109, 97, 108]⟩, .int .i64 1, 0⟩, ⟨.string ⟨#[110, 111, 119, 114, 97, 112]⟩, .int .i64 2, 1⟩, ⟨.string ⟨#[112, 114, 101]⟩, .int .i64 3, 2⟩, ⟨.string ⟨#[112, 114, 101, 45, 119, 114, 97, 112]⟩, .int .i64 4, 3⟩, ⟨.string ⟨#[112, 114, 101, 45, 108, 105, 110, 101]⟩, .int .i64 5, 4⟩] 5 ⟨#[110, 111, 114, 109, 97, 108]⟩ w (hc.trans (by rw [← hx]; rfl)) wordsOf_13 ?_ ?_ ?_).mono (fun e w' h => ⟨told_word h.1, h.2⟩)
    · exact ⟨fun x hx' => by (simp only [List.mem_cons, List.not_mem_nil, or_false] at hx'; rcases hx' with rfl | rfl | rfl | rfl | rfl <;> decide), by simp, by simp⟩
    · intro x hx'
      simp only [List.mem_cons, List.not_mem_nil, or_false] at hx'
      rcases hx' with rfl | rfl | rfl | rfl | rfl
      all_goals exact ⟨_, _, rfl, rfl, fun h => by first | rfl | exact absurd h (by decide)⟩
    · exact ⟨⟨.string ⟨#[110, 111, 114, 109, 97, 108]⟩, .int .i64 1, 0⟩, by simp, rfl⟩
  · have ht : tokT s 13 = ⟨#[110, 111, 119, 114, 97, 112]⟩ := by unfold tokT; simp only [List.getD_cons_zero, List.getD_cons_succ]; rw [hx]; rfl
    rw [ht]
    refine (tellW_any _ _ _ _ _ 2 _ #[⟨.string ⟨#[110, 111, 114, 109, 97, 108]⟩, .int .i64 1, 0⟩, ⟨.string ⟨#[110, 111, 119, 114, 97, 112]⟩, .int .i64 2, 1⟩, ⟨.string ⟨#[112, 114, 101]⟩, .int .i64 3, 2⟩, ⟨.string ⟨#[112, 114, 101, 45, 119, 114, 97, 112]⟩, .int .i64 4, 3⟩, ⟨.string ⟨#[112, 114, 101, 45, 108, 105, 110, 101]⟩, .int .i64 5, 4⟩] 5 ⟨#[110, 111, 119, 114, 97, 112]⟩ w (hc.trans (by rw [← hx]; rfl)) wordsOf_13 ?_ ?_ ?_).mono (fun e w' h => ⟨told_word h.1, h.2⟩)
    · exact ⟨fun x hx' => by (simp only [List.mem_cons, List.not_mem_nil, or_false] at hx'; rcases hx' with rfl | rfl | rfl | rfl | rfl <;> decide), by simp, by simp⟩
    · intro x hx'
      simp only [List.mem_cons, List.not_mem_nil, or_false] at hx'
      rcases hx' with rfl | rfl | rfl | rfl | rfl
      all_goals exact ⟨_, _, rfl, rfl, fun h => by first | rfl | exact absurd h (by decide)⟩
    · exact ⟨⟨.string ⟨#[110, 111, 119, 114, 97, 112]⟩, .int .i64 2, 1⟩, by simp, rfl⟩
  · have ht : tokT s 13 = ⟨#[112, 114, 101]⟩ := by unfold tokT; simp only [List.getD_cons_zero, List.getD_cons_succ]; rw [hx]; rfl
    rw [ht]
    refine (tellW_any _ _ _ _ _ 3 _ #[⟨.string ⟨#[110, 111, 114, 109, 97, 108]⟩, .int .i64 1, 0⟩, ⟨.string ⟨#[110, 111, 119, 114, 97, 112]⟩, .int .i64 2, 1⟩, ⟨.string ⟨#[112, 114, 101]⟩, .int .i64 3, 2⟩, ⟨.string ⟨#[112, 114, 101, 45, 119, 114, 97, 112]⟩, .int .i64 4, 3⟩, ⟨.string ⟨#[112, 114, 101, 45, 108, 105, 110, 101]⟩, .int .i64 5, 4⟩] 5 ⟨#[112, 114, 101]⟩ w (hc.trans (by rw [← hx]; rfl)) wordsOf_13 ?_ ?_ ?_).mono (fun e w' h => ⟨told_word h.1, h.2⟩)
    · exact ⟨fun x hx' => by (simp only [List.mem_cons, List.not_mem_nil, or_false] at hx'; rcases hx' with rfl | rfl | rfl | rfl | rfl <;> decide), by simp, by simp⟩
    · intro x hx'
      simp only [List.mem_cons, List.not_mem_nil, or_false] at hx'
      rcases hx' with rfl | rfl | rfl | rfl | rfl
      all_goals exact ⟨_, _, rfl, rfl, fun h => by first | rfl | exact absurd h (by decide)⟩
    · exact ⟨⟨.string ⟨#[112, 114, 101]⟩, .int .i64 3, 2⟩, by simp, rfl⟩
  · have ht : tokT s 13 = ⟨#[112, 114, 101, 45, 119, 114, 97, 112]⟩ := by unfold tokT; simp only [List.getD_cons_zero, List.getD_cons_succ]; rw [hx]; rfl
    rw [ht]
    refine (tellW_any _ _ _ _ _ 4 _ #[⟨.string ⟨#[110, 111, 114, 109, 97, 108]⟩, .int .i64 1, 0⟩, ⟨.string ⟨#[110, 111, 119, 114, 97, 112]⟩, .int .i64 2, 1⟩, ⟨.string ⟨#[112, 114, 101]⟩, .int .i64 3, 2⟩, ⟨.string ⟨#[112, 114, 101, 45, 119, 114, 97, 112]⟩, .int .i64 4, 3⟩, ⟨.string ⟨#[112, 114, 101, 45, 108, 105, 110, 101]⟩, .int .i64 5, 4⟩] 5 ⟨#[112, 114, 101, 45, 119, 114, 97, 112]⟩ w (hc.trans (by rw [← hx]; rfl)) wordsOf_13 ?_ ?_ ?_).mono (fun e w' h => ⟨told_word h.1, h.2⟩)
    · exact ⟨fun x hx' => by (simp only [List.mem_cons, List.not_mem_nil, or_false] at hx'; rcases hx' with rfl | rfl | rfl | rfl | rfl <;> decide), by simp, by simp⟩
    · intro x hx'
      simp only [List.mem_cons, List.not_mem_nil, or_false] at hx'
      rcases hx' with rfl | rfl | rfl | rfl | rfl
      all_goals exact ⟨_, _, rfl, rfl, fun h => by first | rfl | exact absurd h (by decide)⟩
    · exact ⟨⟨.string ⟨#[112, 114, 101, 45, 119, 114, 97, 112]⟩, .int .i64 4, 3⟩, by simp, rfl⟩
  · have ht : tokT s 13 = ⟨#[112, 114, 101, 45, 108, 105, 110, 101]⟩ := by unfold tokT; simp only [List.getD_cons_zero, List.getD_cons_succ]; rw [hx]; rfl
    rw [ht]
    refine (tellW_any _ _ _ _ _ 5 _ #[⟨.string ⟨#[110, 111, 114, 109, 97, 108]⟩, .int .i64 1, 0⟩, ⟨.string ⟨#[110, 111, 119, 114, 97, 112]⟩, .int .i64 2, 1⟩, ⟨.string ⟨#[112, 114, 101]⟩, .int .i64 3, 2⟩, ⟨.string ⟨#[112, 114, 101, 45, 119, 114, 97, 112]⟩, .int .i64 4, 3⟩, ⟨.string ⟨#[112, 114, 101, 45, 108, 105, 110, 101]⟩, .int .i64 5, 4⟩] 5 ⟨#[112, 114, 101, 45, 108, 105, 110, 101]⟩ w (hc.trans (by rw [← hx]; rfl)) wordsOf_13 ?_ ?_ ?_).mono (fun e w' h => ⟨told_word h.1, h.2⟩)
    · exact ⟨fun x hx' => by (simp only [List.mem_cons, List.not_mem_nil, or_false] at hx'; rcases hx' with rfl | rfl | rfl | rfl | rfl <;> decide), by simp, by simp⟩
    · intro x hx'
      simp only [List.mem_cons, List.not_mem_nil, or_false] at hx'
      rcases hx' with rfl | rfl | rfl | rfl | rfl
      all_goals exact ⟨_, _, rfl, rfl, fun h => by first | rfl | exact absurd h (by decide)⟩
    · exact ⟨⟨.string ⟨#[112, 114, 101, 45, 108, 105, 110, 101]⟩, .int .i64 5, 4⟩, by simp, rfl⟩
theorem tell_14 (s : St) (b : Nat) (w : World) (E : Env w) (hs : styleB s = true) (l0 : w.heap[b]? = some (.cells (#[.int .i64 s.sh, .int .i64 s.fl, .int .i64 s.cl, .bool s.w.a, .bool s.w.p, .int .i64 s.w.n, .bool s.h.a, .bool s.h.p, .int .i64 s.h.n, .int .i64 s.mn, .int .i64 s.mx, .int .i64 s.mt, .bool s.mr.a, .bool s.mr.p, .int .i64 s.mr.n, .int .i64 s.mb, .bool s.ml.a, .bool s.ml.p, .int .i64 s.ml.n, .int .i64 s.bo, .int .i64 s.pa, .int .i64 s.wh, .int .i64 s.al, .int .i64 s.lh, .int .i64 s.ri, .int .i64 s.dn]) 26 (0, 0))) :
    Calls Tryz.prog 25 #[.agg #[.string (nmT 14), .pointer (p1T b 14), .pointer (p2T b 14), .int .i64 (loT 14), .int .i64 (hiT 14), .bool (npT 14)]] w fun e w' => Told (tokB s 14) (tokT s 14) e ∧ Below w.heap.size w w' := by
  have h := hs
  unfold styleB gA gB gC gD gE at h
  simp only [Bool.and_eq_true] at h
  have hr := inB_yes h.1.1.1.1.2
  clear h hs
  have hc := lies_cell l0 22
  have hx : s.al = 1 ∨ s.al = 2 ∨ s.al = 3 := by omega
  rcases hx with hx | hx | hx
  · have ht : tokT s 14 = ⟨#[108, 101, 102, 116]⟩ := by unfold tokT; simp only [List.getD_cons_zero, List.getD_cons_succ]; rw [hx]; rfl
    rw [ht]
    refine (tellW_any _ _ _ _ _ 1 _ #[⟨.string ⟨#[108, 101, 102, 116]⟩, .int .i64 1, 0⟩, ⟨.string ⟨#[114, 105, 103, 104, 116]⟩, .int .i64 2, 1⟩, ⟨.string ⟨#[99, 101, 110, 116, 101, 114]⟩, .int .i64 3, 2⟩] 3 ⟨#[108, 101, 102, 116]⟩ w (hc.trans (by rw [← hx]; rfl)) wordsOf_14 ?_ ?_ ?_).mono (fun e w' h => ⟨told_word h.1, h.2⟩)
    · exact ⟨fun x hx' => by (simp only [List.mem_cons, List.not_mem_nil, or_false] at hx'; rcases hx' with rfl | rfl | rfl <;> decide), by simp, by simp⟩
    · intro x hx'
      simp only [List.mem_cons, List.not_mem_nil, or_false] at hx'
      rcases hx' with rfl | rfl | rfl
      all_goals exact ⟨_, _, rfl, rfl, fun h => by first | rfl | exact absurd h (by decide)⟩
    · exact ⟨⟨.string ⟨#[108, 101, 102, 116]⟩, .int .i64 1, 0⟩, by simp, rfl⟩
  · have ht : tokT s 14 = ⟨#[114, 105, 103, 104, 116]⟩ := by unfold tokT; simp only [List.getD_cons_zero, List.getD_cons_succ]; rw [hx]; rfl
    rw [ht]
    refine (tellW_any _ _ _ _ _ 2 _ #[⟨.string ⟨#[108, 101, 102, 116]⟩, .int .i64 1, 0⟩, ⟨.string ⟨#[114, 105, 103, 104, 116]⟩, .int .i64 2, 1⟩, ⟨.string ⟨#[99, 101, 110, 116, 101, 114]⟩, .int .i64 3, 2⟩] 3 ⟨#[114, 105, 103, 104, 116]⟩ w (hc.trans (by rw [← hx]; rfl)) wordsOf_14 ?_ ?_ ?_).mono (fun e w' h => ⟨told_word h.1, h.2⟩)
    · exact ⟨fun x hx' => by (simp only [List.mem_cons, List.not_mem_nil, or_false] at hx'; rcases hx' with rfl | rfl | rfl <;> decide), by simp, by simp⟩
    · intro x hx'
      simp only [List.mem_cons, List.not_mem_nil, or_false] at hx'
      rcases hx' with rfl | rfl | rfl
      all_goals exact ⟨_, _, rfl, rfl, fun h => by first | rfl | exact absurd h (by decide)⟩
    · exact ⟨⟨.string ⟨#[114, 105, 103, 104, 116]⟩, .int .i64 2, 1⟩, by simp, rfl⟩
  · have ht : tokT s 14 = ⟨#[99, 101, 110, 116, 101, 114]⟩ := by unfold tokT; simp only [List.getD_cons_zero, List.getD_cons_succ]; rw [hx]; rfl
    rw [ht]
    refine (tellW_any _ _ _ _ _ 3 _ #[⟨.string ⟨#[108, 101, 102, 116]⟩, .int .i64 1, 0⟩, ⟨.string ⟨#[114, 105, 103, 104, 116]⟩, .int .i64 2, 1⟩, ⟨.string ⟨#[99, 101, 110, 116, 101, 114]⟩, .int .i64 3, 2⟩] 3 ⟨#[99, 101, 110, 116, 101, 114]⟩ w (hc.trans (by rw [← hx]; rfl)) wordsOf_14 ?_ ?_ ?_).mono (fun e w' h => ⟨told_word h.1, h.2⟩)
    · exact ⟨fun x hx' => by (simp only [List.mem_cons, List.not_mem_nil, or_false] at hx'; rcases hx' with rfl | rfl | rfl <;> decide), by simp, by simp⟩
    · intro x hx'
      simp only [List.mem_cons, List.not_mem_nil, or_false] at hx'
      rcases hx' with rfl | rfl | rfl
      all_goals exact ⟨_, _, rfl, rfl, fun h => by first | rfl | exact absurd h (by decide)⟩
    · exact ⟨⟨.string ⟨#[99, 101, 110, 116, 101, 114]⟩, .int .i64 3, 2⟩, by simp, rfl⟩
theorem tell_15 (s : St) (b : Nat) (w : World) (E : Env w) (hs : styleB s = true) (l0 : w.heap[b]? = some (.cells (#[.int .i64 s.sh, .int .i64 s.fl, .int .i64 s.cl, .bool s.w.a, .bool s.w.p, .int .i64 s.w.n, .bool s.h.a, .bool s.h.p, .int .i64 s.h.n, .int .i64 s.mn, .int .i64 s.mx, .int .i64 s.mt, .bool s.mr.a, .bool s.mr.p, .int .i64 s.mr.n, .int .i64 s.mb, .bool s.ml.a, .bool s.ml.p, .int .i64 s.ml.n, .int .i64 s.bo, .int .i64 s.pa, .int .i64 s.wh, .int .i64 s.al, .int .i64 s.lh, .int .i64 s.ri, .int .i64 s.dn]) 26 (0, 0))) :
    Calls Tryz.prog 25 #[.agg #[.string (nmT 15), .pointer (p1T b 15), .pointer (p2T b 15), .int .i64 (loT 15), .int .i64 (hiT 15), .bool (npT 15)]] w fun e w' => Told (tokB s 15) (tokT s 15) e ∧ Below w.heap.size w w' := by
  exact tellL_any _ _ _ _ _ _ _ w E (lies_cell l0 23) wordsOf_15
theorem tell_16 (s : St) (b : Nat) (w : World) (E : Env w) (hs : styleB s = true) (l0 : w.heap[b]? = some (.cells (#[.int .i64 s.sh, .int .i64 s.fl, .int .i64 s.cl, .bool s.w.a, .bool s.w.p, .int .i64 s.w.n, .bool s.h.a, .bool s.h.p, .int .i64 s.h.n, .int .i64 s.mn, .int .i64 s.mx, .int .i64 s.mt, .bool s.mr.a, .bool s.mr.p, .int .i64 s.mr.n, .int .i64 s.mb, .bool s.ml.a, .bool s.ml.p, .int .i64 s.ml.n, .int .i64 s.bo, .int .i64 s.pa, .int .i64 s.wh, .int .i64 s.al, .int .i64 s.lh, .int .i64 s.ri, .int .i64 s.dn]) 26 (0, 0))) :
    Calls Tryz.prog 25 #[.agg #[.string (nmT 16), .pointer (p1T b 16), .pointer (p2T b 16), .int .i64 (loT 16), .int .i64 (hiT 16), .bool (npT 16)]] w fun e w' => Told (tokB s 16) (tokT s 16) e ∧ Below w.heap.size w w' := by
  exact tellL_any _ _ _ _ _ _ _ w E (lies_cell l0 24) wordsOf_16
theorem tell_17 (s : St) (b : Nat) (w : World) (E : Env w) (hs : styleB s = true) (l0 : w.heap[b]? = some (.cells (#[.int .i64 s.sh, .int .i64 s.fl, .int .i64 s.cl, .bool s.w.a, .bool s.w.p, .int .i64 s.w.n, .bool s.h.a, .bool s.h.p, .int .i64 s.h.n, .int .i64 s.mn, .int .i64 s.mx, .int .i64 s.mt, .bool s.mr.a, .bool s.mr.p, .int .i64 s.mr.n, .int .i64 s.mb, .bool s.ml.a, .bool s.ml.p, .int .i64 s.ml.n, .int .i64 s.bo, .int .i64 s.pa, .int .i64 s.wh, .int .i64 s.al, .int .i64 s.lh, .int .i64 s.ri, .int .i64 s.dn]) 26 (0, 0))) :
    Calls Tryz.prog 25 #[.agg #[.string (nmT 17), .pointer (p1T b 17), .pointer (p2T b 17), .int .i64 (loT 17), .int .i64 (hiT 17), .bool (npT 17)]] w fun e w' => Told (tokB s 17) (tokT s 17) e ∧ Below w.heap.size w w' := by
  exact tellL_any _ _ _ _ _ _ _ w E (lies_cell l0 25) wordsOf_17

theorem tell_any (s : St) (b k : Nat) (hk : k < 18) (w : World) (E : Env w) (hs : styleB s = true) (l0 : w.heap[b]? = some (.cells (#[.int .i64 s.sh, .int .i64 s.fl, .int .i64 s.cl, .bool s.w.a, .bool s.w.p, .int .i64 s.w.n, .bool s.h.a, .bool s.h.p, .int .i64 s.h.n, .int .i64 s.mn, .int .i64 s.mx, .int .i64 s.mt, .bool s.mr.a, .bool s.mr.p, .int .i64 s.mr.n, .int .i64 s.mb, .bool s.ml.a, .bool s.ml.p, .int .i64 s.ml.n, .int .i64 s.bo, .int .i64 s.pa, .int .i64 s.wh, .int .i64 s.al, .int .i64 s.lh, .int .i64 s.ri, .int .i64 s.dn]) 26 (0, 0))) :
    Calls Tryz.prog 25 #[.agg #[.string (nmT k), .pointer (p1T b k), .pointer (p2T b k), .int .i64 (loT k), .int .i64 (hiT k), .bool (npT k)]] w fun e w' => Told (tokB s k) (tokT s k) e ∧ Below w.heap.size w w' := by
  rcases lt18 hk with rfl | rfl | rfl | rfl | rfl | rfl | rfl | rfl | rfl | rfl | rfl | rfl | rfl | rfl | rfl | rfl | rfl | rfl
  · exact tell_0 s b w E hs l0
  · exact tell_1 s b w E hs l0
  · exact tell_2 s b w E hs l0
  · exact tell_3 s b w E hs l0
  · exact tell_4 s b w E hs l0
  · exact tell_5 s b w E hs l0
  · exact tell_6 s b w E hs l0
  · exact tell_7 s b w E hs l0
  · exact tell_8 s b w E hs l0
  · exact tell_9 s b w E hs l0
  · exact tell_10 s b w E hs l0
  · exact tell_11 s b w E hs l0
  · exact tell_12 s b w E hs l0
  · exact tell_13 s b w E hs l0
  · exact tell_14 s b w E hs l0
  · exact tell_15 s b w E hs l0
  · exact tell_16 s b w E hs l0
  · exact tell_17 s b w E hs l0
theorem same_any (s : St) (b b2 k : Nat) (hk : k < 18) (w : World) (l0 : w.heap[b]? = some (.cells (#[.int .i64 s.sh, .int .i64 s.fl, .int .i64 s.cl, .bool s.w.a, .bool s.w.p, .int .i64 s.w.n, .bool s.h.a, .bool s.h.p, .int .i64 s.h.n, .int .i64 s.mn, .int .i64 s.mx, .int .i64 s.mt, .bool s.mr.a, .bool s.mr.p, .int .i64 s.mr.n, .int .i64 s.mb, .bool s.ml.a, .bool s.ml.p, .int .i64 s.ml.n, .int .i64 s.bo, .int .i64 s.pa, .int .i64 s.wh, .int .i64 s.al, .int .i64 s.lh, .int .i64 s.ri, .int .i64 s.dn]) 26 (0, 0))) (l1 : w.heap[b2]? = some (.cells (#[.int .i64 1, .int .i64 0, .int .i64 0, .bool true, .bool false, .int .i64 0, .bool true, .bool false, .int .i64 0, .int .i64 0, .int .i64 (-1), .int .i64 0, .bool false, .bool false, .int .i64 0, .int .i64 0, .bool false, .bool false, .int .i64 0, .int .i64 0, .int .i64 0, .int .i64 1, .int .i64 1, .int .i64 0, .int .i64 0, .int .i64 0]) 26 (0, 0))) :
    Calls Tryz.prog 24 #[.agg #[.string (nmT k), .pointer (p1T b k), .pointer (p2T b k), .int .i64 (loT k), .int .i64 (hiT k), .bool (npT k)], .agg #[.string (nmT k), .pointer (p1T b2 k), .pointer (p2T b2 k), .int .i64 (loT k), .int .i64 (hiT k), .bool (npT k)]] w fun e w' => e = .returned (.bool (sameB s k)) ∧ Below w.heap.size w w' := by
  have hc := lies_cell l0
  have hd := lies_cell l1
  clear l0 l1
  rcases lt18 hk with rfl | rfl | rfl | rfl | rfl | rfl | rfl | rfl | rfl | rfl | rfl | rfl | rfl | rfl | rfl | rfl | rfl | rfl
  · exact sameN_any _ _ _ _ _ _ _ _ _ _ _ _ _ _ _ (hc 0) (hd 0)
  · exact sameN_any _ _ _ _ _ _ _ _ _ _ _ _ _ _ _ (hc 1) (hd 1)
  · exact sameN_any _ _ _ _ _ _ _ _ _ _ _ _ _ _ _ (hc 2) (hd 2)
  · exact sameS_any _ _ _ _ _ _ _ _ _ _ _ _ _ _ _ _ _ _ _ (hc 3) (hc 4) (hc 5) (hd 3) (hd 4) (hd 5)
  · exact sameS_any _ _ _ _ _ _ _ _ _ _ _ _ _ _ _ _ _ _ _ (hc 6) (hc 7) (hc 8) (hd 6) (hd 7) (hd 8)
  · exact sameN_any _ _ _ _ _ _ _ _ _ _ _ _ _ _ _ (hc 9) (hd 9)
  · exact sameN_any _ _ _ _ _ _ _ _ _ _ _ _ _ _ _ (hc 10) (hd 10)
  · exact sameN_any _ _ _ _ _ _ _ _ _ _ _ _ _ _ _ (hc 11) (hd 11)
  · exact sameS_any _ _ _ _ _ _ _ _ _ _ _ _ _ _ _ _ _ _ _ (hc 12) (hc 13) (hc 14) (hd 12) (hd 13) (hd 14)
  · exact sameN_any _ _ _ _ _ _ _ _ _ _ _ _ _ _ _ (hc 15) (hd 15)
  · exact sameS_any _ _ _ _ _ _ _ _ _ _ _ _ _ _ _ _ _ _ _ (hc 16) (hc 17) (hc 18) (hd 16) (hd 17) (hd 18)
  · exact sameN_any _ _ _ _ _ _ _ _ _ _ _ _ _ _ _ (hc 19) (hd 19)
  · exact sameN_any _ _ _ _ _ _ _ _ _ _ _ _ _ _ _ (hc 20) (hd 20)
  · exact sameN_any _ _ _ _ _ _ _ _ _ _ _ _ _ _ _ (hc 21) (hd 21)
  · exact sameN_any _ _ _ _ _ _ _ _ _ _ _ _ _ _ _ (hc 22) (hd 22)
  · exact sameN_any _ _ _ _ _ _ _ _ _ _ _ _ _ _ _ (hc 23) (hd 23)
  · exact sameN_any _ _ _ _ _ _ _ _ _ _ _ _ _ _ _ (hc 24) (hd 24)
  · exact sameN_any _ _ _ _ _ _ _ _ _ _ _ _ _ _ _ (hc 25) (hd 25)
end Go.Proofs.YtojdmcennpgndaaGreatDoor
