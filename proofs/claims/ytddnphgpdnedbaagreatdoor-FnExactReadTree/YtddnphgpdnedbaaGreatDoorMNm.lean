/-
  The law's own marking of a row of nodes, and its looking again: it writes into that row alone, and counts on.
  The law's own marking of a row of nodes.
-/
import Derived.Test.YtddnphgpdnedbaaGreatDoorMTr
import Derived.Deep.MidRow
import Derived.Lib.ItoaNum
import Derived.WalkSpells
import Derived.WalkLawsBesides
namespace Go.Proofs.YtddnphgpdnedbaaGreatDoor
open Go.ChangeShapes Go.WideShapes Go.ChangeAt Go.RowKit
set_option linter.unusedVariables false

/-- A slice of one digit's byte, as a string. -/
theorem nmark_one (m : Int) (h0 : 0 ≤ m) (h1 : m < 10) (b : Nat) (W : World) (hc : W.cell? ⟨b, 0, none⟩ = some (.int .u8 (48 + m))) :
    (convert 58 9 (.slice (some ⟨b, 0, none⟩) 1 1)).run Tryz.prog W = .ok (.string ⟨#[UInt8.ofNat (48 + m.toNat)]⟩) W := by
  have hl : (UInt8.ofNat (48 + m.toNat)).toNat = 48 + m.toNat := by
    rw [UInt8.toNat_ofNat']
    omega
  exact run_convert_bytes_back W 58 9 5 ⟨b, 0, none⟩ 1 [UInt8.ofNat (48 + m.toNat)] Tryz.underlying58 Tryz.underlying5 Tryz.underlying9 (fun j hj => by
    have : j = 0 := by simpa using hj
    subst this
    simp only [List.getElem_cons_zero, hl]
    have e : ((48 + m.toNat : Nat) : Int) = 48 + m := by omega
    rw [e]
    simpa [Addr.add] using hc)
theorem nmark_wrap8 (x : Int) (h0 : 0 ≤ x) (h1 : x ≤ 255) : IntKind.u8.wrap x = x := by
  have : IntKind.u8.wrap x = x % 256 := by simp [IntKind.wrap, IntKind.bits, IntKind.signed]
  rw [this]; omega

/-- The text of a mark. -/
def mkT : Nat → Nat → ByteArray → ByteArray
  | 0, _, acc => acc
  | f + 1, m, acc => if m = 0 then acc else mkT f (m / 10) (⟨#[UInt8.ofNat (48 + m % 10)]⟩ ++ acc)
theorem mkT_more : ∀ (f g m : Nat) (acc : ByteArray), m ≤ f → m ≤ g → mkT f m acc = mkT g m acc
  | 0, 0, m, acc, _, _ => rfl
  | 0, g + 1, m, acc, h, _ => by obtain rfl : m = 0 := by omega
                                 rfl
  | f + 1, 0, m, acc, _, h => by obtain rfl : m = 0 := by omega
                                 rfl
  | f + 1, g + 1, m, acc, h, h' => by
    rw [mkT, mkT]
    split
    · rfl
    · exact mkT_more f g (m / 10) _ (by omega) (by omega)
theorem mkT_step (m : Nat) (acc : ByteArray) (h : 0 < m) : mkT m m acc = mkT (m / 10) (m / 10) (⟨#[UInt8.ofNat (48 + m % 10)]⟩ ++ acc) := by
  obtain ⟨f, rfl⟩ : ∃ f, m = f + 1 := ⟨m - 1, by omega⟩
  rw [mkT, if_neg (by omega)]
  exact mkT_more f _ _ _ (by omega) (Nat.le_refl _)
def markT (k : Nat) : ByteArray := ⟨#[109]⟩ ++ mkT k k ByteArray.empty
theorem digit_of (r : Nat) : (48 + UInt8.ofNat r : UInt8) = UInt8.ofNat (48 + r) := by simp
set_option maxHeartbeats 2000000 in
theorem nmarkText_any (k : Nat) (w : World) (h0 : 0 < k) (h1 : k ≤ 100000000) :
    Calls Tryz.prog 15 #[.int .i64 k] w fun e w' => e = .returned (.string (markT k)) ∧ Below w.heap.size w w' := by
  have hk0 : ¬ ((k : Int) ≤ 0) := by omega
  go_enter Tryz.func15, Tryz.ntmps15
  go_wp2_with fail
  go_loopw [0, 3] (fun q s wr => ∃ (m : Nat) (t : ByteArray), q = .int .i64 m ∧ s = .string t ∧ t.size + m ≤ 100000000 ∧ mkT m m t = mkT k k ByteArray.empty ∧ Below w.heap.size w wr) (fun q _ _ => (intOf q).toNat)
  case atStart => exact ⟨k, _, rfl, rfl, by show 0 + k ≤ _; omega, rfl, Below.refl _ _⟩
  case round =>
    obtain ⟨m, t, rfl, rfl, hm, hT, hbw⟩ := hrel
    have HT : Hid (mkT m m t = mkT k k ByteArray.empty) := hT
    clear hT
    by_cases hm0 : 0 < m
    · have g0 : (0 : Int) < (m : Int) := by omega
      obtain ⟨r, hr⟩ : ∃ r : Nat, r = m % 10 := ⟨_, rfl⟩
      obtain ⟨d, hd⟩ : ∃ d : Nat, d = m / 10 := ⟨_, rfl⟩
      have e1 : (m : Int).tmod 10 = (r : Int) := by rw [Int.tmod_eq_emod_of_nonneg (by omega)]; omega
      have e2 : (m : Int).tdiv 10 = (d : Int) := by rw [Int.tdiv_eq_ediv_of_nonneg (by omega)]; omega
      have e1' : (m : Int) % 10 = (r : Int) := by omega
      have e2' : (m : Int) / 10 = (d : Int) := by omega
      have kc := nmark_one (r : Int) (by omega) (by omega)
      have w8 := nmark_wrap8 (48 + (r : Int)) (by omega) (by omega)
      have HR : Hid (r = m % 10) := hr
      have HD : Hid (d = m / 10) := hd
      have hr9 : (r : Int) ≤ 9 := by omega
      have hdm : d < m := by omega
      clear hr hd
      go_wp2
      go_roundw
      case rel => exact ⟨d, _, rfl, rfl, by rw [ByteArray.size_append]; show 1 + _ + _ ≤ _; omega, by rw [← HT.out, mkT_step m t hm0, ← HD.out, ← HR.out]; first | rfl | rw [digit_of], hbw.alloc hbw.size _⟩
      case measure => simp [intOf]; omega
    · have : m = 0 := by omega
      subst this
      go_wp2
      go_ret
      exact ⟨by unfold markT; rw [← HT.out]; rfl, hbw⟩

theorem nmn_grown_trans {w w1 w2 : World} {b : Nat} (h : w.grownBy w1 (some b)) (k : w1.grownBy w2 (some b)) : w.grownBy w2 (some b) :=
  ⟨k.os.trans h.os, k.tape.trans h.tape, k.output.trans h.output, Nat.le_trans h.size k.size, fun i hi hne => (k.block i (Nat.lt_of_lt_of_le hi h.size) hne).trans (h.block i hi hne)⟩
theorem nmn_grown_set (w : World) (b o : Nat) (v : Value) : w.grownBy (w.setCell ⟨b, o, none⟩ v) (some b) :=
  ⟨rfl, rfl, rfl, by simp, fun k _ hne => Below.heap_setCell w ⟨b, o, none⟩ v k (by simpa using hne)⟩
theorem nmn_grown_below {w w1 w2 : World} {b : Nat} (h : w.grownBy w1 (some b)) (k : Below w1.heap.size w1 w2) : w.grownBy w2 (some b) :=
  ⟨k.os.trans h.os, k.tape.trans h.tape, k.output.trans h.output, Nat.le_trans h.size k.size, fun i hi hne => (k.block i (Nat.lt_of_lt_of_le hi h.size)).trans (h.block i hi hne)⟩
theorem nmn_grown_refl (w : World) (b : Nat) : w.grownBy w (some b) := ⟨rfl, rfl, rfl, Nat.le_refl _, fun _ _ _ => rfl⟩
theorem nmn_there_lt {w : World} {g N : Nat} (h : w.there g 0 N) (h0 : 0 < N) : g < w.heap.size := by
  obtain ⟨u, hu⟩ := Option.isSome_iff_exists.1 (h 0 h0).1
  exact World.block_lt_of_cell? _ _ hu

/-- One cell stored into a row that may be written: which world it is does not matter. -/
theorem nmn_store_any {P : Program} {ops : Array Oper} {rest : List Oper} {o : Oper} {a : Act} {w : World} {Q : Exit → Act → World → Prop} (hgd : o.guard = none) (ty : TypeId) (x y : Operand) (ho : o.op = .store ty x y)
    (hd : o.dst = none) (g i N : Nat) (v : Value) (hx : a.eval x = .pointer (some ⟨g, i, none⟩)) (hy : (a.eval y).cells.toList = [v]) (hi : (P.info? ty).map (·.size) = some 1) (h1 : v.oneCell' = true)
    (ht : w.there g 0 N) (hl : i < N) (h : ∀ w', w'.there g 0 N → w.grownBy w' (some g) → wpList P ops Q rest a w') : wpList P ops Q (o :: rest) a w := by
  refine wpList_plain hgd fun K hK => ?_
  unfold Oper.wp execOp
  have hj := ht i hl
  rw [Nat.zero_add] at hj
  have hs := run_storeCells_cells (P := P) g i [v] 0 w (fun j hj' => by obtain rfl : j = 0 := (by simpa using hj'); simpa using hj.1) (fun j hj' => by obtain rfl : j = 0 := (by simpa using hj'); simpa using hj.2) (fun u hu => by rw [List.mem_singleton] at hu; subst hu; exact h1)
  simp only [Nat.add_zero] at hs
  cases hq : P.info? ty with
  | none => simp [hq] at hi
  | some inf =>
    have hsz : (a.eval y).cells.size = inf.size := by
      have := congrArg List.length hy
      simp [hq] at hi
      simp at this
      omega
    have hsv : (storeVar ty ⟨g, i, none⟩ (a.eval y)).run P w = .ok () (w.setCells g i [v]) := by
      simp [storeVar, sizeOf, typeInfo, hq, hsz, hy, hs]
    simp only [ho, hx, Instr.storeAt, Instr.sureAddr, Sem.run_bind, Sem.run_pure, Result.andThen_ok, hsv]
    refine hK _ _ ?_
    rw [hd]
    exact h _ (World.there_setCells ht _ _ _) (nmn_grown_set w g i v)

theorem range_push {w : World} {g i N : Nat} {L : List Value} {v : Value} (ht : w.there g 0 N) (hL : w.rangeAt g 0 L) (hi : i = L.length) (hN : i < N) : (w.setCells g i [v]).rangeAt g 0 (L ++ [v]) := by
  intro c u hu
  by_cases h : c < L.length
  · rw [List.getElem?_append_left h] at hu
    exact World.rangeAt_setCells_apart hL _ _ _ (by right; left; omega) c u hu
  · rw [List.getElem?_append_right (by omega)] at hu
    have hc : c = i := by
      have := (List.getElem?_eq_some_iff.1 hu).1
      simp at this
      omega
    subst hc
    have h1 : [v][0]? = some u := by rw [← hu]; congr 1; omega
    have := World.rangeAt_setCells_same w g c [v] (fun j hj => by
      have hj' : j = 0 := by simpa using hj
      subst hj'
      have := ht c hN
      rwa [Nat.zero_add] at this) 0 u h1
    rwa [Nat.zero_add]
theorem nmn_store_push {P : Program} {ops : Array Oper} {rest : List Oper} {o : Oper} {a : Act} {w : World} {Q : Exit → Act → World → Prop} (hgd : o.guard = none) (ty : TypeId) (x y : Operand) (ho : o.op = .store ty x y)
    (hd : o.dst = none) (g i N : Nat) (v : Value) (L : List Value) (hx : a.eval x = .pointer (some ⟨g, i, none⟩)) (hy : (a.eval y).cells.toList = [v]) (hi : (P.info? ty).map (·.size) = some 1) (h1 : v.oneCell' = true)
    (ht : w.there g 0 N) (hl : i < N) (hL : w.rangeAt g 0 L) (hiL : i = L.length) (h : ∀ w', w'.there g 0 N → w.grownBy w' (some g) → w'.rangeAt g 0 (L ++ [v]) → wpList P ops Q rest a w') : wpList P ops Q (o :: rest) a w := by
  refine wpList_plain hgd fun K hK => ?_
  unfold Oper.wp execOp
  have hj := ht i hl
  rw [Nat.zero_add] at hj
  have hs := run_storeCells_cells (P := P) g i [v] 0 w (fun j hj' => by obtain rfl : j = 0 := (by simpa using hj'); simpa using hj.1) (fun j hj' => by obtain rfl : j = 0 := (by simpa using hj'); simpa using hj.2) (fun u hu => by rw [List.mem_singleton] at hu; subst hu; exact h1)
  simp only [Nat.add_zero] at hs
  cases hq : P.info? ty with
  | none => simp [hq] at hi
  | some inf =>
    have hsz : (a.eval y).cells.size = inf.size := by
      have := congrArg List.length hy
      simp [hq] at hi
      simp at this
      omega
    have hsv : (storeVar ty ⟨g, i, none⟩ (a.eval y)).run P w = .ok () (w.setCells g i [v]) := by
      simp [storeVar, sizeOf, typeInfo, hq, hsz, hy, hs]
    simp only [ho, hx, Instr.storeAt, Instr.sureAddr, Sem.run_bind, Sem.run_pure, Result.andThen_ok, hsv]
    refine hK _ _ ?_
    rw [hd]
    exact h _ (World.there_setCells ht _ _ _) (nmn_grown_set w g i v) (range_push ht hL hiL hl)
end Go.Proofs.YtddnphgpdnedbaaGreatDoor

namespace Go.Proofs.YtddnphgpdnedbaaGreatDoor
open Go.ChangeShapes Go.WideShapes Go.ChangeAt Go.RowKit
set_option linter.unusedVariables false
set_option linter.unusedSimpArgs false

def kB (z : Int) : Bool := z % 3 == 0
/-- The cells of one marked node, from the number m on. -/
def markV (m : Nat) (t : ByteArray) : List Value := [.int .i64 ((m : Int)), .string t, .int .i64 ((m : Int) + 1 + 1), .int .i64 ((m : Int) + 1 + 1 + 1), .int .i64 ((m : Int) + 1 + 1 + 1 + 1), .bool (kB ((m : Int) + 1 + 1 + 1 + 1 + 1)), .bool (kB ((m : Int) + 1 + 1 + 1 + 1 + 1 + 1)), .int .i64 ((m : Int) + 1 + 1 + 1 + 1 + 1 + 1 + 1), .bool (kB ((m : Int) + 1 + 1 + 1 + 1 + 1 + 1 + 1 + 1)), .bool (kB ((m : Int) + 1 + 1 + 1 + 1 + 1 + 1 + 1 + 1 + 1)), .int .i64 ((m : Int) + 1 + 1 + 1 + 1 + 1 + 1 + 1 + 1 + 1 + 1), .int .i64 ((m : Int) + 1 + 1 + 1 + 1 + 1 + 1 + 1 + 1 + 1 + 1 + 1), .int .i64 ((m : Int) + 1 + 1 + 1 + 1 + 1 + 1 + 1 + 1 + 1 + 1 + 1 + 1), .int .i64 ((m : Int) + 1 + 1 + 1 + 1 + 1 + 1 + 1 + 1 + 1 + 1 + 1 + 1 + 1), .bool (kB ((m : Int) + 1 + 1 + 1 + 1 + 1 + 1 + 1 + 1 + 1 + 1 + 1 + 1 + 1 + 1)), .bool (kB ((m : Int) + 1 + 1 + 1 + 1 + 1 + 1 + 1 + 1 + 1 + 1 + 1 + 1 + 1 + 1 + 1)), .int .i64 ((m : Int) + 1 + 1 + 1 + 1 + 1 + 1 + 1 + 1 + 1 + 1 + 1 + 1 + 1 + 1 + 1 + 1), .int .i64 ((m : Int) + 1 + 1 + 1 + 1 + 1 + 1 + 1 + 1 + 1 + 1 + 1 + 1 + 1 + 1 + 1 + 1 + 1), .bool (kB ((m : Int) + 1 + 1 + 1 + 1 + 1 + 1 + 1 + 1 + 1 + 1 + 1 + 1 + 1 + 1 + 1 + 1 + 1 + 1)), .bool (kB ((m : Int) + 1 + 1 + 1 + 1 + 1 + 1 + 1 + 1 + 1 + 1 + 1 + 1 + 1 + 1 + 1 + 1 + 1 + 1 + 1)), .int .i64 ((m : Int) + 1 + 1 + 1 + 1 + 1 + 1 + 1 + 1 + 1 + 1 + 1 + 1 + 1 + 1 + 1 + 1 + 1 + 1 + 1 + 1), .int .i64 ((m : Int) + 1 + 1 + 1 + 1 + 1 + 1 + 1 + 1 + 1 + 1 + 1 + 1 + 1 + 1 + 1 + 1 + 1 + 1 + 1 + 1 + 1), .int .i64 ((m : Int) + 1 + 1 + 1 + 1 + 1 + 1 + 1 + 1 + 1 + 1 + 1 + 1 + 1 + 1 + 1 + 1 + 1 + 1 + 1 + 1 + 1 + 1), .int .i64 ((m : Int) + 1 + 1 + 1 + 1 + 1 + 1 + 1 + 1 + 1 + 1 + 1 + 1 + 1 + 1 + 1 + 1 + 1 + 1 + 1 + 1 + 1 + 1 + 1), .int .i64 ((m : Int) + 1 + 1 + 1 + 1 + 1 + 1 + 1 + 1 + 1 + 1 + 1 + 1 + 1 + 1 + 1 + 1 + 1 + 1 + 1 + 1 + 1 + 1 + 1 + 1), .int .i64 ((m : Int) + 1 + 1 + 1 + 1 + 1 + 1 + 1 + 1 + 1 + 1 + 1 + 1 + 1 + 1 + 1 + 1 + 1 + 1 + 1 + 1 + 1 + 1 + 1 + 1 + 1), .int .i64 ((m : Int) + 1 + 1 + 1 + 1 + 1 + 1 + 1 + 1 + 1 + 1 + 1 + 1 + 1 + 1 + 1 + 1 + 1 + 1 + 1 + 1 + 1 + 1 + 1 + 1 + 1 + 1), .int .i64 ((m : Int) + 1 + 1 + 1 + 1 + 1 + 1 + 1 + 1 + 1 + 1 + 1 + 1 + 1 + 1 + 1 + 1 + 1 + 1 + 1 + 1 + 1 + 1 + 1 + 1 + 1 + 1 + 1)]
theorem markV_len (m : Nat) (t : ByteArray) : (markV m t).length = 28 := rfl
def flatK : Nat → List Value
  | 0 => []
  | j + 1 => flatK j ++ markV (1 + 28 * j) (markT (2 + 28 * j))
theorem flatK_len : ∀ j, (flatK j).length = 28 * j
  | 0 => rfl
  | j + 1 => by rw [flatK, List.length_append, markV_len, flatK_len j]; omega
theorem nm_range_keep {B : Nat} {w w' : World} {g : Nat} {L : List Value} (hL : w.rangeAt g 0 L) (hb : Below B w w') (hB : g < B) : w'.rangeAt g 0 L := fun j v hv => (hb.cell (p := ⟨g, 0 + j, none⟩) hB).trans (hL j v hv)
theorem nm_there_below {B : Nat} {w w' : World} {g o n : Nat} (h : w.there g o n) (hb : Below B w w') (hB : g < B) : w'.there g o n := fun j hj =>
  ⟨by rw [hb.cell (p := ⟨g, o + j, none⟩) hB]; exact (h j hj).1, by rw [hb.frozen (p := ⟨g, o + j, none⟩) hB]; exact (h j hj).2⟩
set_option maxRecDepth 100000 in
set_option maxHeartbeats 16000000 in
theorem markNodesX_any (g n cap : Nat) (w : World) (hn : n ≤ 40000) (ht : w.there g 0 (n * 28)) :
    Calls Tryz.prog 7 #[.slice (some ⟨g, 0, none⟩) n cap, .int .i64 1] w fun e w' => e = .returned (.int .i64 ((1 + 28 * n : Nat) : Int)) ∧ w.grownBy w' (some g) ∧ w'.rangeAt g 0 (flatK n) := by
  go_enter Tryz.func7, Tryz.ntmps7
  go_wp2_with fail
  go_loopw [1, 5] (fun q i wr => ∃ j : Nat, j ≤ n ∧ i = .int .i64 j ∧ q = .int .i64 ((1 + 28 * j : Nat) : Int) ∧ wr.there g 0 (n * 28) ∧ wr.rangeAt g 0 (flatK j) ∧ w.grownBy wr (some g)) (fun _ i _ => n - (intOf i).toNat)
  case atStart => exact ⟨0, Nat.zero_le _, rfl, rfl, ht, fun c v h => by simp [flatK] at h, nmn_grown_refl _ _⟩
  case round =>
    obtain ⟨j, hj, rfl, rfl, hth, hrg, hgr⟩ := hrel
    clear ht
    by_cases hlt : j < n
    · have hF := flatK_len j
      obtain ⟨m, hm⟩ : ∃ m, m = 1 + 28 * j := ⟨_, rfl⟩
      have HF : Hid (flatK (j + 1) = flatK j ++ markV m (markT (m + 1))) := by show flatK (j + 1) = _; rw [flatK, hm, show 1 + 28 * j + 1 = 2 + 28 * j by omega]
      have MT := nmarkText_any (m + 1)
      generalize markT (m + 1) = t at MT HF
      rw [← hm]
      rw [show ((m + 1 : Nat) : Int) = (m : Int) + 1 by omega] at MT
      generalize flatK j = L at hrg HF hF
      have hm0 : (0 : Int) ≤ (m : Int) := by omega
      have hm1 : (m : Int) ≤ 30000000 := by omega
      have HM : Hid (m = 1 + 28 * j) := hm
      have hm2 : m + 30 ≤ 30000000 := by omega
      clear hm
      obtain ⟨r5, hr5⟩ : ∃ r, r = ((m : Int) + 1 + 1 + 1 + 1 + 1) % 3 := ⟨_, rfl⟩
      have e5 : ((m : Int) + 1 + 1 + 1 + 1 + 1) % 3 = r5 := hr5.symm
      have d5 : ((m : Int) + 1 + 1 + 1 + 1 + 1).tmod 3 = r5 := by rw [Int.tmod_eq_emod_of_nonneg (by omega)]; exact hr5.symm
      obtain ⟨r6, hr6⟩ : ∃ r, r = ((m : Int) + 1 + 1 + 1 + 1 + 1 + 1) % 3 := ⟨_, rfl⟩
      have e6 : ((m : Int) + 1 + 1 + 1 + 1 + 1 + 1) % 3 = r6 := hr6.symm
      have d6 : ((m : Int) + 1 + 1 + 1 + 1 + 1 + 1).tmod 3 = r6 := by rw [Int.tmod_eq_emod_of_nonneg (by omega)]; exact hr6.symm
      obtain ⟨r8, hr8⟩ : ∃ r, r = ((m : Int) + 1 + 1 + 1 + 1 + 1 + 1 + 1 + 1) % 3 := ⟨_, rfl⟩
      have e8 : ((m : Int) + 1 + 1 + 1 + 1 + 1 + 1 + 1 + 1) % 3 = r8 := hr8.symm
      have d8 : ((m : Int) + 1 + 1 + 1 + 1 + 1 + 1 + 1 + 1).tmod 3 = r8 := by rw [Int.tmod_eq_emod_of_nonneg (by omega)]; exact hr8.symm
      obtain ⟨r9, hr9⟩ : ∃ r, r = ((m : Int) + 1 + 1 + 1 + 1 + 1 + 1 + 1 + 1 + 1) % 3 := ⟨_, rfl⟩
      have e9 : ((m : Int) + 1 + 1 + 1 + 1 + 1 + 1 + 1 + 1 + 1) % 3 = r9 := hr9.symm
      have d9 : ((m : Int) + 1 + 1 + 1 + 1 + 1 + 1 + 1 + 1 + 1).tmod 3 = r9 := by rw [Int.tmod_eq_emod_of_nonneg (by omega)]; exact hr9.symm
      obtain ⟨r14, hr14⟩ : ∃ r, r = ((m : Int) + 1 + 1 + 1 + 1 + 1 + 1 + 1 + 1 + 1 + 1 + 1 + 1 + 1 + 1) % 3 := ⟨_, rfl⟩
      have e14 : ((m : Int) + 1 + 1 + 1 + 1 + 1 + 1 + 1 + 1 + 1 + 1 + 1 + 1 + 1 + 1) % 3 = r14 := hr14.symm
      have d14 : ((m : Int) + 1 + 1 + 1 + 1 + 1 + 1 + 1 + 1 + 1 + 1 + 1 + 1 + 1 + 1).tmod 3 = r14 := by rw [Int.tmod_eq_emod_of_nonneg (by omega)]; exact hr14.symm
      obtain ⟨r15, hr15⟩ : ∃ r, r = ((m : Int) + 1 + 1 + 1 + 1 + 1 + 1 + 1 + 1 + 1 + 1 + 1 + 1 + 1 + 1 + 1) % 3 := ⟨_, rfl⟩
      have e15 : ((m : Int) + 1 + 1 + 1 + 1 + 1 + 1 + 1 + 1 + 1 + 1 + 1 + 1 + 1 + 1 + 1) % 3 = r15 := hr15.symm
      have d15 : ((m : Int) + 1 + 1 + 1 + 1 + 1 + 1 + 1 + 1 + 1 + 1 + 1 + 1 + 1 + 1 + 1).tmod 3 = r15 := by rw [Int.tmod_eq_emod_of_nonneg (by omega)]; exact hr15.symm
      obtain ⟨r18, hr18⟩ : ∃ r, r = ((m : Int) + 1 + 1 + 1 + 1 + 1 + 1 + 1 + 1 + 1 + 1 + 1 + 1 + 1 + 1 + 1 + 1 + 1 + 1) % 3 := ⟨_, rfl⟩
      have e18 : ((m : Int) + 1 + 1 + 1 + 1 + 1 + 1 + 1 + 1 + 1 + 1 + 1 + 1 + 1 + 1 + 1 + 1 + 1 + 1) % 3 = r18 := hr18.symm
      have d18 : ((m : Int) + 1 + 1 + 1 + 1 + 1 + 1 + 1 + 1 + 1 + 1 + 1 + 1 + 1 + 1 + 1 + 1 + 1 + 1).tmod 3 = r18 := by rw [Int.tmod_eq_emod_of_nonneg (by omega)]; exact hr18.symm
      obtain ⟨r19, hr19⟩ : ∃ r, r = ((m : Int) + 1 + 1 + 1 + 1 + 1 + 1 + 1 + 1 + 1 + 1 + 1 + 1 + 1 + 1 + 1 + 1 + 1 + 1 + 1) % 3 := ⟨_, rfl⟩
      have e19 : ((m : Int) + 1 + 1 + 1 + 1 + 1 + 1 + 1 + 1 + 1 + 1 + 1 + 1 + 1 + 1 + 1 + 1 + 1 + 1 + 1) % 3 = r19 := hr19.symm
      have d19 : ((m : Int) + 1 + 1 + 1 + 1 + 1 + 1 + 1 + 1 + 1 + 1 + 1 + 1 + 1 + 1 + 1 + 1 + 1 + 1 + 1).tmod 3 = r19 := by rw [Int.tmod_eq_emod_of_nonneg (by omega)]; exact hr19.symm
      have HK5 : Hid (kB ((m : Int) + 1 + 1 + 1 + 1 + 1) = (r5 == 0)) := by show kB _ = _; unfold kB; rw [e5]
      have HK6 : Hid (kB ((m : Int) + 1 + 1 + 1 + 1 + 1 + 1) = (r6 == 0)) := by show kB _ = _; unfold kB; rw [e6]
      have HK8 : Hid (kB ((m : Int) + 1 + 1 + 1 + 1 + 1 + 1 + 1 + 1) = (r8 == 0)) := by show kB _ = _; unfold kB; rw [e8]
      have HK9 : Hid (kB ((m : Int) + 1 + 1 + 1 + 1 + 1 + 1 + 1 + 1 + 1) = (r9 == 0)) := by show kB _ = _; unfold kB; rw [e9]
      have HK14 : Hid (kB ((m : Int) + 1 + 1 + 1 + 1 + 1 + 1 + 1 + 1 + 1 + 1 + 1 + 1 + 1 + 1) = (r14 == 0)) := by show kB _ = _; unfold kB; rw [e14]
      have HK15 : Hid (kB ((m : Int) + 1 + 1 + 1 + 1 + 1 + 1 + 1 + 1 + 1 + 1 + 1 + 1 + 1 + 1 + 1) = (r15 == 0)) := by show kB _ = _; unfold kB; rw [e15]
      have HK18 : Hid (kB ((m : Int) + 1 + 1 + 1 + 1 + 1 + 1 + 1 + 1 + 1 + 1 + 1 + 1 + 1 + 1 + 1 + 1 + 1 + 1) = (r18 == 0)) := by show kB _ = _; unfold kB; rw [e18]
      have HK19 : Hid (kB ((m : Int) + 1 + 1 + 1 + 1 + 1 + 1 + 1 + 1 + 1 + 1 + 1 + 1 + 1 + 1 + 1 + 1 + 1 + 1 + 1) = (r19 == 0)) := by show kB _ = _; unfold kB; rw [e19]
      clear hr5 hr6 hr8 hr9 hr14 hr15 hr18 hr19
      go_wp2_with (first
        | (with_reducible show wpList _ _ _ (⟨none, Op.store 3 (Operand.tmp 16) _, _, _, _, _⟩ :: _) _ _; refine nmn_store_push rfl 3 _ _ rfl rfl g _ (n * 28) (.int .i64 ((m : Int))) _ rfl rfl (by kernel_rfl) rfl hth (by omega) hrg (by simp only [List.length_append, List.length_singleton, hF]; omega) ?_; intro w2 hth2 hg2 hr2; replace hgr := nmn_grown_trans hgr hg2; replace hth := hth2; replace hrg := hr2; clear hth2 hg2 hr2)
        | (with_reducible show wpList _ _ _ (⟨none, Op.store 9 (Operand.tmp 24) _, _, _, _, _⟩ :: _) _ _; refine nmn_store_push rfl 9 _ _ rfl rfl g _ (n * 28) (.string t) _ rfl rfl (by kernel_rfl) rfl hth (by omega) hrg (by simp only [List.length_append, List.length_singleton, hF]; omega) ?_; intro w2 hth2 hg2 hr2; replace hgr := nmn_grown_trans hgr hg2; replace hth := hth2; replace hrg := hr2; clear hth2 hg2 hr2)
        | (with_reducible show wpList _ _ _ (⟨none, Op.store 3 (Operand.tmp 32) _, _, _, _, _⟩ :: _) _ _; refine nmn_store_push rfl 3 _ _ rfl rfl g _ (n * 28) (.int .i64 ((m : Int) + 1 + 1)) _ rfl rfl (by kernel_rfl) rfl hth (by omega) hrg (by simp only [List.length_append, List.length_singleton, hF]; omega) ?_; intro w2 hth2 hg2 hr2; replace hgr := nmn_grown_trans hgr hg2; replace hth := hth2; replace hrg := hr2; clear hth2 hg2 hr2)
        | (with_reducible show wpList _ _ _ (⟨none, Op.store 3 (Operand.tmp 40) _, _, _, _, _⟩ :: _) _ _; refine nmn_store_push rfl 3 _ _ rfl rfl g _ (n * 28) (.int .i64 ((m : Int) + 1 + 1 + 1)) _ rfl rfl (by kernel_rfl) rfl hth (by omega) hrg (by simp only [List.length_append, List.length_singleton, hF]; omega) ?_; intro w2 hth2 hg2 hr2; replace hgr := nmn_grown_trans hgr hg2; replace hth := hth2; replace hrg := hr2; clear hth2 hg2 hr2)
        | (with_reducible show wpList _ _ _ (⟨none, Op.store 3 (Operand.tmp 48) _, _, _, _, _⟩ :: _) _ _; refine nmn_store_push rfl 3 _ _ rfl rfl g _ (n * 28) (.int .i64 ((m : Int) + 1 + 1 + 1 + 1)) _ rfl rfl (by kernel_rfl) rfl hth (by omega) hrg (by simp only [List.length_append, List.length_singleton, hF]; omega) ?_; intro w2 hth2 hg2 hr2; replace hgr := nmn_grown_trans hgr hg2; replace hth := hth2; replace hrg := hr2; clear hth2 hg2 hr2)
        | (with_reducible show wpList _ _ _ (⟨none, Op.store 4 (Operand.tmp 59) _, _, _, _, _⟩ :: _) _ _; refine nmn_store_push rfl 4 _ _ rfl rfl g _ (n * 28) (.bool (r5 == 0)) _ rfl rfl (by kernel_rfl) rfl hth (by omega) hrg (by simp only [List.length_append, List.length_singleton, hF]; omega) ?_; intro w2 hth2 hg2 hr2; replace hgr := nmn_grown_trans hgr hg2; replace hth := hth2; replace hrg := hr2; clear hth2 hg2 hr2)
        | (with_reducible show wpList _ _ _ (⟨none, Op.store 4 (Operand.tmp 70) _, _, _, _, _⟩ :: _) _ _; refine nmn_store_push rfl 4 _ _ rfl rfl g _ (n * 28) (.bool (r6 == 0)) _ rfl rfl (by kernel_rfl) rfl hth (by omega) hrg (by simp only [List.length_append, List.length_singleton, hF]; omega) ?_; intro w2 hth2 hg2 hr2; replace hgr := nmn_grown_trans hgr hg2; replace hth := hth2; replace hrg := hr2; clear hth2 hg2 hr2)
        | (with_reducible show wpList _ _ _ (⟨none, Op.store 3 (Operand.tmp 79) _, _, _, _, _⟩ :: _) _ _; refine nmn_store_push rfl 3 _ _ rfl rfl g _ (n * 28) (.int .i64 ((m : Int) + 1 + 1 + 1 + 1 + 1 + 1 + 1)) _ rfl rfl (by kernel_rfl) rfl hth (by omega) hrg (by simp only [List.length_append, List.length_singleton, hF]; omega) ?_; intro w2 hth2 hg2 hr2; replace hgr := nmn_grown_trans hgr hg2; replace hth := hth2; replace hrg := hr2; clear hth2 hg2 hr2)
        | (with_reducible show wpList _ _ _ (⟨none, Op.store 4 (Operand.tmp 90) _, _, _, _, _⟩ :: _) _ _; refine nmn_store_push rfl 4 _ _ rfl rfl g _ (n * 28) (.bool (r8 == 0)) _ rfl rfl (by kernel_rfl) rfl hth (by omega) hrg (by simp only [List.length_append, List.length_singleton, hF]; omega) ?_; intro w2 hth2 hg2 hr2; replace hgr := nmn_grown_trans hgr hg2; replace hth := hth2; replace hrg := hr2; clear hth2 hg2 hr2)
        | (with_reducible show wpList _ _ _ (⟨none, Op.store 4 (Operand.tmp 101) _, _, _, _, _⟩ :: _) _ _; refine nmn_store_push rfl 4 _ _ rfl rfl g _ (n * 28) (.bool (r9 == 0)) _ rfl rfl (by kernel_rfl) rfl hth (by omega) hrg (by simp only [List.length_append, List.length_singleton, hF]; omega) ?_; intro w2 hth2 hg2 hr2; replace hgr := nmn_grown_trans hgr hg2; replace hth := hth2; replace hrg := hr2; clear hth2 hg2 hr2)
        | (with_reducible show wpList _ _ _ (⟨none, Op.store 3 (Operand.tmp 110) _, _, _, _, _⟩ :: _) _ _; refine nmn_store_push rfl 3 _ _ rfl rfl g _ (n * 28) (.int .i64 ((m : Int) + 1 + 1 + 1 + 1 + 1 + 1 + 1 + 1 + 1 + 1)) _ rfl rfl (by kernel_rfl) rfl hth (by omega) hrg (by simp only [List.length_append, List.length_singleton, hF]; omega) ?_; intro w2 hth2 hg2 hr2; replace hgr := nmn_grown_trans hgr hg2; replace hth := hth2; replace hrg := hr2; clear hth2 hg2 hr2)
        | (with_reducible show wpList _ _ _ (⟨none, Op.store 3 (Operand.tmp 118) _, _, _, _, _⟩ :: _) _ _; refine nmn_store_push rfl 3 _ _ rfl rfl g _ (n * 28) (.int .i64 ((m : Int) + 1 + 1 + 1 + 1 + 1 + 1 + 1 + 1 + 1 + 1 + 1)) _ rfl rfl (by kernel_rfl) rfl hth (by omega) hrg (by simp only [List.length_append, List.length_singleton, hF]; omega) ?_; intro w2 hth2 hg2 hr2; replace hgr := nmn_grown_trans hgr hg2; replace hth := hth2; replace hrg := hr2; clear hth2 hg2 hr2)
        | (with_reducible show wpList _ _ _ (⟨none, Op.store 3 (Operand.tmp 126) _, _, _, _, _⟩ :: _) _ _; refine nmn_store_push rfl 3 _ _ rfl rfl g _ (n * 28) (.int .i64 ((m : Int) + 1 + 1 + 1 + 1 + 1 + 1 + 1 + 1 + 1 + 1 + 1 + 1)) _ rfl rfl (by kernel_rfl) rfl hth (by omega) hrg (by simp only [List.length_append, List.length_singleton, hF]; omega) ?_; intro w2 hth2 hg2 hr2; replace hgr := nmn_grown_trans hgr hg2; replace hth := hth2; replace hrg := hr2; clear hth2 hg2 hr2)
        | (with_reducible show wpList _ _ _ (⟨none, Op.store 3 (Operand.tmp 134) _, _, _, _, _⟩ :: _) _ _; refine nmn_store_push rfl 3 _ _ rfl rfl g _ (n * 28) (.int .i64 ((m : Int) + 1 + 1 + 1 + 1 + 1 + 1 + 1 + 1 + 1 + 1 + 1 + 1 + 1)) _ rfl rfl (by kernel_rfl) rfl hth (by omega) hrg (by simp only [List.length_append, List.length_singleton, hF]; omega) ?_; intro w2 hth2 hg2 hr2; replace hgr := nmn_grown_trans hgr hg2; replace hth := hth2; replace hrg := hr2; clear hth2 hg2 hr2)
        | (with_reducible show wpList _ _ _ (⟨none, Op.store 4 (Operand.tmp 145) _, _, _, _, _⟩ :: _) _ _; refine nmn_store_push rfl 4 _ _ rfl rfl g _ (n * 28) (.bool (r14 == 0)) _ rfl rfl (by kernel_rfl) rfl hth (by omega) hrg (by simp only [List.length_append, List.length_singleton, hF]; omega) ?_; intro w2 hth2 hg2 hr2; replace hgr := nmn_grown_trans hgr hg2; replace hth := hth2; replace hrg := hr2; clear hth2 hg2 hr2)
        | (with_reducible show wpList _ _ _ (⟨none, Op.store 4 (Operand.tmp 156) _, _, _, _, _⟩ :: _) _ _; refine nmn_store_push rfl 4 _ _ rfl rfl g _ (n * 28) (.bool (r15 == 0)) _ rfl rfl (by kernel_rfl) rfl hth (by omega) hrg (by simp only [List.length_append, List.length_singleton, hF]; omega) ?_; intro w2 hth2 hg2 hr2; replace hgr := nmn_grown_trans hgr hg2; replace hth := hth2; replace hrg := hr2; clear hth2 hg2 hr2)
        | (with_reducible show wpList _ _ _ (⟨none, Op.store 3 (Operand.tmp 165) _, _, _, _, _⟩ :: _) _ _; refine nmn_store_push rfl 3 _ _ rfl rfl g _ (n * 28) (.int .i64 ((m : Int) + 1 + 1 + 1 + 1 + 1 + 1 + 1 + 1 + 1 + 1 + 1 + 1 + 1 + 1 + 1 + 1)) _ rfl rfl (by kernel_rfl) rfl hth (by omega) hrg (by simp only [List.length_append, List.length_singleton, hF]; omega) ?_; intro w2 hth2 hg2 hr2; replace hgr := nmn_grown_trans hgr hg2; replace hth := hth2; replace hrg := hr2; clear hth2 hg2 hr2)
        | (with_reducible show wpList _ _ _ (⟨none, Op.store 3 (Operand.tmp 173) _, _, _, _, _⟩ :: _) _ _; refine nmn_store_push rfl 3 _ _ rfl rfl g _ (n * 28) (.int .i64 ((m : Int) + 1 + 1 + 1 + 1 + 1 + 1 + 1 + 1 + 1 + 1 + 1 + 1 + 1 + 1 + 1 + 1 + 1)) _ rfl rfl (by kernel_rfl) rfl hth (by omega) hrg (by simp only [List.length_append, List.length_singleton, hF]; omega) ?_; intro w2 hth2 hg2 hr2; replace hgr := nmn_grown_trans hgr hg2; replace hth := hth2; replace hrg := hr2; clear hth2 hg2 hr2)
        | (with_reducible show wpList _ _ _ (⟨none, Op.store 4 (Operand.tmp 184) _, _, _, _, _⟩ :: _) _ _; refine nmn_store_push rfl 4 _ _ rfl rfl g _ (n * 28) (.bool (r18 == 0)) _ rfl rfl (by kernel_rfl) rfl hth (by omega) hrg (by simp only [List.length_append, List.length_singleton, hF]; omega) ?_; intro w2 hth2 hg2 hr2; replace hgr := nmn_grown_trans hgr hg2; replace hth := hth2; replace hrg := hr2; clear hth2 hg2 hr2)
        | (with_reducible show wpList _ _ _ (⟨none, Op.store 4 (Operand.tmp 195) _, _, _, _, _⟩ :: _) _ _; refine nmn_store_push rfl 4 _ _ rfl rfl g _ (n * 28) (.bool (r19 == 0)) _ rfl rfl (by kernel_rfl) rfl hth (by omega) hrg (by simp only [List.length_append, List.length_singleton, hF]; omega) ?_; intro w2 hth2 hg2 hr2; replace hgr := nmn_grown_trans hgr hg2; replace hth := hth2; replace hrg := hr2; clear hth2 hg2 hr2)
        | (with_reducible show wpList _ _ _ (⟨none, Op.store 3 (Operand.tmp 204) _, _, _, _, _⟩ :: _) _ _; refine nmn_store_push rfl 3 _ _ rfl rfl g _ (n * 28) (.int .i64 ((m : Int) + 1 + 1 + 1 + 1 + 1 + 1 + 1 + 1 + 1 + 1 + 1 + 1 + 1 + 1 + 1 + 1 + 1 + 1 + 1 + 1)) _ rfl rfl (by kernel_rfl) rfl hth (by omega) hrg (by simp only [List.length_append, List.length_singleton, hF]; omega) ?_; intro w2 hth2 hg2 hr2; replace hgr := nmn_grown_trans hgr hg2; replace hth := hth2; replace hrg := hr2; clear hth2 hg2 hr2)
        | (with_reducible show wpList _ _ _ (⟨none, Op.store 3 (Operand.tmp 212) _, _, _, _, _⟩ :: _) _ _; refine nmn_store_push rfl 3 _ _ rfl rfl g _ (n * 28) (.int .i64 ((m : Int) + 1 + 1 + 1 + 1 + 1 + 1 + 1 + 1 + 1 + 1 + 1 + 1 + 1 + 1 + 1 + 1 + 1 + 1 + 1 + 1 + 1)) _ rfl rfl (by kernel_rfl) rfl hth (by omega) hrg (by simp only [List.length_append, List.length_singleton, hF]; omega) ?_; intro w2 hth2 hg2 hr2; replace hgr := nmn_grown_trans hgr hg2; replace hth := hth2; replace hrg := hr2; clear hth2 hg2 hr2)
        | (with_reducible show wpList _ _ _ (⟨none, Op.store 3 (Operand.tmp 220) _, _, _, _, _⟩ :: _) _ _; refine nmn_store_push rfl 3 _ _ rfl rfl g _ (n * 28) (.int .i64 ((m : Int) + 1 + 1 + 1 + 1 + 1 + 1 + 1 + 1 + 1 + 1 + 1 + 1 + 1 + 1 + 1 + 1 + 1 + 1 + 1 + 1 + 1 + 1)) _ rfl rfl (by kernel_rfl) rfl hth (by omega) hrg (by simp only [List.length_append, List.length_singleton, hF]; omega) ?_; intro w2 hth2 hg2 hr2; replace hgr := nmn_grown_trans hgr hg2; replace hth := hth2; replace hrg := hr2; clear hth2 hg2 hr2)
        | (with_reducible show wpList _ _ _ (⟨none, Op.store 3 (Operand.tmp 228) _, _, _, _, _⟩ :: _) _ _; refine nmn_store_push rfl 3 _ _ rfl rfl g _ (n * 28) (.int .i64 ((m : Int) + 1 + 1 + 1 + 1 + 1 + 1 + 1 + 1 + 1 + 1 + 1 + 1 + 1 + 1 + 1 + 1 + 1 + 1 + 1 + 1 + 1 + 1 + 1)) _ rfl rfl (by kernel_rfl) rfl hth (by omega) hrg (by simp only [List.length_append, List.length_singleton, hF]; omega) ?_; intro w2 hth2 hg2 hr2; replace hgr := nmn_grown_trans hgr hg2; replace hth := hth2; replace hrg := hr2; clear hth2 hg2 hr2)
        | (with_reducible show wpList _ _ _ (⟨none, Op.store 3 (Operand.tmp 236) _, _, _, _, _⟩ :: _) _ _; refine nmn_store_push rfl 3 _ _ rfl rfl g _ (n * 28) (.int .i64 ((m : Int) + 1 + 1 + 1 + 1 + 1 + 1 + 1 + 1 + 1 + 1 + 1 + 1 + 1 + 1 + 1 + 1 + 1 + 1 + 1 + 1 + 1 + 1 + 1 + 1)) _ rfl rfl (by kernel_rfl) rfl hth (by omega) hrg (by simp only [List.length_append, List.length_singleton, hF]; omega) ?_; intro w2 hth2 hg2 hr2; replace hgr := nmn_grown_trans hgr hg2; replace hth := hth2; replace hrg := hr2; clear hth2 hg2 hr2)
        | (with_reducible show wpList _ _ _ (⟨none, Op.store 3 (Operand.tmp 244) _, _, _, _, _⟩ :: _) _ _; refine nmn_store_push rfl 3 _ _ rfl rfl g _ (n * 28) (.int .i64 ((m : Int) + 1 + 1 + 1 + 1 + 1 + 1 + 1 + 1 + 1 + 1 + 1 + 1 + 1 + 1 + 1 + 1 + 1 + 1 + 1 + 1 + 1 + 1 + 1 + 1 + 1)) _ rfl rfl (by kernel_rfl) rfl hth (by omega) hrg (by simp only [List.length_append, List.length_singleton, hF]; omega) ?_; intro w2 hth2 hg2 hr2; replace hgr := nmn_grown_trans hgr hg2; replace hth := hth2; replace hrg := hr2; clear hth2 hg2 hr2)
        | (with_reducible show wpList _ _ _ (⟨none, Op.store 3 (Operand.tmp 252) _, _, _, _, _⟩ :: _) _ _; refine nmn_store_push rfl 3 _ _ rfl rfl g _ (n * 28) (.int .i64 ((m : Int) + 1 + 1 + 1 + 1 + 1 + 1 + 1 + 1 + 1 + 1 + 1 + 1 + 1 + 1 + 1 + 1 + 1 + 1 + 1 + 1 + 1 + 1 + 1 + 1 + 1 + 1)) _ rfl rfl (by kernel_rfl) rfl hth (by omega) hrg (by simp only [List.length_append, List.length_singleton, hF]; omega) ?_; intro w2 hth2 hg2 hr2; replace hgr := nmn_grown_trans hgr hg2; replace hth := hth2; replace hrg := hr2; clear hth2 hg2 hr2)
        | (with_reducible show wpList _ _ _ (⟨none, Op.store 3 (Operand.tmp 260) _, _, _, _, _⟩ :: _) _ _; refine nmn_store_push rfl 3 _ _ rfl rfl g _ (n * 28) (.int .i64 ((m : Int) + 1 + 1 + 1 + 1 + 1 + 1 + 1 + 1 + 1 + 1 + 1 + 1 + 1 + 1 + 1 + 1 + 1 + 1 + 1 + 1 + 1 + 1 + 1 + 1 + 1 + 1 + 1)) _ rfl rfl (by kernel_rfl) rfl hth (by omega) hrg (by simp only [List.length_append, List.length_singleton, hF]; omega) ?_; intro w2 hth2 hg2 hr2; replace hgr := nmn_grown_trans hgr hg2; replace hth := hth2; replace hrg := hr2; clear hth2 hg2 hr2)
        | (go_at_call 15; refine (MT _ (by omega) (by omega)).mono ?_; rintro e w3 ⟨rfl, hb⟩; replace hgr := nmn_grown_below hgr hb; replace hrg := nm_range_keep hrg hb (nmn_there_lt hth (by omega)); replace hth := nm_there_below hth hb (nmn_there_lt hth (by omega)); clear hb)
        | fail)
      have hrg' : w2.rangeAt g 0 (flatK (j + 1)) := by
        simp only [List.append_assoc, List.cons_append, List.nil_append] at hrg
        rw [HF.out, markV, HK5.out, HK6.out, HK8.out, HK9.out, HK14.out, HK15.out, HK18.out, HK19.out]
        exact hrg
      go_roundw
      case rel => exact ⟨j + 1, by omega, by go_num, by have := HM.out; first | rfl | (congr 1; omega), hth, hrg', hgr⟩
      case measure => simp [intOf]; omega
    · have e : j = n := by omega
      subst e
      go_wp2
      go_ret
      exact ⟨rfl, hgr, hrg⟩
set_option maxRecDepth 100000 in
set_option maxHeartbeats 1000000 in
theorem markNodesX_none (a : Option Addr) (cap : Nat) (w : World) :
    Calls Tryz.prog 7 #[.slice a 0 cap, .int .i64 1] w fun e w' => e = .returned (.int .i64 1) ∧ w' = w := by
  go_enter Tryz.func7, Tryz.ntmps7
  go_wp2_with fail
  refine wp_loop_rounds 1 ?_
  rw [rounds_succ]
  go_wp2
  go_ret
  exact ⟨rfl, rfl⟩
end Go.Proofs.YtddnphgpdnedbaaGreatDoor
