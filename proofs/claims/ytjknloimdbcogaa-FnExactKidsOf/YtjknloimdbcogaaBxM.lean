/-
  The law's own marking of a row of boxes, and its looking again: it writes into that row alone, and counts on.
-/
import Derived.Test.YtjknloimdbcogaaBxE
import Derived.Lib.ItoaNum
import Derived.WalkSpells
import Derived.WalkLawsBesides
namespace Go.Proofs.Ytjknloimdbcogaa
open Go.ChangeShapes Go.WideShapes Go.ChangeAt Go.RowKit
set_option linter.unusedVariables false

/-- A slice of one digit's byte, as a string. -/
theorem bmark_one (m : Int) (h0 : 0 ≤ m) (h1 : m < 10) (b : Nat) (W : World) (hc : W.cell? ⟨b, 0, none⟩ = some (.int .u8 (48 + m))) :
    (convert 43 9 (.slice (some ⟨b, 0, none⟩) 1 1)).run Try.prog W = .ok (.string ⟨#[UInt8.ofNat (48 + m.toNat)]⟩) W := by
  have hl : (UInt8.ofNat (48 + m.toNat)).toNat = 48 + m.toNat := by
    rw [UInt8.toNat_ofNat']
    omega
  exact run_convert_bytes_back W 43 9 5 ⟨b, 0, none⟩ 1 [UInt8.ofNat (48 + m.toNat)] Try.underlying43 Try.underlying5 Try.underlying9 (fun j hj => by
    have : j = 0 := by simpa using hj
    subst this
    simp only [List.getElem_cons_zero, hl]
    have e : ((48 + m.toNat : Nat) : Int) = 48 + m := by omega
    rw [e]
    simpa [Addr.add] using hc)
theorem bmark_wrap8 (x : Int) (h0 : 0 ≤ x) (h1 : x ≤ 255) : IntKind.u8.wrap x = x := by
  have : IntKind.u8.wrap x = x % 256 := by simp [IntKind.wrap, IntKind.bits, IntKind.signed]
  rw [this]; omega

/-- The text of a mark. -/
def mkT : Nat → Nat → ByteArray → ByteArray
  | 0, _, acc => acc
  | f + 1, m, acc => if m = 0 then acc else mkT f (m / 10) (⟨#[UInt8.ofNat (48 + m % 10)]⟩ ++ acc)
theorem mkT_more : ∀ (f g m : Nat) (acc : ByteArray), m ≤ f → m ≤ g → mkT f m acc = mkT g m acc
  | 0, 0, m, acc, _, _ => rfl
  | 0, g + 1, m, acc, h, _ => by obtain rfl : m = 0 := by omega
                                 rfl
  | f + 1, 0, m, acc, _, h => by obtain rfl : m = 0 := by omega
                                 rfl
  | f + 1, g + 1, m, acc, h, h' => by
    rw [mkT, mkT]
    split
    · rfl
    · exact mkT_more f g (m / 10) _ (by omega) (by omega)
theorem mkT_step (m : Nat) (acc : ByteArray) (h : 0 < m) : mkT m m acc = mkT (m / 10) (m / 10) (⟨#[UInt8.ofNat (48 + m % 10)]⟩ ++ acc) := by
  obtain ⟨f, rfl⟩ : ∃ f, m = f + 1 := ⟨m - 1, by omega⟩
  rw [mkT, if_neg (by omega)]
  exact mkT_more f _ _ _ (by omega) (Nat.le_refl _)
def markT (k : Nat) : ByteArray := ⟨#[109]⟩ ++ mkT k k ByteArray.empty
theorem digit_of (r : Nat) : (48 + UInt8.ofNat r : UInt8) = UInt8.ofNat (48 + r) := by simp
set_option maxHeartbeats 2000000 in
theorem bmarkText_any (k : Nat) (w : World) (h0 : 0 < k) (h1 : k ≤ 100000000) :
    Calls Try.prog 18 #[.int .i64 k] w fun e w' => e = .returned (.string (markT k)) ∧ Below w.heap.size w w' := by
  have hk0 : ¬ ((k : Int) ≤ 0) := by omega
  go_enter Try.func18, Try.ntmps18
  go_wp2_with fail
  go_loopw [0, 3] (fun q s wr => ∃ (m : Nat) (t : ByteArray), q = .int .i64 m ∧ s = .string t ∧ t.size + m ≤ 100000000 ∧ mkT m m t = mkT k k ByteArray.empty ∧ Below w.heap.size w wr) (fun q _ _ => (intOf q).toNat)
  case atStart => exact ⟨k, _, rfl, rfl, by show 0 + k ≤ _; omega, rfl, Below.refl _ _⟩
  case round =>
    obtain ⟨m, t, rfl, rfl, hm, hT, hbw⟩ := hrel
    have HT : Hid (mkT m m t = mkT k k ByteArray.empty) := hT
    clear hT
    by_cases hm0 : 0 < m
    · have g0 : (0 : Int) < (m : Int) := by omega
      obtain ⟨r, hr⟩ : ∃ r : Nat, r = m % 10 := ⟨_, rfl⟩
      obtain ⟨d, hd⟩ : ∃ d : Nat, d = m / 10 := ⟨_, rfl⟩
      have e1 : (m : Int).tmod 10 = (r : Int) := by rw [Int.tmod_eq_emod_of_nonneg (by omega)]; omega
      have e2 : (m : Int).tdiv 10 = (d : Int) := by rw [Int.tdiv_eq_ediv_of_nonneg (by omega)]; omega
      have e1' : (m : Int) % 10 = (r : Int) := by omega
      have e2' : (m : Int) / 10 = (d : Int) := by omega
      have kc := bmark_one (r : Int) (by omega) (by omega)
      have w8 := bmark_wrap8 (48 + (r : Int)) (by omega) (by omega)
      have HR : Hid (r = m % 10) := hr
      have HD : Hid (d = m / 10) := hd
      have hr9 : (r : Int) ≤ 9 := by omega
      have hdm : d < m := by omega
      clear hr hd
      go_wp2
      go_roundw
      case rel => exact ⟨d, _, rfl, rfl, by rw [ByteArray.size_append]; show 1 + _ + _ ≤ _; omega, by rw [← HT.out, mkT_step m t hm0, ← HD.out, ← HR.out]; first | rfl | rw [digit_of], hbw.alloc hbw.size _⟩
      case measure => simp [intOf]; omega
    · have : m = 0 := by omega
      subst this
      go_wp2
      go_ret
      exact ⟨by unfold markT; rw [← HT.out]; rfl, hbw⟩

theorem bxn_grown_trans {w w1 w2 : World} {b : Nat} (h : w.grownBy w1 (some b)) (k : w1.grownBy w2 (some b)) : w.grownBy w2 (some b) :=
  ⟨k.os.trans h.os, k.tape.trans h.tape, k.output.trans h.output, Nat.le_trans h.size k.size, fun i hi hne => (k.block i (Nat.lt_of_lt_of_le hi h.size) hne).trans (h.block i hi hne)⟩
theorem bxn_grown_set (w : World) (b o : Nat) (v : Value) : w.grownBy (w.setCell ⟨b, o, none⟩ v) (some b) :=
  ⟨rfl, rfl, rfl, by simp, fun k _ hne => Below.heap_setCell w ⟨b, o, none⟩ v k (by simpa using hne)⟩
theorem bxn_grown_below {w w1 w2 : World} {b : Nat} (h : w.grownBy w1 (some b)) (k : Below w1.heap.size w1 w2) : w.grownBy w2 (some b) :=
  ⟨k.os.trans h.os, k.tape.trans h.tape, k.output.trans h.output, Nat.le_trans h.size k.size, fun i hi hne => (k.block i (Nat.lt_of_lt_of_le hi h.size)).trans (h.block i hi hne)⟩
theorem bxn_grown_refl (w : World) (b : Nat) : w.grownBy w (some b) := ⟨rfl, rfl, rfl, Nat.le_refl _, fun _ _ _ => rfl⟩
theorem bxn_there_lt {w : World} {g N : Nat} (h : w.there g 0 N) (h0 : 0 < N) : g < w.heap.size := by
  obtain ⟨u, hu⟩ := Option.isSome_iff_exists.1 (h 0 h0).1
  exact World.block_lt_of_cell? _ _ hu

/-- One cell stored into a row that may be written: which world it is does not matter. -/
theorem bxn_store_any {P : Program} {ops : Array Oper} {rest : List Oper} {o : Oper} {a : Act} {w : World} {Q : Exit → Act → World → Prop} (hgd : o.guard = none) (ty : TypeId) (x y : Operand) (ho : o.op = .store ty x y)
    (hd : o.dst = none) (g i N : Nat) (v : Value) (hx : a.eval x = .pointer (some ⟨g, i, none⟩)) (hy : (a.eval y).cells.toList = [v]) (hi : (P.info? ty).map (·.size) = some 1) (h1 : v.oneCell' = true)
    (ht : w.there g 0 N) (hl : i < N) (h : ∀ w', w'.there g 0 N → w.grownBy w' (some g) → wpList P ops Q rest a w') : wpList P ops Q (o :: rest) a w := by
  refine wpList_plain hgd fun K hK => ?_
  unfold Oper.wp execOp
  have hj := ht i hl
  rw [Nat.zero_add] at hj
  have hs := run_storeCells_cells (P := P) g i [v] 0 w (fun j hj' => by obtain rfl : j = 0 := (by simpa using hj'); simpa using hj.1) (fun j hj' => by obtain rfl : j = 0 := (by simpa using hj'); simpa using hj.2) (fun u hu => by rw [List.mem_singleton] at hu; subst hu; exact h1)
  simp only [Nat.add_zero] at hs
  cases hq : P.info? ty with
  | none => simp [hq] at hi
  | some inf =>
    have hsz : (a.eval y).cells.size = inf.size := by
      have := congrArg List.length hy
      simp [hq] at hi
      simp at this
      omega
    have hsv : (storeVar ty ⟨g, i, none⟩ (a.eval y)).run P w = .ok () (w.setCells g i [v]) := by
      simp [storeVar, sizeOf, typeInfo, hq, hsz, hy, hs]
    simp only [ho, hx, Instr.storeAt, Instr.sureAddr, Sem.run_bind, Sem.run_pure, Result.andThen_ok, hsv]
    refine hK _ _ ?_
    rw [hd]
    exact h _ (World.there_setCells ht _ _ _) (bxn_grown_set w g i v)

theorem range_push {w : World} {g i N : Nat} {L : List Value} {v : Value} (ht : w.there g 0 N) (hL : w.rangeAt g 0 L) (hi : i = L.length) (hN : i < N) : (w.setCells g i [v]).rangeAt g 0 (L ++ [v]) := by
  intro c u hu
  by_cases h : c < L.length
  · rw [List.getElem?_append_left h] at hu
    exact World.rangeAt_setCells_apart hL _ _ _ (by right; left; omega) c u hu
  · rw [List.getElem?_append_right (by omega)] at hu
    have hc : c = i := by
      have := (List.getElem?_eq_some_iff.1 hu).1
      simp at this
      omega
    subst hc
    have h1 : [v][0]? = some u := by rw [← hu]; congr 1; omega
    have := World.rangeAt_setCells_same w g c [v] (fun j hj => by
      have hj' : j = 0 := by simpa using hj
      subst hj'
      have := ht c hN
      rwa [Nat.zero_add] at this) 0 u h1
    rwa [Nat.zero_add]
theorem bxn_store_push {P : Program} {ops : Array Oper} {rest : List Oper} {o : Oper} {a : Act} {w : World} {Q : Exit → Act → World → Prop} (hgd : o.guard = none) (ty : TypeId) (x y : Operand) (ho : o.op = .store ty x y)
    (hd : o.dst = none) (g i N : Nat) (v : Value) (L : List Value) (hx : a.eval x = .pointer (some ⟨g, i, none⟩)) (hy : (a.eval y).cells.toList = [v]) (hi : (P.info? ty).map (·.size) = some 1) (h1 : v.oneCell' = true)
    (ht : w.there g 0 N) (hl : i < N) (hL : w.rangeAt g 0 L) (hiL : i = L.length) (h : ∀ w', w'.there g 0 N → w.grownBy w' (some g) → w'.rangeAt g 0 (L ++ [v]) → wpList P ops Q rest a w') : wpList P ops Q (o :: rest) a w := by
  refine wpList_plain hgd fun K hK => ?_
  unfold Oper.wp execOp
  have hj := ht i hl
  rw [Nat.zero_add] at hj
  have hs := run_storeCells_cells (P := P) g i [v] 0 w (fun j hj' => by obtain rfl : j = 0 := (by simpa using hj'); simpa using hj.1) (fun j hj' => by obtain rfl : j = 0 := (by simpa using hj'); simpa using hj.2) (fun u hu => by rw [List.mem_singleton] at hu; subst hu; exact h1)
  simp only [Nat.add_zero] at hs
  cases hq : P.info? ty with
  | none => simp [hq] at hi
  | some inf =>
    have hsz : (a.eval y).cells.size = inf.size := by
      have := congrArg List.length hy
      simp [hq] at hi
      simp at this
      omega
    have hsv : (storeVar ty ⟨g, i, none⟩ (a.eval y)).run P w = .ok () (w.setCells g i [v]) := by
      simp [storeVar, sizeOf, typeInfo, hq, hsz, hy, hs]
    simp only [ho, hx, Instr.storeAt, Instr.sureAddr, Sem.run_bind, Sem.run_pure, Result.andThen_ok, hsv]
    refine hK _ _ ?_
    rw [hd]
    exact h _ (World.there_setCells ht _ _ _) (bxn_grown_set w g i v) (range_push ht hL hiL hl)
end Go.Proofs.Ytjknloimdbcogaa
