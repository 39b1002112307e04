/-
  The program's readStyle: what it reads is told again.
  What the listed variables give: a table of strings that is laid holds its strings, cell for cell; and so for the tables that this seat's row lists.
-/
import Derived.Test.YtddnphgpdnedbaaGreatDoorMRw
import Derived.Test.YtddnphgpdnedbaaGreatDoorMEr
import Derived.Test.YtddnphgpdnedbaaGreatDoorMTs
import Derived.Test.YtddnphgpdnedbaaGreatDoorMTg
import Derived.Test.YtddnphgpdnedbaaGreatDoorRows
import Derived.WalkKit
import Derived.ProofKit
import Derived.OpenShut
import Derived.Lib.LaidTab
import Derived.Lib.ItoaMem
import Derived.LaidSub
import Derived.LaidLaws
import Derived.MakeChecks
import Derived.Stop.LaidErr
namespace Go.Proofs.YtddnphgpdnedbaaGreatDoor
open Go.ChangeShapes Go.WideShapes Go.ChangeAt Go.RowKit
set_option linter.unusedVariables false

/-- X can be told, and its text is s. -/
def Rel (s : ByteArray) (X : St) : Prop := txtB X = true ∧ textTo X 18 = s
/-- The pieces of X from its k-th thing on. -/
def restN (X : St) : Nat → Nat → ByteArray
  | 0, _ => ⟨#[]⟩
  | n + 1, k => if sameB X k then restN X n (k + 1) else pieceT X k ++ restN X n (k + 1)
def restT (X : St) (k : Nat) : ByteArray := restN X (18 - k) k
/-- The first k things of X, plain ones behind. -/
def mixT (X : St) : Nat → St
  | 0 => plainS
  | k + 1 => setT (mixT X k) k (getN X k) (getZ X k)
/-- What the loop holds. -/
def Gh (s : ByteArray) (k : Nat) (Y : St) (t : ByteArray) : Prop := ∀ X, Rel s X → t = restT X k ∧ Y = mixT X k
/-- One step of the reading, where a text is told of some style. -/
structure GhostSteps (s : ByteArray) : Prop where
  zero : Gh s 0 plainS s
  unsaid : ∀ {k Y t}, k < 18 → Gh s k Y t → frB k t = false → Gh s (k + 1) Y t
  bad : ∀ {k Y t}, k < 18 → Gh s k Y t → frB k t = true → rdOk k (frV k t) = false → ¬ ∃ X, Rel s X
  good : ∀ {k Y t}, k < 18 → Gh s k Y t → frB k t = true → rdOk k (frV k t) = true → Gh s (k + 1) (rdSt Y k (frV k t)) (frR k t)
  last : ∀ {Y t}, Gh s 18 Y t → ∀ X, Rel s X → X = Y
/-- The sentinels that errors.Is compares, with their rows. -/
structure Sent (w : World) (au ab : Addr) : Prop where
  u : UnsE au w
  b : BeyE ab w
  ne : ab ≠ au
  ru : ∃ c t, w.heap[au.block]? = some (.cells c t (0, 0))
  rb : ∃ c t, w.heap[ab.block]? = some (.cells c t (0, 0))
theorem Sent.below {w w' : World} {au ab : Addr} (h : Sent w au ab) (hb : Below w.heap.size w w') : Sent w' au ab := by
  obtain ⟨c, t, hu⟩ := h.ru
  obtain ⟨c2, t2, hb2⟩ := h.rb
  exact ⟨h.u.below hb, h.b.below hb, h.ne, ⟨c, t, below_lies hb hu (lies_lt hu)⟩, ⟨c2, t2, below_lies hb hb2 (lies_lt hb2)⟩⟩
theorem is_fault {w : World} {au ab : Addr} (S : Sent w au ab) (q : Nat) (x : Value) (hc : w.cell? ⟨q, 1, none⟩ = some x) (hx : FaultE ab x) :
    Calls Tryz.prog 95 #[.iface 136 (.pointer (some ⟨q, 0, none⟩)), .iface 209 (.pointer (some au))] w fun e w' => e = .returned (.bool false) ∧ w' = w := by
  rcases hx with ⟨p, rfl⟩ | rfl
  · exact is_form q 0 au p w (by rw [Nat.zero_add]; exact hc)
  · obtain ⟨c, t, hu⟩ := S.ru
    obtain ⟨c2, t2, hb2⟩ := S.rb
    exact is_other q 0 au ab c2 c t2 t w (by rw [Nat.zero_add]; exact hc) S.ne hb2 hu
theorem wpList_gen1R {P : Program} {ops : Array Oper} {rest : List Oper} {Q : Exit → Act → World → Prop} {a : Act} {w : World} {A : Obj}
    (h : ∀ W, Below w.heap.size w W → W.heap[w.heap.size]? = some A → wpList P ops Q rest a W) : wpList P ops Q rest a (w.alloc A) :=
  h _ ((Below.refl _ _).alloc (Nat.le_refl _) _) (heap_at _ _ _ rfl)
theorem grown_below {w w1 : World} {b B : Nat} (h : w.grownBy w1 (some b)) (hB : B ≤ b) (hw : B ≤ w.heap.size) : Below B w w1 := ⟨h.os, h.tape, h.output, h.size, fun k hk => h.block k (by omega) (fun e => by cases e; omega)⟩
theorem frR_size (k : Nat) (t : ByteArray) : (frR k t).size ≤ t.size := Nat.le_trans (s_part_size _) (preR_size _ _)

set_option maxRecDepth 100000 in
set_option maxHeartbeats 8000000 in
theorem readStyle_any (s : ByteArray) (w : World) (hs : s.size ≤ 1048576) (E : Env w) (au ab : Addr) (S : Sent w au ab) (hT : ErrT w) (lt1 : ∃ et ev, w.cell? ⟨1, 0, none⟩ = some (.iface et ev)) (G : GhostSteps s) :
    Calls Tryz.prog 77 #[.string s] w fun e w' => (∃ (Y : St) (x : Value), e = .returned (.tuple #[.agg (#[.int .i64 Y.sh, .int .i64 Y.fl, .int .i64 Y.cl, .bool Y.w.a, .bool Y.w.p, .int .i64 Y.w.n, .bool Y.h.a, .bool Y.h.p, .int .i64 Y.h.n, .int .i64 Y.mn, .int .i64 Y.mx, .int .i64 Y.mt, .bool Y.mr.a, .bool Y.mr.p, .int .i64 Y.mr.n, .int .i64 Y.mb, .bool Y.ml.a, .bool Y.ml.p, .int .i64 Y.ml.n, .int .i64 Y.bo, .int .i64 Y.pa, .int .i64 Y.wh, .int .i64 Y.al, .int .i64 Y.lh, .int .i64 Y.ri, .int .i64 Y.dn]), x]) ∧ ((x = .nilIface ∧ Rel s Y ∧ ∀ X, Rel s X → X = Y) ∨ ((∃ et ev, x = .iface et ev) ∧ ¬ ∃ X, Rel s X))) ∧ Below w.heap.size w w' := by
  have HG : Hid (GhostSteps s) := G
  have HS : Hid (Sent w au ab) := S
  have HT : Hid (ErrT w) := hT
  have HE : Hid (Env w) := E
  have HL : Hid (∃ et ev, w.cell? ⟨1, 0, none⟩ = some (.iface et ev)) := lt1
  clear G S hT E lt1
  go_enter Tryz.func77, Tryz.ntmps77
  go_wp2_with (first
    | (go_at_call 92; refine (implPlain_at _).mono ?_; rintro e w2 ⟨rfl, rfl⟩)
    | ((with_reducible show wpList _ _ _ (⟨none, Op.store 34 (Operand.tmp 4) (Operand.tmp 12), _, _, _, _⟩ :: _) _ _); refine wpList_store_new rfl 34 _ _ rfl rfl (#[.int .i64 1, .int .i64 0, .int .i64 0, .bool true, .bool false, .int .i64 0, .bool true, .bool false, .int .i64 0, .int .i64 0, .int .i64 (-1), .int .i64 0, .bool false, .bool false, .int .i64 0, .int .i64 0, .bool false, .bool false, .int .i64 0, .int .i64 0, .int .i64 0, .int .i64 1, .int .i64 1, .int .i64 0, .int .i64 0, .int .i64 0]) 34 _ _ (by simp) rfl rfl (by kernel_rfl) rfl (by kernel_rfl) ?_)
    | (go_at_call 93; refine (thingsOf_at _ _).mono ?_; rintro e w2 ⟨rfl, rfl⟩))
  go_loopw [5, 16] (fun r i wr => ∃ (k : Nat) (t : ByteArray) (Y : St), k ≤ 18 ∧ i = .int .i64 k ∧ r = .string t ∧ t.size ≤ s.size ∧ Gh s k Y t ∧ wr.heap[w.heap.size]? = some (.cells (#[.int .i64 0, .int .i64 0, .int .i64 0, .bool false, .bool false, .int .i64 0, .bool false, .bool false, .int .i64 0, .int .i64 0, .int .i64 0, .int .i64 0, .bool false, .bool false, .int .i64 0, .int .i64 0, .bool false, .bool false, .int .i64 0, .int .i64 0, .int .i64 0, .int .i64 0, .int .i64 0, .int .i64 0, .int .i64 0, .int .i64 0]) 34 (0, 0)) ∧ wr.heap[w.heap.size + 1 + 1]? = some (.cells (#[.int .i64 Y.sh, .int .i64 Y.fl, .int .i64 Y.cl, .bool Y.w.a, .bool Y.w.p, .int .i64 Y.w.n, .bool Y.h.a, .bool Y.h.p, .int .i64 Y.h.n, .int .i64 Y.mn, .int .i64 Y.mx, .int .i64 Y.mt, .bool Y.mr.a, .bool Y.mr.p, .int .i64 Y.mr.n, .int .i64 Y.mb, .bool Y.ml.a, .bool Y.ml.p, .int .i64 Y.ml.n, .int .i64 Y.bo, .int .i64 Y.pa, .int .i64 Y.wh, .int .i64 Y.al, .int .i64 Y.lh, .int .i64 Y.ri, .int .i64 Y.dn]) 34 (0, 0)) ∧ wr.heap[w.heap.size + 1 + 1 + 1]? = some (.cells (thingCells (w.heap.size + 1 + 1)) 130 (0, 0)) ∧ Below w.heap.size w wr) (fun _ i _ => 18 - (intOf i).toNat)
  case atStart => exact ⟨0, s, plainS, by omega, rfl, rfl, Nat.le_refl _, HG.out.zero, heap_in (heap_in (heap_in (heap_at _ _ _ rfl))), heap_in (heap_at _ _ _ (by simp)), heap_at _ _ _ (by simp), ((((Below.refl _ _).alloc (Nat.le_refl _) _).alloc (by simp) _).alloc (by simp; omega) _).alloc (by simp; omega) _ |>.drew⟩
  case round =>
    obtain ⟨k, t, Y, hk, rfl, rfl, ht, hgh, lz, ly, lth, bel⟩ := hrel
    have HGH : Hid (Gh s k Y t) := hgh
    have ltt := lies_lt lth
    clear hgh
    by_cases hlt : k < 18
    · obtain ⟨t0, t1, t2, t3, t4, t5⟩ := thing_cells (w.heap.size + 1 + 1) hlt
      have c0 := (lies_cell lth _).trans t0
      have c1 := (lies_cell lth _).trans t1
      have c2 := (lies_cell lth _).trans t2
      have c3 := (lies_cell lth _).trans t3
      have c4 := (lies_cell lth _).trans t4
      have c5 := (lies_cell lth _).trans t5
      have LZ : Hid (wr.heap[w.heap.size]? = some (.cells (#[.int .i64 0, .int .i64 0, .int .i64 0, .bool false, .bool false, .int .i64 0, .bool false, .bool false, .int .i64 0, .int .i64 0, .int .i64 0, .int .i64 0, .bool false, .bool false, .int .i64 0, .int .i64 0, .bool false, .bool false, .int .i64 0, .int .i64 0, .int .i64 0, .int .i64 0, .int .i64 0, .int .i64 0, .int .i64 0, .int .i64 0]) 34 (0, 0))) := lz
      have LY : Hid (wr.heap[w.heap.size + 1 + 1]? = some (.cells (#[.int .i64 Y.sh, .int .i64 Y.fl, .int .i64 Y.cl, .bool Y.w.a, .bool Y.w.p, .int .i64 Y.w.n, .bool Y.h.a, .bool Y.h.p, .int .i64 Y.h.n, .int .i64 Y.mn, .int .i64 Y.mx, .int .i64 Y.mt, .bool Y.mr.a, .bool Y.mr.p, .int .i64 Y.mr.n, .int .i64 Y.mb, .bool Y.ml.a, .bool Y.ml.p, .int .i64 Y.ml.n, .int .i64 Y.bo, .int .i64 Y.pa, .int .i64 Y.wh, .int .i64 Y.al, .int .i64 Y.lh, .int .i64 Y.ri, .int .i64 Y.dn]) 34 (0, 0))) := ly
      have LT : Hid (wr.heap[w.heap.size + 1 + 1 + 1]? = some (.cells (thingCells (w.heap.size + 1 + 1)) 130 (0, 0))) := lth
      have bW : Below w.heap.size w (wr.alloc (.cells (#[.string (nmT k), .pointer (p1T (w.heap.size + 1 + 1) k), .pointer (p2T (w.heap.size + 1 + 1) k), .int .i64 (loT k), .int .i64 (hiT k), .bool (npT k)]) 130)) := bel.alloc bel.size _
      clear t0 t1 t2 t3 t4 t5 lz ly lth
      have hts : t.size ≤ 1048576 := by omega
      cases hfr : frB k t
      · have FR := front_unsaid (w.heap.size + 1 + 1) k t (wr.alloc (.cells (#[.string (nmT k), .pointer (p1T (w.heap.size + 1 + 1) k), .pointer (p2T (w.heap.size + 1 + 1) k), .int .i64 (loT k), .int .i64 (hiT k), .bool (npT k)]) 130)) hts au (HS.out.u.below bW) hfr
        have HN : Hid (Gh s (k + 1) Y t) := HG.out.unsaid hlt HGH.out hfr
        clear bW
        go_wp2_with fail
        refine FR.mono ?_
        rintro e w1 ⟨q, rfl, hq, hb⟩
        have bW1 : Below wr.heap.size wr w1 := ((Below.refl _ _).alloc (Nat.le_refl _) _).trans (hb.mono (by simp))
        have b1 := bel.trans (bW1.mono bel.size)
        have hU : w1.cell? ⟨0, 0, none⟩ = some (.iface 209 (.pointer (some au))) := HS.out.u.below b1
        have lz := below_lies bW1 LZ.out (by omega)
        have ly := below_lies bW1 LY.out (by omega)
        have lth := below_lies bW1 LT.out (by omega)
        clear hb bW1 FR c0 c1 c2 c3 c4 c5 LZ LY LT bel
        go_wp2_with fail
        refine (is_same q 0 au w1 (by rw [Nat.zero_add]; exact hq)).mono ?_
        rintro e w2 ⟨rfl, hw⟩
        have hw := hw.symm
        subst hw
        go_wp2
        go_roundw
        case rel => exact ⟨k + 1, t, Y, by omega, by go_num, rfl, ht, HN.out, lz, ly, lth, b1⟩
        case measure => simp [intOf]; omega
      · have FR := front_said Y (w.heap.size + 1 + 1) k hlt t (wr.alloc (.cells (#[.string (nmT k), .pointer (p1T (w.heap.size + 1 + 1) k), .pointer (p2T (w.heap.size + 1 + 1) k), .int .i64 (loT k), .int .i64 (hiT k), .bool (npT k)]) 130)) hts ab (HS.out.b.below bW) (HT.out.below bW) (heap_in LY.out) hfr
        clear bW
        go_wp2_with fail
        refine FR.mono ?_
        rintro e w1 ⟨he, ly, hg⟩
        have bW1 : Below (w.heap.size + 1 + 1) wr w1 := ((Below.refl _ _).alloc (by omega) _).trans (grown_below hg (Nat.le_refl _) (by simp; omega))
        have b1 := bel.trans (bW1.mono (by omega))
        have lz := below_lies bW1 LZ.out (by omega)
        have lth : w1.heap[w.heap.size + 1 + 1 + 1]? = some (.cells (thingCells (w.heap.size + 1 + 1)) 130 (0, 0)) := (hg.block _ (by simp; omega) (by simp)).trans (heap_in LT.out)
        have hU : w1.cell? ⟨0, 0, none⟩ = some (.iface 209 (.pointer (some au))) := HS.out.u.below b1
        clear hg bW1 FR c0 c1 c2 c3 c4 c5 LZ LY LT bel
        rcases he with ⟨hok, rfl⟩ | ⟨hok, q, x, rfl, hq, hx⟩
        · have HN : Hid (Gh s (k + 1) (rdSt Y k (frV k t)) (frR k t)) := HG.out.good hlt HGH.out hfr hok
          have hrs : (frR k t).size ≤ s.size := Nat.le_trans (frR_size k t) ht
          generalize rdSt Y k (frV k t) = Y2 at ly HN
          generalize frR k t = t2 at HN hrs ⊢
          go_wp2_with fail
          refine (is_nil au w1).mono ?_
          rintro e w2 ⟨rfl, hw⟩
          have hw := hw.symm
          subst hw
          go_wp2
          go_roundw
          case rel => exact ⟨k + 1, t2, Y2, by omega, by go_num, rfl, hrs, HN.out, lz, ly, lth, b1⟩
          case measure => simp [intOf]; omega
        · have HN : Hid (¬ ∃ X, Rel s X) := HG.out.bad hlt HGH.out hfr hok
          go_wp2_with fail
          refine (is_fault (HS.out.below b1) q x hq hx).mono ?_
          rintro e w2 ⟨rfl, hw⟩
          have hw := hw.symm
          subst hw
          have n0 : (#[.int .i64 0, .int .i64 0, .int .i64 0, .bool false, .bool false, .int .i64 0, .bool false, .bool false, .int .i64 0, .int .i64 0, .int .i64 0, .int .i64 0, .bool false, .bool false, .int .i64 0, .int .i64 0, .bool false, .bool false, .int .i64 0, .int .i64 0, .int .i64 0, .int .i64 0, .int .i64 0, .int .i64 0, .int .i64 0, .int .i64 0] : Array Value).size = 26 := rfl
          go_wp2_with (first
            | ((with_reducible show wpList _ _ _ (⟨some 31, Op.build 34 _, _, _, _, _⟩ :: _) _ _); refine wpList_buildTo rfl 34 _ rfl _ rfl (#[.int .i64 0, .int .i64 0, .int .i64 0, .bool false, .bool false, .int .i64 0, .bool false, .bool false, .int .i64 0, .int .i64 0, .int .i64 0, .int .i64 0, .bool false, .bool false, .int .i64 0, .int .i64 0, .bool false, .bool false, .int .i64 0, .int .i64 0, .int .i64 0, .int .i64 0, .int .i64 0, .int .i64 0, .int .i64 0, .int .i64 0]) (by kernel_rfl) ?_)
            | ((with_reducible show wpList _ _ _ (⟨none, Op.store 34 _ _, _, _, _, _⟩ :: _) _ _); refine wpList_putA rfl _ _ _ rfl rfl _ _ _ _ _ _ rfl rfl lz n0 (by kernel_rfl) (by kernel_rfl) (by kernel_rfl) ?_; intro w3 p l3 n3; refine stay_p ?_))
          have b3 := p.below b1 (Nat.le_refl _)
          unfold stayP
          go_wp2
          exact bodyPost_ret (v := .tuple #[.agg (#[.int .i64 0, .int .i64 0, .int .i64 0, .bool false, .bool false, .int .i64 0, .bool false, .bool false, .int .i64 0, .int .i64 0, .int .i64 0, .int .i64 0, .bool false, .bool false, .int .i64 0, .int .i64 0, .bool false, .bool false, .int .i64 0, .int .i64 0, .int .i64 0, .int .i64 0, .int .i64 0, .int .i64 0, .int .i64 0, .int .i64 0]), .iface 136 (.pointer (some ⟨q, 0, none⟩))]) (results_row_tmp Tryz.results77 _ _ _ _ (#[.int .i64 0, .int .i64 0, .int .i64 0, .bool false, .bool false, .int .i64 0, .bool false, .bool false, .int .i64 0, .int .i64 0, .int .i64 0, .int .i64 0, .bool false, .bool false, .int .i64 0, .int .i64 0, .bool false, .bool false, .int .i64 0, .int .i64 0, .int .i64 0, .int .i64 0, .int .i64 0, .int .i64 0, .int .i64 0, .int .i64 0]) _ _ _ rfl (l3.trans (congrArg (fun c => some (Obj.cells c 34 (0, 0))) (show _ = (#[.int .i64 0, .int .i64 0, .int .i64 0, .bool false, .bool false, .int .i64 0, .bool false, .bool false, .int .i64 0, .int .i64 0, .int .i64 0, .int .i64 0, .bool false, .bool false, .int .i64 0, .int .i64 0, .bool false, .bool false, .int .i64 0, .int .i64 0, .int .i64 0, .int .i64 0, .int .i64 0, .int .i64 0, .int .i64 0, .int .i64 0] : Array Value) by kernel_rfl))) Tryz.underlying34 rfl (by kernel_rfl) rfl) rfl ⟨⟨⟨0, 0, 0, ⟨false, false, 0⟩, ⟨false, false, 0⟩, 0, 0, 0, ⟨false, false, 0⟩, 0, ⟨false, false, 0⟩, 0, 0, 0, 0, 0, 0, 0⟩, _, rfl, .inr ⟨⟨_, _, rfl⟩, HN.out⟩⟩, b3⟩
    · have e : k = 18 := by omega
      subst e
      have HX : Hid (∀ X, Rel s X → X = Y) := HG.out.last HGH.out
      have TS := fun (W : World) (hb : Below w.heap.size w W) => tellStyle_any Y W (HE.out.below hb (Nat.le_refl _))
      obtain ⟨let0, lev, hL⟩ := HL.out
      have n0 : (#[.int .i64 0, .int .i64 0, .int .i64 0, .bool false, .bool false, .int .i64 0, .bool false, .bool false, .int .i64 0, .int .i64 0, .int .i64 0, .int .i64 0, .bool false, .bool false, .int .i64 0, .int .i64 0, .bool false, .bool false, .int .i64 0, .int .i64 0, .int .i64 0, .int .i64 0, .int .i64 0, .int .i64 0, .int .i64 0, .int .i64 0] : Array Value).size = 26 := rfl
      go_wp2_with ((with_reducible show wpList _ _ _ (⟨some 36, Op.load 34 _, _, _, _, _⟩ :: _) _ _); refine wpList_load_row rfl 34 _ rfl (w.heap.size + 1 + 1) rfl _ (#[.int .i64 Y.sh, .int .i64 Y.fl, .int .i64 Y.cl, .bool Y.w.a, .bool Y.w.p, .int .i64 Y.w.n, .bool Y.h.a, .bool Y.h.p, .int .i64 Y.h.n, .int .i64 Y.mn, .int .i64 Y.mx, .int .i64 Y.mt, .bool Y.mr.a, .bool Y.mr.p, .int .i64 Y.mr.n, .int .i64 Y.mb, .bool Y.ml.a, .bool Y.ml.p, .int .i64 Y.ml.n, .int .i64 Y.bo, .int .i64 Y.pa, .int .i64 Y.wh, .int .i64 Y.al, .int .i64 Y.lh, .int .i64 Y.ri, .int .i64 Y.dn]) _ _ ly Tryz.underlying34 rfl (by kernel_rfl) ?_)
      refine (TS _ bel).mono ?_
      rintro e w1 ⟨he, hb⟩
      have b1 := bel.trans (hb.mono bel.size)
      have lz := below_lies hb lz (by omega)
      have ly := below_lies hb ly (by omega)
      have hL1 : w1.cell? ⟨1, 0, none⟩ = some (.iface let0 lev) := (b1.cell (p := ⟨1, 0, none⟩) (World.block_lt_of_cell? _ ⟨1, 0, none⟩ hL)).trans hL
      clear TS hb bel lth hL
      rcases he with ⟨hok, rfl⟩ | ⟨hok, x, xv, rfl⟩
      · by_cases hts : textTo Y 18 = s
        · have HR : Hid (Rel s Y) := ⟨hok, hts⟩
          have hq1 : ((textTo Y 18).toList == s.toList) = true := by rw [hts]; simp
          generalize textTo Y 18 = T at hq1 ⊢
          clear hts hok hL1
          go_wp2_with (first
            | ((with_reducible show wpList _ _ _ (⟨some 48, Op.load 34 _, _, _, _, _⟩ :: _) _ _); refine wpList_load_row rfl 34 _ rfl (w.heap.size + 1 + 1) rfl _ (#[.int .i64 Y.sh, .int .i64 Y.fl, .int .i64 Y.cl, .bool Y.w.a, .bool Y.w.p, .int .i64 Y.w.n, .bool Y.h.a, .bool Y.h.p, .int .i64 Y.h.n, .int .i64 Y.mn, .int .i64 Y.mx, .int .i64 Y.mt, .bool Y.mr.a, .bool Y.mr.p, .int .i64 Y.mr.n, .int .i64 Y.mb, .bool Y.ml.a, .bool Y.ml.p, .int .i64 Y.ml.n, .int .i64 Y.bo, .int .i64 Y.pa, .int .i64 Y.wh, .int .i64 Y.al, .int .i64 Y.lh, .int .i64 Y.ri, .int .i64 Y.dn]) _ _ ly Tryz.underlying34 rfl (by kernel_rfl) ?_)
            | ((with_reducible show wpList _ _ _ (⟨none, Op.store 34 _ _, _, _, _, _⟩ :: _) _ _); refine wpList_putA rfl _ _ _ rfl rfl _ _ _ _ _ _ rfl rfl lz n0 (by kernel_rfl) (by kernel_rfl) (by kernel_rfl) ?_; intro w3 p l3 n3; refine stay_p ?_))
          have b3 := p.below b1 (Nat.le_refl _)
          unfold stayP
          go_wp2
          exact bodyPost_ret (v := .tuple #[.agg (#[.int .i64 Y.sh, .int .i64 Y.fl, .int .i64 Y.cl, .bool Y.w.a, .bool Y.w.p, .int .i64 Y.w.n, .bool Y.h.a, .bool Y.h.p, .int .i64 Y.h.n, .int .i64 Y.mn, .int .i64 Y.mx, .int .i64 Y.mt, .bool Y.mr.a, .bool Y.mr.p, .int .i64 Y.mr.n, .int .i64 Y.mb, .bool Y.ml.a, .bool Y.ml.p, .int .i64 Y.ml.n, .int .i64 Y.bo, .int .i64 Y.pa, .int .i64 Y.wh, .int .i64 Y.al, .int .i64 Y.lh, .int .i64 Y.ri, .int .i64 Y.dn]), .nilIface]) (results_row_tmp Tryz.results77 _ _ _ _ (#[.int .i64 Y.sh, .int .i64 Y.fl, .int .i64 Y.cl, .bool Y.w.a, .bool Y.w.p, .int .i64 Y.w.n, .bool Y.h.a, .bool Y.h.p, .int .i64 Y.h.n, .int .i64 Y.mn, .int .i64 Y.mx, .int .i64 Y.mt, .bool Y.mr.a, .bool Y.mr.p, .int .i64 Y.mr.n, .int .i64 Y.mb, .bool Y.ml.a, .bool Y.ml.p, .int .i64 Y.ml.n, .int .i64 Y.bo, .int .i64 Y.pa, .int .i64 Y.wh, .int .i64 Y.al, .int .i64 Y.lh, .int .i64 Y.ri, .int .i64 Y.dn]) _ _ _ rfl (l3.trans (congrArg (fun c => some (Obj.cells c 34 (0, 0))) (show _ = (#[.int .i64 Y.sh, .int .i64 Y.fl, .int .i64 Y.cl, .bool Y.w.a, .bool Y.w.p, .int .i64 Y.w.n, .bool Y.h.a, .bool Y.h.p, .int .i64 Y.h.n, .int .i64 Y.mn, .int .i64 Y.mx, .int .i64 Y.mt, .bool Y.mr.a, .bool Y.mr.p, .int .i64 Y.mr.n, .int .i64 Y.mb, .bool Y.ml.a, .bool Y.ml.p, .int .i64 Y.ml.n, .int .i64 Y.bo, .int .i64 Y.pa, .int .i64 Y.wh, .int .i64 Y.al, .int .i64 Y.lh, .int .i64 Y.ri, .int .i64 Y.dn] : Array Value) by kernel_rfl))) Tryz.underlying34 rfl (by kernel_rfl) rfl) rfl ⟨⟨Y, _, rfl, .inl ⟨rfl, HR.out, HX.out⟩⟩, b3⟩
        · have HR : Hid (¬ ∃ X, Rel s X) := fun ⟨X, hX⟩ => hts (by have e := HX.out X hX; subst e; exact hX.2)
          have hq1 : ((textTo Y 18).toList == s.toList) = false := by
            exact beq_false_of_ne (fun h => hts (by rw [ByteArray.toList_eq, ByteArray.toList_eq] at h; exact ByteArray.ext (Array.toList_inj.1 h)))
          generalize textTo Y 18 = T at hq1 ⊢
          clear hts hok
          go_wp2_with (first
            | ((with_reducible show wpList _ _ _ (⟨some 48, Op.load 34 _, _, _, _, _⟩ :: _) _ _); refine wpList_load_row rfl 34 _ rfl (w.heap.size + 1 + 1) rfl _ (#[.int .i64 Y.sh, .int .i64 Y.fl, .int .i64 Y.cl, .bool Y.w.a, .bool Y.w.p, .int .i64 Y.w.n, .bool Y.h.a, .bool Y.h.p, .int .i64 Y.h.n, .int .i64 Y.mn, .int .i64 Y.mx, .int .i64 Y.mt, .bool Y.mr.a, .bool Y.mr.p, .int .i64 Y.mr.n, .int .i64 Y.mb, .bool Y.ml.a, .bool Y.ml.p, .int .i64 Y.ml.n, .int .i64 Y.bo, .int .i64 Y.pa, .int .i64 Y.wh, .int .i64 Y.al, .int .i64 Y.lh, .int .i64 Y.ri, .int .i64 Y.dn]) _ _ ly Tryz.underlying34 rfl (by kernel_rfl) ?_)
            | ((with_reducible show wpList _ _ _ (⟨none, Op.store 34 _ _, _, _, _, _⟩ :: _) _ _); refine wpList_putA rfl _ _ _ rfl rfl _ _ _ _ _ _ rfl rfl lz n0 (by kernel_rfl) (by kernel_rfl) (by kernel_rfl) ?_; intro w3 p l3 n3; refine stay_p ?_))
          have b3 := p.below b1 (Nat.le_refl _)
          unfold stayP
          go_wp2
          exact bodyPost_ret (v := .tuple #[.agg (#[.int .i64 Y.sh, .int .i64 Y.fl, .int .i64 Y.cl, .bool Y.w.a, .bool Y.w.p, .int .i64 Y.w.n, .bool Y.h.a, .bool Y.h.p, .int .i64 Y.h.n, .int .i64 Y.mn, .int .i64 Y.mx, .int .i64 Y.mt, .bool Y.mr.a, .bool Y.mr.p, .int .i64 Y.mr.n, .int .i64 Y.mb, .bool Y.ml.a, .bool Y.ml.p, .int .i64 Y.ml.n, .int .i64 Y.bo, .int .i64 Y.pa, .int .i64 Y.wh, .int .i64 Y.al, .int .i64 Y.lh, .int .i64 Y.ri, .int .i64 Y.dn]), .iface let0 lev]) (results_row_tmp Tryz.results77 _ _ _ _ (#[.int .i64 Y.sh, .int .i64 Y.fl, .int .i64 Y.cl, .bool Y.w.a, .bool Y.w.p, .int .i64 Y.w.n, .bool Y.h.a, .bool Y.h.p, .int .i64 Y.h.n, .int .i64 Y.mn, .int .i64 Y.mx, .int .i64 Y.mt, .bool Y.mr.a, .bool Y.mr.p, .int .i64 Y.mr.n, .int .i64 Y.mb, .bool Y.ml.a, .bool Y.ml.p, .int .i64 Y.ml.n, .int .i64 Y.bo, .int .i64 Y.pa, .int .i64 Y.wh, .int .i64 Y.al, .int .i64 Y.lh, .int .i64 Y.ri, .int .i64 Y.dn]) _ _ _ rfl (l3.trans (congrArg (fun c => some (Obj.cells c 34 (0, 0))) (show _ = (#[.int .i64 Y.sh, .int .i64 Y.fl, .int .i64 Y.cl, .bool Y.w.a, .bool Y.w.p, .int .i64 Y.w.n, .bool Y.h.a, .bool Y.h.p, .int .i64 Y.h.n, .int .i64 Y.mn, .int .i64 Y.mx, .int .i64 Y.mt, .bool Y.mr.a, .bool Y.mr.p, .int .i64 Y.mr.n, .int .i64 Y.mb, .bool Y.ml.a, .bool Y.ml.p, .int .i64 Y.ml.n, .int .i64 Y.bo, .int .i64 Y.pa, .int .i64 Y.wh, .int .i64 Y.al, .int .i64 Y.lh, .int .i64 Y.ri, .int .i64 Y.dn] : Array Value) by kernel_rfl))) Tryz.underlying34 rfl (by kernel_rfl) rfl) rfl ⟨⟨Y, _, rfl, .inr ⟨⟨_, _, rfl⟩, HR.out⟩⟩, b3⟩
      · have HR : Hid (¬ ∃ X, Rel s X) := fun ⟨X, hX⟩ => by
          have e := HX.out X hX
          subst e
          have h1 : (styleB X && okTo X 18) = true := hX.1
          rw [hok] at h1
          cases h1
        clear hok hL1
        go_wp2_with (first
          | ((with_reducible show wpList _ _ _ (⟨some 48, Op.load 34 _, _, _, _, _⟩ :: _) _ _); refine wpList_load_row rfl 34 _ rfl (w.heap.size + 1 + 1) rfl _ (#[.int .i64 Y.sh, .int .i64 Y.fl, .int .i64 Y.cl, .bool Y.w.a, .bool Y.w.p, .int .i64 Y.w.n, .bool Y.h.a, .bool Y.h.p, .int .i64 Y.h.n, .int .i64 Y.mn, .int .i64 Y.mx, .int .i64 Y.mt, .bool Y.mr.a, .bool Y.mr.p, .int .i64 Y.mr.n, .int .i64 Y.mb, .bool Y.ml.a, .bool Y.ml.p, .int .i64 Y.ml.n, .int .i64 Y.bo, .int .i64 Y.pa, .int .i64 Y.wh, .int .i64 Y.al, .int .i64 Y.lh, .int .i64 Y.ri, .int .i64 Y.dn]) _ _ ly Tryz.underlying34 rfl (by kernel_rfl) ?_)
          | ((with_reducible show wpList _ _ _ (⟨none, Op.store 34 _ _, _, _, _, _⟩ :: _) _ _); refine wpList_putA rfl _ _ _ rfl rfl _ _ _ _ _ _ rfl rfl lz n0 (by kernel_rfl) (by kernel_rfl) (by kernel_rfl) ?_; intro w3 p l3 n3; refine stay_p ?_))
        have b3 := p.below b1 (Nat.le_refl _)
        unfold stayP
        go_wp2
        exact bodyPost_ret (v := .tuple #[.agg (#[.int .i64 Y.sh, .int .i64 Y.fl, .int .i64 Y.cl, .bool Y.w.a, .bool Y.w.p, .int .i64 Y.w.n, .bool Y.h.a, .bool Y.h.p, .int .i64 Y.h.n, .int .i64 Y.mn, .int .i64 Y.mx, .int .i64 Y.mt, .bool Y.mr.a, .bool Y.mr.p, .int .i64 Y.mr.n, .int .i64 Y.mb, .bool Y.ml.a, .bool Y.ml.p, .int .i64 Y.ml.n, .int .i64 Y.bo, .int .i64 Y.pa, .int .i64 Y.wh, .int .i64 Y.al, .int .i64 Y.lh, .int .i64 Y.ri, .int .i64 Y.dn]), .iface x xv]) (results_row_tmp Tryz.results77 _ _ _ _ (#[.int .i64 Y.sh, .int .i64 Y.fl, .int .i64 Y.cl, .bool Y.w.a, .bool Y.w.p, .int .i64 Y.w.n, .bool Y.h.a, .bool Y.h.p, .int .i64 Y.h.n, .int .i64 Y.mn, .int .i64 Y.mx, .int .i64 Y.mt, .bool Y.mr.a, .bool Y.mr.p, .int .i64 Y.mr.n, .int .i64 Y.mb, .bool Y.ml.a, .bool Y.ml.p, .int .i64 Y.ml.n, .int .i64 Y.bo, .int .i64 Y.pa, .int .i64 Y.wh, .int .i64 Y.al, .int .i64 Y.lh, .int .i64 Y.ri, .int .i64 Y.dn]) _ _ _ rfl (l3.trans (congrArg (fun c => some (Obj.cells c 34 (0, 0))) (show _ = (#[.int .i64 Y.sh, .int .i64 Y.fl, .int .i64 Y.cl, .bool Y.w.a, .bool Y.w.p, .int .i64 Y.w.n, .bool Y.h.a, .bool Y.h.p, .int .i64 Y.h.n, .int .i64 Y.mn, .int .i64 Y.mx, .int .i64 Y.mt, .bool Y.mr.a, .bool Y.mr.p, .int .i64 Y.mr.n, .int .i64 Y.mb, .bool Y.ml.a, .bool Y.ml.p, .int .i64 Y.ml.n, .int .i64 Y.bo, .int .i64 Y.pa, .int .i64 Y.wh, .int .i64 Y.al, .int .i64 Y.lh, .int .i64 Y.ri, .int .i64 Y.dn] : Array Value) by kernel_rfl))) Tryz.underlying34 rfl (by kernel_rfl) rfl) rfl ⟨⟨Y, _, rfl, .inr ⟨⟨_, _, rfl⟩, HR.out⟩⟩, b3⟩

set_option maxRecDepth 100000 in
set_option maxHeartbeats 4000000 in
/-- The program's ReadStyle: the style that has this text, if there is one. -/
theorem implReadStyle_any (s : ByteArray) (w : World) (hs : s.size ≤ 1048576) (E : Env w) (au ab : Addr) (S : Sent w au ab) (hT : ErrT w) (lt1 : ∃ et ev, w.cell? ⟨1, 0, none⟩ = some (.iface et ev)) (G : GhostSteps s) :
    Calls Tryz.prog 55 #[.string s] w fun e w' => ((∃ Y : St, e = .returned (.tuple #[.agg (#[.int .i64 Y.sh, .int .i64 Y.fl, .int .i64 Y.cl, .bool Y.w.a, .bool Y.w.p, .int .i64 Y.w.n, .bool Y.h.a, .bool Y.h.p, .int .i64 Y.h.n, .int .i64 Y.mn, .int .i64 Y.mx, .int .i64 Y.mt, .bool Y.mr.a, .bool Y.mr.p, .int .i64 Y.mr.n, .int .i64 Y.mb, .bool Y.ml.a, .bool Y.ml.p, .int .i64 Y.ml.n, .int .i64 Y.bo, .int .i64 Y.pa, .int .i64 Y.wh, .int .i64 Y.al, .int .i64 Y.lh, .int .i64 Y.ri, .int .i64 Y.dn]), .bool true]) ∧ Rel s Y ∧ ∀ X, Rel s X → X = Y) ∨ (e = .returned (.tuple #[.agg (#[.int .i64 0, .int .i64 0, .int .i64 0, .bool false, .bool false, .int .i64 0, .bool false, .bool false, .int .i64 0, .int .i64 0, .int .i64 0, .int .i64 0, .bool false, .bool false, .int .i64 0, .int .i64 0, .bool false, .bool false, .int .i64 0, .int .i64 0, .int .i64 0, .int .i64 0, .int .i64 0, .int .i64 0, .int .i64 0, .int .i64 0]), .bool false]) ∧ ¬ ∃ X, Rel s X)) ∧ Below w.heap.size w w' := by
  have W1 : Below w.heap.size w (w.alloc (.cells (#[.int .i64 0, .int .i64 0, .int .i64 0, .bool false, .bool false, .int .i64 0, .bool false, .bool false, .int .i64 0, .int .i64 0, .int .i64 0, .int .i64 0, .bool false, .bool false, .int .i64 0, .int .i64 0, .bool false, .bool false, .int .i64 0, .int .i64 0, .int .i64 0, .int .i64 0, .int .i64 0, .int .i64 0, .int .i64 0, .int .i64 0]) 34)) := (Below.refl _ _).alloc (Nat.le_refl _) _
  obtain ⟨l1, l2, l3⟩ := lt1
  have RS := readStyle_any s (w.alloc (.cells (#[.int .i64 0, .int .i64 0, .int .i64 0, .bool false, .bool false, .int .i64 0, .bool false, .bool false, .int .i64 0, .int .i64 0, .int .i64 0, .int .i64 0, .bool false, .bool false, .int .i64 0, .int .i64 0, .bool false, .bool false, .int .i64 0, .int .i64 0, .int .i64 0, .int .i64 0, .int .i64 0, .int .i64 0, .int .i64 0, .int .i64 0]) 34)) hs (E.below W1 (Nat.le_refl _)) au ab (S.below W1) (hT.below W1) ⟨l1, l2, (W1.cell (p := ⟨1, 0, none⟩) (World.block_lt_of_cell? _ ⟨1, 0, none⟩ l3)).trans l3⟩ G
  clear E S hT l3 G
  have n0 : (#[.int .i64 0, .int .i64 0, .int .i64 0, .bool false, .bool false, .int .i64 0, .bool false, .bool false, .int .i64 0, .int .i64 0, .int .i64 0, .int .i64 0, .bool false, .bool false, .int .i64 0, .int .i64 0, .bool false, .bool false, .int .i64 0, .int .i64 0, .int .i64 0, .int .i64 0, .int .i64 0, .int .i64 0, .int .i64 0, .int .i64 0] : Array Value).size = 26 := rfl
  go_enter Tryz.func55, Tryz.ntmps55
  go_wp2_with fail
  refine RS.mono ?_
  rintro e w1 ⟨⟨Y, x, rfl, hx⟩, hb⟩
  have lz : w1.heap[w.heap.size]? = some (.cells (#[.int .i64 0, .int .i64 0, .int .i64 0, .bool false, .bool false, .int .i64 0, .bool false, .bool false, .int .i64 0, .int .i64 0, .int .i64 0, .int .i64 0, .bool false, .bool false, .int .i64 0, .int .i64 0, .bool false, .bool false, .int .i64 0, .int .i64 0, .int .i64 0, .int .i64 0, .int .i64 0, .int .i64 0, .int .i64 0, .int .i64 0]) 34 (0, 0)) := below_lies hb (heap_at _ _ _ rfl) (by simp)
  have b1 : Below w.heap.size w w1 := W1.trans (hb.mono (by simp))
  have z1 := lies_lt lz
  clear RS hb W1
  go_wp2_with ((with_reducible show wpList _ _ _ (⟨none, Op.store 34 (Operand.tmp 4) _, _, _, _, _⟩ :: _) _ _); refine wpList_store_new rfl 34 _ _ rfl rfl (#[.int .i64 Y.sh, .int .i64 Y.fl, .int .i64 Y.cl, .bool Y.w.a, .bool Y.w.p, .int .i64 Y.w.n, .bool Y.h.a, .bool Y.h.p, .int .i64 Y.h.n, .int .i64 Y.mn, .int .i64 Y.mx, .int .i64 Y.mt, .bool Y.mr.a, .bool Y.mr.p, .int .i64 Y.mr.n, .int .i64 Y.mb, .bool Y.ml.a, .bool Y.ml.p, .int .i64 Y.ml.n, .int .i64 Y.bo, .int .i64 Y.pa, .int .i64 Y.wh, .int .i64 Y.al, .int .i64 Y.lh, .int .i64 Y.ri, .int .i64 Y.dn]) 34 _ _ rfl rfl rfl (by kernel_rfl) rfl (by kernel_rfl) ?_; refine wpList_gen1R ?_; intro W2 bel l0; refine stay_p ?_)
  have b2 := b1.trans (bel.mono b1.size)
  have lz2 := below_lies bel lz z1
  unfold stayP
  clear bel lz b1
  rcases hx with ⟨rfl, hR, hU⟩ | ⟨⟨et, ev, rfl⟩, hN⟩
  · have HR : Hid (Rel s Y ∧ ∀ X, Rel s X → X = Y) := ⟨hR, hU⟩
    clear hR hU
    go_wp2_with (first
      | ((with_reducible show wpList _ _ _ (⟨some 14, Op.load 34 _, _, _, _, _⟩ :: _) _ _); refine wpList_load_row rfl 34 _ rfl w1.heap.size rfl _ (#[.int .i64 Y.sh, .int .i64 Y.fl, .int .i64 Y.cl, .bool Y.w.a, .bool Y.w.p, .int .i64 Y.w.n, .bool Y.h.a, .bool Y.h.p, .int .i64 Y.h.n, .int .i64 Y.mn, .int .i64 Y.mx, .int .i64 Y.mt, .bool Y.mr.a, .bool Y.mr.p, .int .i64 Y.mr.n, .int .i64 Y.mb, .bool Y.ml.a, .bool Y.ml.p, .int .i64 Y.ml.n, .int .i64 Y.bo, .int .i64 Y.pa, .int .i64 Y.wh, .int .i64 Y.al, .int .i64 Y.lh, .int .i64 Y.ri, .int .i64 Y.dn]) _ _ l0 Tryz.underlying34 rfl (by kernel_rfl) ?_)
      | ((with_reducible show wpList _ _ _ (⟨none, Op.store 34 _ _, _, _, _, _⟩ :: _) _ _); refine wpList_putA rfl _ _ _ rfl rfl _ _ _ _ _ _ rfl rfl lz2 n0 (by kernel_rfl) (by kernel_rfl) (by kernel_rfl) ?_; intro w3 p l3 n3; refine stay_p ?_))
    have b3 := p.below b2 (Nat.le_refl _)
    unfold stayP
    go_wp2
    exact bodyPost_ret (v := .tuple #[.agg (#[.int .i64 Y.sh, .int .i64 Y.fl, .int .i64 Y.cl, .bool Y.w.a, .bool Y.w.p, .int .i64 Y.w.n, .bool Y.h.a, .bool Y.h.p, .int .i64 Y.h.n, .int .i64 Y.mn, .int .i64 Y.mx, .int .i64 Y.mt, .bool Y.mr.a, .bool Y.mr.p, .int .i64 Y.mr.n, .int .i64 Y.mb, .bool Y.ml.a, .bool Y.ml.p, .int .i64 Y.ml.n, .int .i64 Y.bo, .int .i64 Y.pa, .int .i64 Y.wh, .int .i64 Y.al, .int .i64 Y.lh, .int .i64 Y.ri, .int .i64 Y.dn]), .bool true]) (results_row_tmp Tryz.results55 _ _ _ _ (#[.int .i64 Y.sh, .int .i64 Y.fl, .int .i64 Y.cl, .bool Y.w.a, .bool Y.w.p, .int .i64 Y.w.n, .bool Y.h.a, .bool Y.h.p, .int .i64 Y.h.n, .int .i64 Y.mn, .int .i64 Y.mx, .int .i64 Y.mt, .bool Y.mr.a, .bool Y.mr.p, .int .i64 Y.mr.n, .int .i64 Y.mb, .bool Y.ml.a, .bool Y.ml.p, .int .i64 Y.ml.n, .int .i64 Y.bo, .int .i64 Y.pa, .int .i64 Y.wh, .int .i64 Y.al, .int .i64 Y.lh, .int .i64 Y.ri, .int .i64 Y.dn]) _ _ _ rfl (l3.trans (congrArg (fun c => some (Obj.cells c 34 (0, 0))) (show _ = (#[.int .i64 Y.sh, .int .i64 Y.fl, .int .i64 Y.cl, .bool Y.w.a, .bool Y.w.p, .int .i64 Y.w.n, .bool Y.h.a, .bool Y.h.p, .int .i64 Y.h.n, .int .i64 Y.mn, .int .i64 Y.mx, .int .i64 Y.mt, .bool Y.mr.a, .bool Y.mr.p, .int .i64 Y.mr.n, .int .i64 Y.mb, .bool Y.ml.a, .bool Y.ml.p, .int .i64 Y.ml.n, .int .i64 Y.bo, .int .i64 Y.pa, .int .i64 Y.wh, .int .i64 Y.al, .int .i64 Y.lh, .int .i64 Y.ri, .int .i64 Y.dn] : Array Value) by kernel_rfl))) Tryz.underlying34 rfl (by kernel_rfl) rfl) rfl ⟨.inl ⟨Y, rfl, HR.out.1, HR.out.2⟩, b3⟩
  · have HR : Hid (¬ ∃ X, Rel s X) := hN
    clear hN
    go_wp2_with (first
      | ((with_reducible show wpList _ _ _ (⟨some 13, Op.build 34 _, _, _, _, _⟩ :: _) _ _); refine wpList_buildTo rfl 34 _ rfl _ rfl (#[.int .i64 0, .int .i64 0, .int .i64 0, .bool false, .bool false, .int .i64 0, .bool false, .bool false, .int .i64 0, .int .i64 0, .int .i64 0, .int .i64 0, .bool false, .bool false, .int .i64 0, .int .i64 0, .bool false, .bool false, .int .i64 0, .int .i64 0, .int .i64 0, .int .i64 0, .int .i64 0, .int .i64 0, .int .i64 0, .int .i64 0]) (by kernel_rfl) ?_)
      | ((with_reducible show wpList _ _ _ (⟨none, Op.store 34 _ _, _, _, _, _⟩ :: _) _ _); refine wpList_putA rfl _ _ _ rfl rfl _ _ _ _ _ _ rfl rfl lz2 n0 (by kernel_rfl) (by kernel_rfl) (by kernel_rfl) ?_; intro w3 p l3 n3; refine stay_p ?_))
    have b3 := p.below b2 (Nat.le_refl _)
    unfold stayP
    go_wp2
    exact bodyPost_ret (v := .tuple #[.agg (#[.int .i64 0, .int .i64 0, .int .i64 0, .bool false, .bool false, .int .i64 0, .bool false, .bool false, .int .i64 0, .int .i64 0, .int .i64 0, .int .i64 0, .bool false, .bool false, .int .i64 0, .int .i64 0, .bool false, .bool false, .int .i64 0, .int .i64 0, .int .i64 0, .int .i64 0, .int .i64 0, .int .i64 0, .int .i64 0, .int .i64 0]), .bool false]) (results_row_tmp Tryz.results55 _ _ _ _ (#[.int .i64 0, .int .i64 0, .int .i64 0, .bool false, .bool false, .int .i64 0, .bool false, .bool false, .int .i64 0, .int .i64 0, .int .i64 0, .int .i64 0, .bool false, .bool false, .int .i64 0, .int .i64 0, .bool false, .bool false, .int .i64 0, .int .i64 0, .int .i64 0, .int .i64 0, .int .i64 0, .int .i64 0, .int .i64 0, .int .i64 0]) _ _ _ rfl (l3.trans (congrArg (fun c => some (Obj.cells c 34 (0, 0))) (show _ = (#[.int .i64 0, .int .i64 0, .int .i64 0, .bool false, .bool false, .int .i64 0, .bool false, .bool false, .int .i64 0, .int .i64 0, .int .i64 0, .int .i64 0, .bool false, .bool false, .int .i64 0, .int .i64 0, .bool false, .bool false, .int .i64 0, .int .i64 0, .int .i64 0, .int .i64 0, .int .i64 0, .int .i64 0, .int .i64 0, .int .i64 0] : Array Value) by kernel_rfl))) Tryz.underlying34 rfl (by kernel_rfl) rfl) rfl ⟨.inr ⟨rfl, HR.out⟩, b3⟩
end Go.Proofs.YtddnphgpdnedbaaGreatDoor

namespace Go.Proofs.YtddnphgpdnedbaaGreatDoor
open Go.ChangeShapes Go.WideShapes Go.ChangeAt Go.RowKit

/-- The datum of a table of strings. -/
def strData {H : Type} (ss : List (List UInt8)) : DataW H := .agg (ss.map fun s => .lit (.string s))
theorem cells_of_strs {H : Type} {enc : TypeId × Value → H} {P : Program} {w : World} {base : Nat} {sp : Nat → Bool} {held : Bool} {fuel : Nat} {t e : TypeId} {n : Nat} {cs : List Value} {ss : List (List UInt8)} {p : List MemPlace}
    (ht : P.underlying t = some (.array n e)) (he : P.underlying e = some .string) (hce : P.cellsOf e = 1) (hct : P.cellsOf t = n)
    (h : DataW.trod enc P w base sp held fuel t cs = some (strData ss, p)) : cs = ss.map fun s => Value.string ⟨s.toArray⟩ := by
  cases fuel with
  | zero => simp [DataW.trod] at h
  | succ fuel =>
    simp only [DataW.trod, ht, hce, hct, Nat.mul_one] at h
    split at h
    · rename_i hl
      obtain ⟨xs, hm, hx⟩ := Option.map_eq_some_iff.1 h
      have hxs : xs.map (·.1) = ss.map fun s => (DataW.lit (.string s) : DataW H) := by
        have := congrArg Prod.fst hx
        simpa [strData] using this
      have hxl : xs.length = n := by simpa using Lib.mapM_length hm
      have hzl : ss.length = n := by
        have := congrArg List.length hxs
        simp at this
        omega
      apply List.ext_getElem?
      intro i
      by_cases hi : i < n
      · obtain ⟨b, hb, hf⟩ := Lib.mapM_at hm i i (by simp [hi])
        obtain ⟨z, hc, rfl, _⟩ := DataW.trod_string he hf
        have h1 : cs[i]? = some (.string z) := by
          have := congrArg (·[0]?) hc
          simpa [List.getElem?_take, List.getElem?_drop] using this
        have h2 : (xs.map (·.1))[i]? = some (DataW.lit (.string z.data.toList) : DataW H) := by simp [hb]
        rw [hxs] at h2
        simp only [List.getElem?_map, Option.map_eq_some_iff, DataW.lit.injEq, Lit.string.injEq] at h2
        obtain ⟨z', hz', e⟩ := h2
        rw [h1, List.getElem?_map, hz', e]
        rfl
      · rw [List.getElem?_eq_none (by omega), List.getElem?_eq_none (by simp; omega)]
    · cases h
theorem strs_of_head {P : Program} {W : World} {name : String} {ss : List (List UInt8)} {rest : List (String × DataW Unit)} {g : Nat} {t e : TypeId} {n : Nat}
    (hg : P.globalNamed name = some g) (hty : (P.globals[g]?).map (·.type) = some t) (ht : P.underlying t = some (.array n e)) (he : P.underlying e = some .string) (hce : P.cellsOf e = 1) (hct : P.cellsOf t = n)
    (h : laidMet P ((name, strData ss) :: rest) W) : W.var? P name = some (ss.map fun s => Value.string ⟨s.toArray⟩).toArray := by
  obtain ⟨ps, ⟨g', t', cs, fuel, p, q, hg', ht', hvar, hd, _, _⟩, _⟩ := h
  obtain rfl := Option.some.inj (hg.symm.trans hg')
  obtain rfl := Option.some.inj (hty.symm.trans ht')
  rw [hvar, ← cells_of_strs ht he hce hct hd]

theorem lPow : Tryz.prog.globalNamed "internal/strconv.uint64pow10" = some 9 := by kernel_rfl
theorem lPowType : (Tryz.prog.globals[9]?).map (·.type) = some 203 := by kernel_rfl
theorem cellsPow : Tryz.prog.cellsOf 203 = 20 := by kernel_rfl
theorem cellsU64 : Tryz.prog.cellsOf 119 = 1 := by kernel_rfl
theorem gQuar : Tryz.prog.globalNamed "loop.example/g00164/impl.quarterTexts" = some 7 := by kernel_rfl
theorem gQuarType : (Tryz.prog.globals[7]?).map (·.type) = some 178 := by kernel_rfl
theorem cellsQuar : Tryz.prog.cellsOf 178 = 4 := by kernel_rfl
theorem cellsStr : Tryz.prog.cellsOf 9 = 1 := by kernel_rfl

theorem gUne : Tryz.prog.globalNamed "loop.example/g00164/impl.errUneven" = some 6 := by kernel_rfl
theorem gUneType : (Tryz.prog.globals[6]?).map (·.type) = some 63 := by kernel_rfl
theorem gBeyn : Tryz.prog.globalNamed "loop.example/g00164/impl.errBeyond" = some 5 := by kernel_rfl
theorem gBeynType : (Tryz.prog.globals[5]?).map (·.type) = some 63 := by kernel_rfl
set_option maxRecDepth 100000 in
theorem sentinel_cell {W : World} {name nm : String} {g : Nat} {d : DataW Unit} (hg : Tryz.prog.globalNamed name = some g) (ht : (Tryz.prog.globals[g]?).map (·.type) = some 63) (h : laidMet Tryz.prog [(name, .iface nm d)] W) :
    ∃ et ev, W.cell? ⟨g, 0, none⟩ = some (.iface et ev) := by
  obtain ⟨ps, ⟨g0, t0, cs0, f0, p0, q0, hg0, ht0, hv0, hd0, hq0, e0⟩, hnd, hrows⟩ := h
  obtain rfl := Option.some.inj (hg.symm.trans hg0)
  obtain rfl := Option.some.inj (ht.symm.trans ht0)
  obtain ⟨l0⟩ := cs0
  obtain ⟨f1, u, v, rfl, hn, h1⟩ := iface_of_trod Tryz.underlying63 hd0
  exact ⟨_, _, (World.var?_cell hg0 hv0 0).trans rfl⟩
set_option maxRecDepth 100000 in
theorem env_of {W : World} (h : laidMetH Tryz.prog Rows.fnExactReadTreeRow.laid W) : Env W := by
  refine ⟨?_, ?_, ?_, ?_⟩
  · have h1 := laidMetH.filter (fun x => x.1 == "loop.example/g00164/impl.quarterTexts") h
    have e : Rows.fnExactReadTreeRow.laid.filter (fun x => x.1 == "loop.example/g00164/impl.quarterTexts") = [("loop.example/g00164/impl.quarterTexts", strData [[], [46, 50, 53], [46, 53], [46, 55, 53]])] := by kernel_rfl
    rw [e] at h1
    have hv := strs_of_head (rest := []) gQuar gQuarType Tryz.underlying178 Tryz.underlying9 cellsStr cellsQuar h1
    have c : ∀ j, j < 4 → W.cell? ⟨7, j, none⟩ = some (.string (quarter j)) := by
      intro j hj
      have := World.var?_cell gQuar hv j
      rw [this]
      have : j = 0 ∨ j = 1 ∨ j = 2 ∨ j = 3 := by omega
      rcases this with rfl | rfl | rfl | rfl <;> rfl
    exact ⟨cell_lt (c 0 (by omega)), c⟩
  · have h1 := laidMetH.filter (fun x => x.1 == "internal/strconv.uint64pow10") h
    have e : Rows.fnExactReadTreeRow.laid.filter (fun x => x.1 == "internal/strconv.uint64pow10") = [("internal/strconv.uint64pow10", Lib.tabData .u64 Lib.pow10Tab)] := by kernel_rfl
    rw [e] at h1
    exact Lib.tabIs_of_head (rest := []) lPow lPowType Tryz.underlying203 Tryz.underlying119 cellsU64 cellsPow h1
  · have h1 := laidMetH.filter (fun x => x.1 == "loop.example/g00164/impl.errUneven") h
    have e : Rows.fnExactReadTreeRow.laid.filter (fun x => x.1 == "loop.example/g00164/impl.errUneven") = [("loop.example/g00164/impl.errUneven", Rows.laid_loop_example_g00164_impl_errUneven)] := by kernel_rfl
    rw [e, MakeChecks.laidMetH_plain _ _ _ (by kernel_rfl)] at h1
    exact sentinel_cell gUne gUneType h1
  · have h1 := laidMetH.filter (fun x => x.1 == "loop.example/g00164/impl.errBeyond") h
    have e : Rows.fnExactReadTreeRow.laid.filter (fun x => x.1 == "loop.example/g00164/impl.errBeyond") = [("loop.example/g00164/impl.errBeyond", Rows.laid_loop_example_g00164_impl_errBeyond)] := by kernel_rfl
    rw [e, MakeChecks.laidMetH_plain _ _ _ (by kernel_rfl)] at h1
    exact sentinel_cell gBeyn gBeynType h1

/-! ### The sentinels with their rows -/
theorem starES : "*" ++ "errors.errorString" = "*errors.errorString" := by decide
theorem rowES (u : TypeId) (h : Tryz.prog.typeName? 3 u = some "*errors.errorString") : u = 209 :=
  typeName_ptr_named (nm := "errors.errorString") (by rw [starES]; kernel_rfl) (by kernel_rfl) (by decide) u (by rw [starES]; exact h)
theorem cellsES : Tryz.prog.cellsOf 227 = 1 := by kernel_rfl
theorem gUns : Tryz.prog.globalNamed "loop.example/g00164/impl.errUnsaid" = some 0 := by kernel_rfl
theorem gUnsType : (Tryz.prog.globals[0]?).map (·.type) = some 63 := by kernel_rfl
theorem gUnl : Tryz.prog.globalNamed "loop.example/g00164/impl.errUnlike" = some 1 := by kernel_rfl
theorem gUnlType : (Tryz.prog.globals[1]?).map (·.type) = some 63 := by kernel_rfl
set_option maxRecDepth 100000 in
theorem sent_one {W : World} {name : String} {g : Nat} {text : List UInt8} (hg : Tryz.prog.globalNamed name = some g) (ht : (Tryz.prog.globals[g]?).map (·.type) = some 63) (h : laidMet Tryz.prog [(name, .iface "*errors.errorString" (.ptr (.agg [.lit (.string text)])))] W) :
    ∃ (a : Addr) (s : ByteArray), W.cell? ⟨g, 0, none⟩ = some (.iface 209 (.pointer (some a))) ∧ W.cell? a = some (.string s) ∧ s.data.toList = text ∧ ∃ c t, W.heap[a.block]? = some (.cells c t (0, 0)) := by
  obtain ⟨ps, ⟨g0, t0, cs0, f0, p0, q0, hg0, ht0, hv0, hd0, hq0, e0⟩, _, hrows⟩ := h
  obtain rfl := Option.some.inj (hg.symm.trans hg0)
  obtain rfl := Option.some.inj (ht.symm.trans ht0)
  subst e0
  obtain ⟨l0⟩ := cs0
  have ok0 : ∀ u v, l0 = [.iface u v] → Value.okWide Tryz.prog W .any 0 u v := fun u v e => by
    subst e
    exact (hrows g 0 (by simp [MemPlace.row])).2 u v (by simpa using World.var?_cell hg0 hv0 0)
  obtain ⟨a0, s0, rfl, hc0, hs0, hz0, rfl⟩ := errorString_of_trod Tryz.underlying63 rowES Tryz.underlying209 Tryz.underlying227 rfl rfl Tryz.underlying9 cellsES cellsStr hd0 ok0
  exact ⟨a0, s0, (World.var?_cell hg0 hv0 0).trans rfl, hc0, hs0, (hrows a0.block a0.off (by simp [MemPlace.row])).1⟩
set_option maxRecDepth 100000 in
theorem sent_of {W : World} (h : laidMetH Tryz.prog Rows.fnExactReadTreeRow.laid W) : ∃ au ab, Sent W au ab := by
  have h1 := laidMetH.filter (fun x => x.1 == "loop.example/g00164/impl.errUnsaid") h
  have e1 : Rows.fnExactReadTreeRow.laid.filter (fun x => x.1 == "loop.example/g00164/impl.errUnsaid") = [("loop.example/g00164/impl.errUnsaid", Rows.laid_loop_example_g00164_impl_errUnsaid)] := by kernel_rfl
  rw [e1, MakeChecks.laidMetH_plain _ _ _ (by kernel_rfl)] at h1
  have h2 := laidMetH.filter (fun x => x.1 == "loop.example/g00164/impl.errBeyond") h
  have e2 : Rows.fnExactReadTreeRow.laid.filter (fun x => x.1 == "loop.example/g00164/impl.errBeyond") = [("loop.example/g00164/impl.errBeyond", Rows.laid_loop_example_g00164_impl_errBeyond)] := by kernel_rfl
  rw [e2, MakeChecks.laidMetH_plain _ _ _ (by kernel_rfl)] at h2
  obtain ⟨au, su, u1, u2, u3, u4⟩ := sent_one gUns gUnsType h1
  obtain ⟨ab, sb, b1, b2, b3, b4⟩ := sent_one gBeyn gBeynType h2
  refine ⟨au, ab, u1, b1, ?_, u4, b4⟩
  rintro rfl
  rw [u2] at b2
  obtain rfl := Value.string.inj (Option.some.inj b2)
  rw [u3] at b3
  exact absurd b3 (by decide)
set_option maxRecDepth 100000 in
theorem unlike_of {W : World} (h : laidMetH Tryz.prog Rows.fnExactReadTreeRow.laid W) : ∃ et ev, W.cell? ⟨1, 0, none⟩ = some (.iface et ev) := by
  have h1 := laidMetH.filter (fun x => x.1 == "loop.example/g00164/impl.errUnlike") h
  have e : Rows.fnExactReadTreeRow.laid.filter (fun x => x.1 == "loop.example/g00164/impl.errUnlike") = [("loop.example/g00164/impl.errUnlike", Rows.laid_loop_example_g00164_impl_errUnlike)] := by kernel_rfl
  rw [e, MakeChecks.laidMetH_plain _ _ _ (by kernel_rfl)] at h1
  exact sentinel_cell gUnl gUnlType h1
theorem gErrT : Tryz.prog.globalNamed "errors.errorType" = some 8 := by kernel_rfl
theorem named_error : ((List.range Tryz.prog.types.size).all fun ty => !Tryz.prog.rowNamed ty [101, 114, 114, 111, 114] || ty == 63) = true := by kernel_rfl
set_option maxRecDepth 100000 in
theorem errT_of {W : World} (h : laidMetH Tryz.prog Rows.fnExactReadTreeRow.laid W) : ErrT W := by
  have h1 := laidMetH.filter (fun x => x.1 == "errors.errorType") h
  have e : Rows.fnExactReadTreeRow.laid.filter (fun x => x.1 == "errors.errorType") = [("errors.errorType", Rows.laid_errors_errorType)] := by kernel_rfl
  rw [e] at h1
  obtain ⟨_, h2⟩ := h1
  obtain ⟨name, u, ty, n1, n2, n3, n4, n5⟩ := h2 _ (List.mem_singleton.2 rfl)
  have e1 : name = [101, 114, 114, 111, 114] := by
    have : (Rows.laid_errors_errorType : DataW Unit).handleName? = some [101, 114, 114, 111, 114] := by kernel_rfl
    exact Option.some.inj (n1.symm.trans this)
  subst e1
  have e2 : u = 161 := by
    have : (Tryz.prog.cutTypes.find? (·.1 == "internal/reflectlite.rtype")).map (·.2) = some 161 := by kernel_rfl
    exact Option.some.inj (n2.symm.trans this)
  subst e2
  have e3 : ty = 63 := by
    have := List.all_eq_true.1 named_error ty (List.mem_range.2 n3)
    rw [n4] at this
    simpa using this
  subst e3
  have e4 : typeHandle Tryz.prog 63 = .pointer (some ⟨12, 63, none⟩) := by kernel_rfl
  rw [e4] at n5
  exact (World.var?_cell gErrT n5 0).trans rfl
open Go.ChangeShapes Go.RowKit in
/-- Three named variables, opened. -/
theorem trodVars_three {H : Type} {enc : TypeId × Value → H} {P : Program} {w : World} {spare : Nat → Bool} {n0 n1 n2 : String} {gs : List (DataW H)} {ps : List MemPlace} (h : DataW.TrodVars enc P w spare [n0, n1, n2] gs ps) : ∃ d0 d1 d2, gs = [d0, d1, d2] := by
  cases gs with
  | nil => simp [DataW.TrodVars] at h
  | cons d ds =>
    obtain ⟨g0, t0, cs0, f0, p0, q0, h1, h2, h3, h4, hs, e⟩ := h
    obtain ⟨_, _, _, _, d1, _, _, _, _, _, d2, _, rfl, _⟩ := trodVars_two hs
    exact ⟨d, d1, d2, rfl⟩
open Go.ChangeShapes Go.RowKit in
/-- Five named variables, opened. -/
theorem trodVars_five {H : Type} {enc : TypeId × Value → H} {P : Program} {w : World} {spare : Nat → Bool} {n0 n1 n2 n3 n4 : String} {gs : List (DataW H)} {ps : List MemPlace} (h : DataW.TrodVars enc P w spare [n0, n1, n2, n3, n4] gs ps) : ∃ d0 d1 d2 d3 d4, gs = [d0, d1, d2, d3, d4] := by
  cases gs with
  | nil => simp [DataW.TrodVars] at h
  | cons d ds =>
    obtain ⟨g0, t0, cs0, f0, p0, q0, h1, h2, h3, h4, hs, e⟩ := h
    cases ds with
    | nil => simp [DataW.TrodVars] at hs
    | cons d' ds =>
      obtain ⟨g0, t0, cs0, f0, p0, q0, h1, h2, h3, h4, hs, e⟩ := hs
      obtain ⟨d2, d3, d4, rfl⟩ := trodVars_three hs
      exact ⟨d, d', d2, d3, d4, rfl⟩
end Go.Proofs.YtddnphgpdnedbaaGreatDoor
