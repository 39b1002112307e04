/-
  A map literal keyed by strings, in memory: one more entry at a key that is not there yet.
  The program's tellLength and tellSize: a value's text, or a fault.
  The program's tellSize, and its method 'tell' on a size and on a length.
  The program's method 'tell' on a size and on a length.
  The program's method 'tell' on a thing that is said by a word: the word whose number it has, in whatever order its map is gone through.
  The program's maps of words, by the name of a thing.
  The program's method 'same' on two things of a style: two numbers, two sizes.
  Each of the eighteen things of a good style: its text, by the program's method 'tell'; and whether it is as the plain style has it, by 'same'.
  The model's l1Num below 0 too, and its l4Told: a size's text.
  The text of a style, thing by thing, and how long it may be.
-/
import Derived.WalkKit
import Derived.ProofKit
import Derived.WideMake
import Derived.Laws.IdiomRangeMap
import Derived.Maps.RangeRun
import Derived.Test.YtddnphgpdnedbaaGreatDoorWide
import Derived.Test.YtddnphgpdnedbaaGreatDoorMTe
import Derived.Test.YtddnphgpdnedbaaGreatDoorMSb
import Derived.LoopN
import Derived.Laws.StructEq
import Derived.Test.YtddnphgpdnedbaaGreatDoorMSc
namespace Go.Proofs.YtddnphgpdnedbaaGreatDoor
open Go.ChangeShapes Go.WideShapes Go.ChangeAt Go.RowKit
set_option linter.unusedVariables false

theorem set_top (w : World) (x y : Obj) : ({ w.alloc x with heap := (w.alloc x).heap.setIfInBounds w.heap.size y } : World) = w.alloc y := by
  have e : (w.heap.push x).setIfInBounds w.heap.size y = w.heap.push y := by
    apply Array.toList_inj.1
    simp
  exact congrArg (fun h => ({ w with heap := h } : World)) e
theorem run_mapUpdate_at {P : Program} (w : World) (mty kt et : TypeId) (r : Nat) (es : Array MapEntry) (clock : Nat) (s : ByteArray) (val : Value) (hm : P.underlying mty = some (.map kt et)) (hk : P.underlying kt = some .string)
    (hb : w.heap[r]? = some (.map es clock)) (hf : Instr.findNow .string (.string s) es.toList 0 = some none) :
    (Instr.mapUpdate mty (.map (some r)) (.string s) val).run P w = .ok () { w with heap := w.heap.setIfInBounds r (.map (es.push { key := .string s, val := val, born := clock }) (clock + 1)) } := by
  have hc : (Instr.checkKey false 10000 kt (.string s)).run P w = .ok () w := MapKept.run_checkKey (k := .string s) hk (by simp [MapKept.IsKey]) false 9999
  simp [Instr.mapUpdate, run_underlying hm, MapKept.run_getObj_map hb, hc, MapKept.run_findKey hk hf, MapKept.run_setObj_map _ hb, Result.andThen]
theorem run_mapUpdate_new {P : Program} (w : World) (mty kt et : TypeId) (es : Array MapEntry) (clock : Nat) (s : ByteArray) (val : Value) (hm : P.underlying mty = some (.map kt et)) (hk : P.underlying kt = some .string)
    (hf : Instr.findNow .string (.string s) es.toList 0 = some none) :
    (Instr.mapUpdate mty (.map (some w.heap.size)) (.string s) val).run P (w.alloc (.map es clock)) = .ok () (w.alloc (.map (es.push { key := .string s, val := val, born := clock }) (clock + 1))) := by
  rw [run_mapUpdate_at (w.alloc (.map es clock)) mty kt et w.heap.size es clock s val hm hk (_root_.Go.heap_alloc_new w _) hf, set_top]
theorem put_block {r : Nat} {w w1 : World} {x o : Obj} (hr : w.heap[r]? = some x) (h : w1 = w ∨ w1 = w.drew) : Put r w (Go.ChangeMaps.setBlock w1 r o) ∧ (Go.ChangeMaps.setBlock w1 r o).heap[r]? = some o := by
  have hlt : r < w.heap.size := lies_lt hr
  have hh : (Go.ChangeMaps.setBlock w1 r o).heap = w.heap.setIfInBounds r o := by rcases h with rfl | rfl <;> rfl
  refine ⟨⟨by rcases h with rfl | rfl <;> rfl, by rcases h with rfl | rfl <;> rfl, by rcases h with rfl | rfl <;> rfl, by rw [hh]; simp, fun k hk => by rw [hh]; simp [Ne.symm hk]⟩, by rw [hh]; simp [hlt]⟩
/-- One step of a range over a map that stands: it is at its end, or one entry that is left comes out, and nothing but the iterator has turned. -/
theorem next_step {P : Program} (w : World) (r bm c : Nat) (seen : Array Nat) (es : Array MapEntry) (hr : w.heap[r]? = some (.mapIter (some bm) c seen c)) (hb : w.heap[bm]? = some (.map es c)) (hst : MapKept.Stamped es c) :
    (leftOf es seen).size = 0 ∨ ∃ e ∈ (leftOf es seen).toList, ∃ w2 : World, Put r w w2 ∧ w2.heap[r]? = some (.mapIter (some bm) c (seen.push e.born) c) ∧ ∀ ty, (Instr.next (.pointer (some ⟨r, 0, none⟩)) false ty).run P w = .ok (.tuple #[.bool true, e.key, e.val]) w2 := by
  rcases run_next_at (P := P) w 0 r bm c c seen es c hr hb hst.1 (Nat.le_refl _) with ⟨h, _⟩ | ⟨e, he, w1, h1, hrun⟩
  · exact .inl h
  · obtain ⟨p, q⟩ := put_block (o := .mapIter (some bm) c (seen.push e.born) c) hr h1
    exact .inr ⟨e, he, _, p, q, fun _ => hrun⟩
theorem iterSeen_of {w : World} {r a c : Nat} {m : Option Nat} {s : Array Nat} (h : w.heap[r]? = some (.mapIter m a s c)) : w.iterSeen r = s := by
  unfold World.iterSeen
  rw [h]
end Go.Proofs.YtddnphgpdnedbaaGreatDoor

namespace Go.Proofs.YtddnphgpdnedbaaGreatDoor
open Go.ChangeShapes Go.WideShapes Go.ChangeAt Go.RowKit
set_option linter.unusedVariables false

def numI (n : Int) : ByteArray := ⟨(Lib.itoa n).toArray⟩
def toldB (a p : Bool) (n : Int) : Bool := if a then true else if p then decide (n.tmod 100 = 0) else pixB n
def toldT (a p : Bool) (n : Int) : ByteArray := if a then ⟨#[97, 117, 116, 111]⟩ else if p then numI (n.tdiv 100) ++ ⟨#[37]⟩ else pixText n

/-- What the program reads beside its arguments: the table of quarters, the library's table of powers, the two sentinel errors. -/
structure Env (w : World) : Prop where
  q : Quarters w
  t : Lib.TabIs Tryz.prog w "internal/strconv.uint64pow10" .u64 Lib.pow10Tab
  e : ∃ et ev, w.cell? ⟨6, 0, none⟩ = some (.iface et ev)
  b : ∃ et ev, w.cell? ⟨5, 0, none⟩ = some (.iface et ev)
theorem gPow : Tryz.prog.globalNamed "internal/strconv.uint64pow10" = some 9 := by kernel_rfl
theorem cell_lt {w : World} {b o : Nat} {v : Value} (h : w.cell? ⟨b, o, none⟩ = some v) : b < w.heap.size := World.block_lt_of_cell? _ ⟨b, o, none⟩ h
theorem Env.below {w w' : World} {B : Nat} (E : Env w) (hb : Below B w w') (hB : w.heap.size ≤ B) : Env w' := by
  have hb := hb.mono hB
  obtain ⟨et, ev, he⟩ := E.e
  obtain ⟨bt, bv, hbb⟩ := E.b
  exact ⟨⟨Nat.lt_of_lt_of_le E.q.1 hb.size, fun j hj => (hb.cell (cell_lt (E.q.2 j hj))).trans (E.q.2 j hj)⟩, var?_below hb gPow (cell_lt (E.t.cell gPow 0 (by decide))) E.t, ⟨et, ev, (hb.cell (p := ⟨6, 0, none⟩) (cell_lt he)).trans he⟩, ⟨bt, bv, (hb.cell (p := ⟨5, 0, none⟩) (cell_lt hbb)).trans hbb⟩⟩

/-- A text and no fault, or no text and a fault. -/
def Told (ok : Bool) (t : ByteArray) (e : Ending) : Prop := (ok = true ∧ e = .returned (.tuple #[.string t, .nilIface])) ∨ (ok = false ∧ ∃ x v, e = .returned (.tuple #[.string ⟨#[]⟩, .iface x v]))

set_option maxHeartbeats 2000000 in
theorem tellLength_any (n : Int) (w : World) (E : Env w) :
    Calls Tryz.prog 114 #[.int .i64 n] w fun e w' => Told (pixB n) (pixText n) e ∧ Below w.heap.size w w' := by
  have I := implText_any n w E.q E.t
  obtain ⟨et, ev, he⟩ := E.e
  have lte := cell_lt he
  cases h : pixB n
  · rw [h] at I
    generalize pixText n = t at I ⊢
    have HE : Hid (w.cell? ⟨6, 0, none⟩ = some (.iface et ev)) := he
    clear E he
    go_enter Tryz.func114, Tryz.ntmps114
    go_wp2_with (go_at_call 121; refine I.mono ?_; rintro e w1 ⟨rfl, hb⟩; have c1 : w1.cell? ⟨6, 0, none⟩ = some (.iface et ev) := (hb.cell (p := ⟨6, 0, none⟩) lte).trans HE.out)
    go_quiet (fail)
    all_goals
      go_wp2
      go_ret2
      exact ⟨.inr ⟨rfl, _, _, rfl⟩, below_drewN hb _⟩
  · rw [h] at I
    generalize pixText n = t at I ⊢
    clear E he
    go_enter Tryz.func114, Tryz.ntmps114
    go_wp2_with (go_at_call 121; refine I.mono ?_; rintro e w1 ⟨rfl, hb⟩)
    go_ret2
    exact ⟨.inl ⟨rfl, rfl⟩, hb⟩
end Go.Proofs.YtddnphgpdnedbaaGreatDoor

namespace Go.Proofs.YtddnphgpdnedbaaGreatDoor
open Go.ChangeShapes Go.WideShapes Go.ChangeAt Go.RowKit
set_option linter.unusedVariables false

theorem itoaI_any (n : Int) (h0 : -9223372036854775808 ≤ n) (h1 : n ≤ 9223372036854775807) (w : World) (htab : Lib.TabIs Tryz.prog w "internal/strconv.uint64pow10" .u64 Lib.pow10Tab) :
    Calls Tryz.prog 120 #[.int .i64 n] w fun e w' => e = .returned (.string (numI n)) ∧ Below w.heap.size w w' := by
  refine (Tryz.strconv_Itoa n h0 h1 w htab).mono ?_
  rintro e w' ⟨rfl, k, os, rfl⟩
  exact ⟨rfl, below_grow w k os⟩
theorem numI_size (n : Int) (h0 : -1000000 ≤ n) (h1 : n ≤ 1000000) : (numI n).size ≤ 20 := by
  have hs := num_size n.natAbs (by omega)
  unfold num at hs
  unfold numI Lib.itoa
  split
  · show (45 :: Lib.decDigits n.natAbs).toArray.size ≤ 20
    have : (Lib.decDigits n.natAbs).toArray.size ≤ 19 := hs
    simp at this ⊢
    omega
  · have e : n.toNat = n.natAbs := by omega
    rw [e]
    exact Nat.le_trans hs (by omega)

set_option maxHeartbeats 2000000 in
theorem tellSize_any (a p : Bool) (n : Int) (w : World) (E : Env w) (g0 : -1000000 ≤ n) (g1 : n ≤ 1000000) :
    Calls Tryz.prog 112 #[.agg #[.bool a, .bool p, .int .i64 n]] w fun e w' => Told (toldB a p n) (toldT a p n) e ∧ Below w.heap.size w w' := by
  have bel0 : Below w.heap.size w (w.alloc (.cells #[.bool a, .bool p, .int .i64 n] 32)) := (Below.refl _ _).alloc (Nat.le_refl _) _
  cases a
  · cases p
    · have TL := tellLength_any n (w.alloc (.cells #[.bool false, .bool false, .int .i64 n] 32)) (E.below bel0 (Nat.le_refl _))
      have et : toldT false false n = pixText n := rfl
      have eb : toldB false false n = pixB n := rfl
      rw [et, eb]
      generalize pixText n = t at TL ⊢
      generalize pixB n = k at TL ⊢
      clear E et eb
      go_enter Tryz.func112, Tryz.ntmps112
      go_wp2_with (go_at_call 114; refine TL.mono ?_; rintro e w1 ⟨he, hb⟩; rcases he with ⟨hk, rfl⟩ | ⟨hk, x, v, rfl⟩)
      · go_ret2
        exact ⟨.inl ⟨hk, rfl⟩, bel0.trans (hb.mono (by simp))⟩
      · go_ret2
        exact ⟨.inr ⟨hk, x, v, rfl⟩, bel0.trans (hb.mono (by simp))⟩
    · by_cases hn : n.tmod 100 = 0
      · have hq : 100 * n.tdiv 100 + n.tmod 100 = n := Int.mul_tdiv_add_tmod n 100
        rw [hn] at hq
        have hq : Hid (100 * n.tdiv 100 + 0 = n) ∧ -1000000 ≤ n.tdiv 100 ∧ n.tdiv 100 ≤ 1000000 := ⟨hq, by omega, by omega⟩
        obtain ⟨_, q0, q1⟩ := hq
        have F1 : IntKind.i64.wrap (n.tdiv 100) = n.tdiv 100 := wrapI _ (by omega) (by omega)
        have IT := itoaI_any (n.tdiv 100) (by omega) (by omega) (w.alloc (.cells #[.bool false, .bool true, .int .i64 n] 32)) (E.below bel0 (Nat.le_refl _)).t
        have hs := numI_size (n.tdiv 100) (by omega) (by omega)
        have et : toldT false true n = numI (n.tdiv 100) ++ ⟨#[37]⟩ := rfl
        have eb : toldB false true n = true := decide_eq_true hn
        rw [et, eb]
        generalize numI (n.tdiv 100) = t at IT hs ⊢
        clear E et eb
        go_enter Tryz.func112, Tryz.ntmps112
        go_wp2_with (go_at_call 120; refine IT.mono ?_; rintro e w1 ⟨rfl, hb⟩)
        go_ret2
        exact ⟨.inl ⟨rfl, rfl⟩, bel0.trans (hb.mono (by simp))⟩
      · obtain ⟨et, ev, he⟩ := (E.below bel0 (Nat.le_refl _)).e
        have eb : toldB false true n = false := decide_eq_false hn
        have h3 : (n.tmod 100 == 0) = false := by simpa using hn
        rw [eb]
        clear E eb
        go_enter Tryz.func112, Tryz.ntmps112
        go_wp2
        go_quiet (fail)
        all_goals
          go_wp2
          go_ret2
          exact ⟨.inr ⟨rfl, _, _, rfl⟩, below_drewN bel0 _⟩
  · clear E
    go_enter Tryz.func112, Tryz.ntmps112
    go_wp2
    go_ret2
    exact ⟨.inl ⟨rfl, rfl⟩, bel0⟩
end Go.Proofs.YtddnphgpdnedbaaGreatDoor

namespace Go.Proofs.YtddnphgpdnedbaaGreatDoor
open Go.ChangeShapes Go.WideShapes Go.ChangeAt Go.RowKit
set_option linter.unusedVariables false

set_option maxHeartbeats 2000000 in
theorem tellS_any (nm : ByteArray) (b o : Nat) (lo hi n : Int) (np a p : Bool) (w : World) (E : Env w) (g0 : -1000000 ≤ n) (g1 : n ≤ 1000000) (hc0 : w.cell? ⟨b, o, none⟩ = some (.bool a)) (hc1 : w.cell? ⟨b, o + 1, none⟩ = some (.bool p)) (hc2 : w.cell? ⟨b, o + 2, none⟩ = some (.int .i64 n)) :
    Calls Tryz.prog 100 #[.agg #[.string nm, .pointer none, .pointer (some ⟨b, o, none⟩), .int .i64 lo, .int .i64 hi, .bool np]] w fun e w' => Told (toldB a p n) (toldT a p n) e ∧ Below w.heap.size w w' := by
  have hb : b < w.heap.size := World.block_lt_of_cell? _ ⟨b, o, none⟩ hc0
  have bel0 : Below w.heap.size w (w.alloc (.cells #[.string nm, .pointer none, .pointer (some ⟨b, o, none⟩), .int .i64 lo, .int .i64 hi, .bool np] 130)) := (Below.refl _ _).alloc (Nat.le_refl _) _
  have TZ := tellSize_any a p n (w.alloc (.cells #[.string nm, .pointer none, .pointer (some ⟨b, o, none⟩), .int .i64 lo, .int .i64 hi, .bool np] 130)) (E.below bel0 (Nat.le_refl _)) g0 g1
  generalize toldT a p n = t at TZ ⊢
  generalize toldB a p n = k at TZ ⊢
  clear E
  go_enter Tryz.func100, Tryz.ntmps100
  go_wp2_with (go_at_call 112; refine TZ.mono ?_; rintro e w1 ⟨he, hb1⟩; rcases he with ⟨hk, rfl⟩ | ⟨hk, x, v, rfl⟩)
  · go_ret2
    exact ⟨.inl ⟨hk, rfl⟩, bel0.trans (hb1.mono (by simp))⟩
  · go_ret2
    exact ⟨.inr ⟨hk, x, v, rfl⟩, bel0.trans (hb1.mono (by simp))⟩

set_option maxRecDepth 100000 in
set_option maxHeartbeats 2000000 in
theorem tellL_any (nm : ByteArray) (b o : Nat) (lo hi n : Int) (np : Bool) (w : World) (E : Env w) (hc : w.cell? ⟨b, o, none⟩ = some (.int .i64 n))
    (WO : ∀ w, Calls Tryz.prog 113 #[.string nm] w fun e w' => e = .returned (.map none) ∧ w' = w) :
    Calls Tryz.prog 100 #[.agg #[.string nm, .pointer (some ⟨b, o, none⟩), .pointer none, .int .i64 lo, .int .i64 hi, .bool np]] w fun e w' => Told (pixB n) (pixText n) e ∧ Below w.heap.size w w' := by
  have hb : b < w.heap.size := World.block_lt_of_cell? _ ⟨b, o, none⟩ hc
  have hne : ¬ b = w.heap.size + 1 := by omega
  have bel0 : Below w.heap.size w ((w.alloc (.cells #[.string nm, .pointer (some ⟨b, o, none⟩), .pointer none, .int .i64 lo, .int .i64 hi, .bool np] 130)).alloc (.mapIter none 0 #[] 0)) := ((Below.refl _ _).alloc (Nat.le_refl _) _).alloc (by simp) _
  have TZ := tellLength_any n ((w.alloc (.cells #[.string nm, .pointer (some ⟨b, o, none⟩), .pointer none, .int .i64 lo, .int .i64 hi, .bool np] 130)).alloc (.mapIter none 0 #[] 0)) (E.below bel0 (Nat.le_refl _))
  generalize pixText n = t at TZ ⊢
  generalize pixB n = k at TZ ⊢
  have hrg := run_range_nilMap (P := Tryz.prog) (w.alloc (.cells #[.string nm, .pointer (some ⟨b, o, none⟩), .pointer none, .int .i64 lo, .int .i64 hi, .bool np] 130)) 154 9 3 Tryz.underlying154
  have hnx : ∀ ty, (Instr.next (.pointer (some ⟨(w.alloc (.cells #[.string nm, .pointer (some ⟨b, o, none⟩), .pointer none, .int .i64 lo, .int .i64 hi, .bool np] 130)).heap.size, 0, none⟩)) false ty).run Tryz.prog ((w.alloc (.cells #[.string nm, .pointer (some ⟨b, o, none⟩), .pointer none, .int .i64 lo, .int .i64 hi, .bool np] 130)).alloc (.mapIter none 0 #[] 0)) = _ := fun ty => run_next_nilMap (w.alloc (.cells #[.string nm, .pointer (some ⟨b, o, none⟩), .pointer none, .int .i64 lo, .int .i64 hi, .bool np] 130)) ty 0 0 #[]
  have hsz : (w.alloc (.cells #[.string nm, .pointer (some ⟨b, o, none⟩), .pointer none, .int .i64 lo, .int .i64 hi, .bool np] 130)).heap.size = w.heap.size + 1 := by simp
  rw [hsz] at hrg hnx
  clear E hsz
  go_enter Tryz.func100, Tryz.ntmps100
  go_wp2_with (go_at_call 113; refine (WO _).mono ?_; rintro e w1 ⟨rfl, rfl⟩)
  refine wp_loop_rounds 1 ?_
  rw [rounds_succ]
  go_wp2_with (go_at_call 114; refine TZ.mono ?_; rintro e w1 ⟨he, hb1⟩; rcases he with ⟨hk, rfl⟩ | ⟨hk, x, v, rfl⟩)
  · go_ret2
    exact ⟨.inl ⟨hk, rfl⟩, bel0.trans (hb1.mono (by simp; omega))⟩
  · go_ret2
    exact ⟨.inr ⟨hk, x, v, rfl⟩, bel0.trans (hb1.mono (by simp; omega))⟩
end Go.Proofs.YtddnphgpdnedbaaGreatDoor

namespace Go.Proofs.YtddnphgpdnedbaaGreatDoor
open Go.ChangeShapes Go.WideShapes Go.ChangeAt Go.RowKit
set_option linter.unusedVariables false

def intV : Value → Int | .int _ q => q | _ => 0
set_option maxRecDepth 100000 in
set_option maxHeartbeats 4000000 in
theorem tellW_any (nm : ByteArray) (b o : Nat) (lo hi n : Int) (np : Bool) (es : Array MapEntry) (c : Nat) (wd : ByteArray) (w : World) (hc : w.cell? ⟨b, o, none⟩ = some (.int .i64 n))
    (WO : ∀ w, Calls Tryz.prog 113 #[.string nm] w fun e w' => e = .returned (.map (some w.heap.size)) ∧ w' = w.alloc (.map es c))
    (hst : MapKept.Stamped es c) (hv : ∀ x ∈ es.toList, ∃ k v, x.key = .string k ∧ x.val = .int .i64 v ∧ (v = n → k = wd)) (hex : ∃ x ∈ es.toList, x.val = .int .i64 n) :
    Calls Tryz.prog 100 #[.agg #[.string nm, .pointer (some ⟨b, o, none⟩), .pointer none, .int .i64 lo, .int .i64 hi, .bool np]] w fun e w' => e = .returned (.tuple #[.string wd, .nilIface]) ∧ Below w.heap.size w w' := by
  have hb : b < w.heap.size := World.block_lt_of_cell? _ ⟨b, o, none⟩ hc
  have hbm : ((w.alloc (.cells #[.string nm, .pointer (some ⟨b, o, none⟩), .pointer none, .int .i64 lo, .int .i64 hi, .bool np] 130)).alloc (.map es c)).heap[w.heap.size + 1]? = some (.map es c) := by
    have := _root_.Go.heap_alloc_new (w.alloc (.cells #[.string nm, .pointer (some ⟨b, o, none⟩), .pointer none, .int .i64 lo, .int .i64 hi, .bool np] 130)) (.map es c)
    simpa using this
  have hrg := run_range_map (P := Tryz.prog) ((w.alloc (.cells #[.string nm, .pointer (some ⟨b, o, none⟩), .pointer none, .int .i64 lo, .int .i64 hi, .bool np] 130)).alloc (.map es c)) 154 9 3 (w.heap.size + 1) es c Tryz.underlying154 hbm
  have hsz0 : ((w.alloc (.cells #[.string nm, .pointer (some ⟨b, o, none⟩), .pointer none, .int .i64 lo, .int .i64 hi, .bool np] 130)).alloc (.map es c)).heap.size = w.heap.size + 1 + 1 := by simp
  rw [hsz0] at hrg
  have hcc0 : ∀ j, ((w.alloc (.cells #[.string nm, .pointer (some ⟨b, o, none⟩), .pointer none, .int .i64 lo, .int .i64 hi, .bool np] 130)).alloc (.map es c)).cell? ⟨w.heap.size, j, none⟩ = (#[.string nm, .pointer (some ⟨b, o, none⟩), .pointer none, .int .i64 lo, .int .i64 hi, .bool np] : Array Value)[j]? := fun j => cell_of_row _ _ _ _ _ _ (heap_in (heap_at _ _ _ rfl))
  have hcb0 : ((w.alloc (.cells #[.string nm, .pointer (some ⟨b, o, none⟩), .pointer none, .int .i64 lo, .int .i64 hi, .bool np] 130)).alloc (.map es c)).cell? ⟨b, o, none⟩ = some (.int .i64 n) := by
    rw [← hc]
    exact (((Below.refl w.heap.size w).alloc (Nat.le_refl _) _).alloc (by simp) _).cell (p := ⟨b, o, none⟩) hb
  have hth : ((w.alloc (.cells #[.string nm, .pointer (some ⟨b, o, none⟩), .pointer none, .int .i64 lo, .int .i64 hi, .bool np] 130)).alloc (.map es c)).heap[w.heap.size]? = some (.cells #[.string nm, .pointer (some ⟨b, o, none⟩), .pointer none, .int .i64 lo, .int .i64 hi, .bool np] 130) := heap_in (heap_at _ _ _ rfl)
  have bel0 : Below w.heap.size w ((w.alloc (.cells #[.string nm, .pointer (some ⟨b, o, none⟩), .pointer none, .int .i64 lo, .int .i64 hi, .bool np] 130)).alloc (.map es c)) := ((Below.refl w.heap.size w).alloc (Nat.le_refl _) _).alloc (by simp) _
  go_enter Tryz.func100, Tryz.ntmps100
  go_wp2_with (go_at_call 113; refine (WO _).mono ?_; rintro e w1 ⟨rfl, rfl⟩)
  generalize ((w.alloc (.cells #[.string nm, .pointer (some ⟨b, o, none⟩), .pointer none, .int .i64 lo, .int .i64 hi, .bool np] 130)).alloc (.map es c)) = W at *
  have hit0 : (W.alloc (.mapIter (some (w.heap.size + 1)) c #[] c)).heap[w.heap.size + 1 + 1]? = some (.mapIter (some (w.heap.size + 1)) c #[] c) := heap_at _ _ _ hsz0
  have hbm1 : (W.alloc (.mapIter (some (w.heap.size + 1)) c #[] c)).heap[w.heap.size + 1]? = some (.map es c) := heap_in hbm
  have hcc1 : (W.alloc (.mapIter (some (w.heap.size + 1)) c #[] c)).heap[w.heap.size]? = some (.cells #[.string nm, .pointer (some ⟨b, o, none⟩), .pointer none, .int .i64 lo, .int .i64 hi, .bool np] 130) := heap_in hth
  have bel1 : Below w.heap.size w (W.alloc (.mapIter (some (w.heap.size + 1)) c #[] c)) := bel0.alloc (by omega) _
  have HC : Hid (w.cell? ⟨b, o, none⟩ = some (.int .i64 n)) := hc
  clear hbm hcc0 hcb0 hrg hc WO bel0 hth
  go_loopw [] (fun wr => ∃ seen : Array Nat, wr.heap[w.heap.size + 1 + 1]? = some (.mapIter (some (w.heap.size + 1)) c seen c) ∧ wr.heap[w.heap.size + 1]? = some (.map es c) ∧ wr.heap[w.heap.size]? = some (.cells #[.string nm, .pointer (some ⟨b, o, none⟩), .pointer none, .int .i64 lo, .int .i64 hi, .bool np] 130) ∧ Below w.heap.size w wr ∧ ∀ x ∈ es.toList, seen.contains x.born = true → ¬ intV x.val = n) (fun wr => (leftOf es (wr.iterSeen (w.heap.size + 1 + 1))).size)
  case atStart => exact ⟨#[], hit0, hbm1, hcc1, bel1, fun x _ h => by simp at h⟩
  case round =>
    clear hit0 hbm1 hcc1 bel1
    obtain ⟨seen, hr, hb1, l0, bel, hno⟩ := hrel
    rcases next_step (P := Tryz.prog) wr (w.heap.size + 1 + 1) (w.heap.size + 1) c seen es hr hb1 hst with h0 | ⟨e, he, w2, p2, hr2, hnx⟩
    · exfalso
      obtain ⟨x, hx, hxv⟩ := hex
      exact hno x hx (all_seen es seen h0 x hx) (by rw [hxv]; rfl)
    · obtain ⟨k, v, hkey, hval, hkv⟩ := hv e (mem_left he).1
      rw [hval, hkey] at hnx
      have hb2 := p2.lies hb1 (by omega)
      have l2 := p2.lies l0 (by omega)
      have bel2 := p2.below bel (by omega)
      have hen := run_entry_at (P := Tryz.prog) w2 (w.heap.size + 1 + 1) (w.heap.size + 1) c seen es c e hr2 hb2 (mem_left he).1 hst.2.1
      rw [hval, hkey] at hen
      have c1 : w2.cell? ⟨w.heap.size, 1, none⟩ = some (.pointer (some ⟨b, o, none⟩)) := (lies_cell l2 1).trans rfl
      have c2 : w2.cell? ⟨b, o, none⟩ = some (.int .i64 n) := (bel2.cell (p := ⟨b, o, none⟩) hb).trans HC.out
      have HNO : Hid (∀ x ∈ es.toList, seen.contains x.born = true → ¬ intV x.val = n) := hno
      have R1 : Hid (wr.heap[w.heap.size + 1 + 1]? = some (.mapIter (some (w.heap.size + 1)) c seen c)) := hr
      have R2 : Hid (w2.heap[w.heap.size + 1 + 1]? = some (.mapIter (some (w.heap.size + 1)) c (seen.push e.born) c)) := hr2
      have B2 : Hid (w2.heap[w.heap.size + 1]? = some (.map es c)) := hb2
      have L2 : Hid (w2.heap[w.heap.size]? = some (.cells #[.string nm, .pointer (some ⟨b, o, none⟩), .pointer none, .int .i64 lo, .int .i64 hi, .bool np] 130)) := l2
      clear hno hr hr2 hb1 hb2 l0 l2 bel p2
      by_cases hvn : v = n
      · have hk := hkv hvn
        subst hvn
        subst hk
        go_wp2
        go_ret2
        exact ⟨rfl, bel2⟩
      · go_wp2
        go_roundw
        case rel =>
          refine ⟨seen.push e.born, R2.out, B2.out, L2.out, bel2, fun x hx hc => ?_⟩
          rw [contains_push] at hc
          rcases Bool.or_eq_true _ _ ▸ hc with h1 | h1
          · exact HNO.out x hx h1
          · have : x = e := born_inj hst.2.1 hx (mem_left he).1 (beq_iff_eq.1 h1)
            subst this
            rw [hval]
            exact hvn
        case measure =>
          rw [iterSeen_of R2.out, iterSeen_of R1.out]
          exact left_shrinks es seen e he
end Go.Proofs.YtddnphgpdnedbaaGreatDoor

namespace Go.Proofs.YtddnphgpdnedbaaGreatDoor
open Go.ChangeShapes Go.WideShapes Go.ChangeAt Go.RowKit
set_option linter.unusedVariables false

set_option maxRecDepth 100000 in
set_option maxHeartbeats 2000000 in
theorem wordsOf_0 (w : World) : Calls Tryz.prog 113 #[.string ⟨#[115, 104, 111, 119]⟩] w fun e w' => e = .returned (.map (some w.heap.size)) ∧ w' = w.alloc (.map #[⟨.string ⟨#[98, 108, 111, 99, 107]⟩, .int .i64 1, 0⟩, ⟨.string ⟨#[105, 110, 108, 105, 110, 101]⟩, .int .i64 2, 1⟩, ⟨.string ⟨#[110, 111, 110, 101]⟩, .int .i64 3, 2⟩] 3) := by
  have hmm := @run_makeMap Tryz.prog
  have u0 := run_mapUpdate_new (P := Tryz.prog) w 154 9 3 #[] 0 ⟨#[98, 108, 111, 99, 107]⟩ (.int .i64 1) Tryz.underlying154 Tryz.underlying9 (by kernel_rfl)
  simp only [List.push_toArray, List.nil_append] at u0
  have u1 := run_mapUpdate_new (P := Tryz.prog) w 154 9 3 #[⟨.string ⟨#[98, 108, 111, 99, 107]⟩, .int .i64 1, 0⟩] 1 ⟨#[105, 110, 108, 105, 110, 101]⟩ (.int .i64 2) Tryz.underlying154 Tryz.underlying9 (by kernel_rfl)
  simp only [List.push_toArray, List.nil_append, List.cons_append] at u1
  have u2 := run_mapUpdate_new (P := Tryz.prog) w 154 9 3 #[⟨.string ⟨#[98, 108, 111, 99, 107]⟩, .int .i64 1, 0⟩, ⟨.string ⟨#[105, 110, 108, 105, 110, 101]⟩, .int .i64 2, 1⟩] 2 ⟨#[110, 111, 110, 101]⟩ (.int .i64 3) Tryz.underlying154 Tryz.underlying9 (by kernel_rfl)
  simp only [List.push_toArray, List.nil_append, List.cons_append] at u2
  go_enter Tryz.func113, Tryz.ntmps113
  go_wp2
  go_ret
  exact ⟨rfl, rfl⟩
set_option maxRecDepth 100000 in
set_option maxHeartbeats 2000000 in
theorem wordsOf_1 (w : World) : Calls Tryz.prog 113 #[.string ⟨#[102, 108, 111, 97, 116]⟩] w fun e w' => e = .returned (.map (some w.heap.size)) ∧ w' = w.alloc (.map #[⟨.string ⟨#[110, 111, 110, 101]⟩, .int .i64 0, 0⟩, ⟨.string ⟨#[108, 101, 102, 116]⟩, .int .i64 1, 1⟩, ⟨.string ⟨#[114, 105, 103, 104, 116]⟩, .int .i64 2, 2⟩] 3) := by
  have hmm := @run_makeMap Tryz.prog
  have u0 := run_mapUpdate_new (P := Tryz.prog) w 154 9 3 #[] 0 ⟨#[110, 111, 110, 101]⟩ (.int .i64 0) Tryz.underlying154 Tryz.underlying9 (by kernel_rfl)
  simp only [List.push_toArray, List.nil_append] at u0
  have u1 := run_mapUpdate_new (P := Tryz.prog) w 154 9 3 #[⟨.string ⟨#[110, 111, 110, 101]⟩, .int .i64 0, 0⟩] 1 ⟨#[108, 101, 102, 116]⟩ (.int .i64 1) Tryz.underlying154 Tryz.underlying9 (by kernel_rfl)
  simp only [List.push_toArray, List.nil_append, List.cons_append] at u1
  have u2 := run_mapUpdate_new (P := Tryz.prog) w 154 9 3 #[⟨.string ⟨#[110, 111, 110, 101]⟩, .int .i64 0, 0⟩, ⟨.string ⟨#[108, 101, 102, 116]⟩, .int .i64 1, 1⟩] 2 ⟨#[114, 105, 103, 104, 116]⟩ (.int .i64 2) Tryz.underlying154 Tryz.underlying9 (by kernel_rfl)
  simp only [List.push_toArray, List.nil_append, List.cons_append] at u2
  go_enter Tryz.func113, Tryz.ntmps113
  go_wp2
  go_ret
  exact ⟨rfl, rfl⟩
set_option maxRecDepth 100000 in
set_option maxHeartbeats 2000000 in
theorem wordsOf_2 (w : World) : Calls Tryz.prog 113 #[.string ⟨#[99, 108, 101, 97, 114]⟩] w fun e w' => e = .returned (.map (some w.heap.size)) ∧ w' = w.alloc (.map #[⟨.string ⟨#[110, 111, 110, 101]⟩, .int .i64 0, 0⟩, ⟨.string ⟨#[108, 101, 102, 116]⟩, .int .i64 1, 1⟩, ⟨.string ⟨#[114, 105, 103, 104, 116]⟩, .int .i64 2, 2⟩, ⟨.string ⟨#[98, 111, 116, 104]⟩, .int .i64 3, 3⟩] 4) := by
  have hmm := @run_makeMap Tryz.prog
  have u0 := run_mapUpdate_new (P := Tryz.prog) w 154 9 3 #[] 0 ⟨#[110, 111, 110, 101]⟩ (.int .i64 0) Tryz.underlying154 Tryz.underlying9 (by kernel_rfl)
  simp only [List.push_toArray, List.nil_append] at u0
  have u1 := run_mapUpdate_new (P := Tryz.prog) w 154 9 3 #[⟨.string ⟨#[110, 111, 110, 101]⟩, .int .i64 0, 0⟩] 1 ⟨#[108, 101, 102, 116]⟩ (.int .i64 1) Tryz.underlying154 Tryz.underlying9 (by kernel_rfl)
  simp only [List.push_toArray, List.nil_append, List.cons_append] at u1
  have u2 := run_mapUpdate_new (P := Tryz.prog) w 154 9 3 #[⟨.string ⟨#[110, 111, 110, 101]⟩, .int .i64 0, 0⟩, ⟨.string ⟨#[108, 101, 102, 116]⟩, .int .i64 1, 1⟩] 2 ⟨#[114, 105, 103, 104, 116]⟩ (.int .i64 2) Tryz.underlying154 Tryz.underlying9 (by kernel_rfl)
  simp only [List.push_toArray, List.nil_append, List.cons_append] at u2
  have u3 := run_mapUpdate_new (P := Tryz.prog) w 154 9 3 #[⟨.string ⟨#[110, 111, 110, 101]⟩, .int .i64 0, 0⟩, ⟨.string ⟨#[108, 101, 102, 116]⟩, .int .i64 1, 1⟩, ⟨.string ⟨#[114, 105, 103, 104, 116]⟩, .int .i64 2, 2⟩] 3 ⟨#[98, 111, 116, 104]⟩ (.int .i64 3) Tryz.underlying154 Tryz.underlying9 (by kernel_rfl)
  simp only [List.push_toArray, List.nil_append, List.cons_append] at u3
  go_enter Tryz.func113, Tryz.ntmps113
  go_wp2
  go_ret
  exact ⟨rfl, rfl⟩
theorem wordsOf_3 (w : World) : Calls Tryz.prog 113 #[.string ⟨#[119, 105, 100, 116, 104]⟩] w fun e w' => e = .returned (.map none) ∧ w' = w := by
  go_enter Tryz.func113, Tryz.ntmps113
  go_wp2
  go_ret
  exact ⟨rfl, rfl⟩
theorem wordsOf_4 (w : World) : Calls Tryz.prog 113 #[.string ⟨#[104, 101, 105, 103, 104, 116]⟩] w fun e w' => e = .returned (.map none) ∧ w' = w := by
  go_enter Tryz.func113, Tryz.ntmps113
  go_wp2
  go_ret
  exact ⟨rfl, rfl⟩
theorem wordsOf_5 (w : World) : Calls Tryz.prog 113 #[.string ⟨#[109, 105, 110, 45, 119, 105, 100, 116, 104]⟩] w fun e w' => e = .returned (.map none) ∧ w' = w := by
  go_enter Tryz.func113, Tryz.ntmps113
  go_wp2
  go_ret
  exact ⟨rfl, rfl⟩
theorem wordsOf_6 (w : World) : Calls Tryz.prog 113 #[.string ⟨#[109, 97, 120, 45, 119, 105, 100, 116, 104]⟩] w fun e w' => e = .returned (.map none) ∧ w' = w := by
  go_enter Tryz.func113, Tryz.ntmps113
  go_wp2
  go_ret
  exact ⟨rfl, rfl⟩
theorem wordsOf_7 (w : World) : Calls Tryz.prog 113 #[.string ⟨#[109, 97, 114, 103, 105, 110, 45, 116, 111, 112]⟩] w fun e w' => e = .returned (.map none) ∧ w' = w := by
  go_enter Tryz.func113, Tryz.ntmps113
  go_wp2
  go_ret
  exact ⟨rfl, rfl⟩
theorem wordsOf_8 (w : World) : Calls Tryz.prog 113 #[.string ⟨#[109, 97, 114, 103, 105, 110, 45, 114, 105, 103, 104, 116]⟩] w fun e w' => e = .returned (.map none) ∧ w' = w := by
  go_enter Tryz.func113, Tryz.ntmps113
  go_wp2
  go_ret
  exact ⟨rfl, rfl⟩
theorem wordsOf_9 (w : World) : Calls Tryz.prog 113 #[.string ⟨#[109, 97, 114, 103, 105, 110, 45, 98, 111, 116, 116, 111, 109]⟩] w fun e w' => e = .returned (.map none) ∧ w' = w := by
  go_enter Tryz.func113, Tryz.ntmps113
  go_wp2
  go_ret
  exact ⟨rfl, rfl⟩
theorem wordsOf_10 (w : World) : Calls Tryz.prog 113 #[.string ⟨#[109, 97, 114, 103, 105, 110, 45, 108, 101, 102, 116]⟩] w fun e w' => e = .returned (.map none) ∧ w' = w := by
  go_enter Tryz.func113, Tryz.ntmps113
  go_wp2
  go_ret
  exact ⟨rfl, rfl⟩
theorem wordsOf_11 (w : World) : Calls Tryz.prog 113 #[.string ⟨#[98, 111, 114, 100, 101, 114]⟩] w fun e w' => e = .returned (.map none) ∧ w' = w := by
  go_enter Tryz.func113, Tryz.ntmps113
  go_wp2
  go_ret
  exact ⟨rfl, rfl⟩
theorem wordsOf_12 (w : World) : Calls Tryz.prog 113 #[.string ⟨#[112, 97, 100, 100, 105, 110, 103]⟩] w fun e w' => e = .returned (.map none) ∧ w' = w := by
  go_enter Tryz.func113, Tryz.ntmps113
  go_wp2
  go_ret
  exact ⟨rfl, rfl⟩
set_option maxRecDepth 100000 in
set_option maxHeartbeats 2000000 in
theorem wordsOf_13 (w : World) : Calls Tryz.prog 113 #[.string ⟨#[119, 104, 105, 116, 101]⟩] w fun e w' => e = .returned (.map (some w.heap.size)) ∧ w' = w.alloc (.map #[⟨.string ⟨#[110, 111, 114, 109, 97, 108]⟩, .int .i64 1, 0⟩, ⟨.string ⟨#[110, 111, 119, 114, 97, 112]⟩, .int .i64 2, 1⟩, ⟨.string ⟨#[112, 114, 101]⟩, .int .i64 3, 2⟩, ⟨.string ⟨#[112, 114, 101, 45, 119, 114, 97, 112]⟩, .int .i64 4, 3⟩, ⟨.string ⟨#[112, 114, 101, 45, 108, 105, 110, 101]⟩, .int .i64 5, 4⟩] 5) := by
  have hmm := @run_makeMap Tryz.prog
  have u0 := run_mapUpdate_new (P := Tryz.prog) w 154 9 3 #[] 0 ⟨#[110, 111, 114, 109, 97, 108]⟩ (.int .i64 1) Tryz.underlying154 Tryz.underlying9 (by kernel_rfl)
  simp only [List.push_toArray, List.nil_append] at u0
  have u1 := run_mapUpdate_new (P := Tryz.prog) w 154 9 3 #[⟨.string ⟨#[110, 111, 114, 109, 97, 108]⟩, .int .i64 1, 0⟩] 1 ⟨#[110, 111, 119, 114, 97, 112]⟩ (.int .i64 2) Tryz.underlying154 Tryz.underlying9 (by kernel_rfl)
  simp only [List.push_toArray, List.nil_append, List.cons_append] at u1
  have u2 := run_mapUpdate_new (P := Tryz.prog) w 154 9 3 #[⟨.string ⟨#[110, 111, 114, 109, 97, 108]⟩, .int .i64 1, 0⟩, ⟨.string ⟨#[110, 111, 119, 114, 97, 112]⟩, .int .i64 2, 1⟩] 2 ⟨#[112, 114, 101]⟩ (.int .i64 3) Tryz.underlying154 Tryz.underlying9 (by kernel_rfl)
  simp only [List.push_toArray, List.nil_append, List.cons_append] at u2
  have u3 := run_mapUpdate_new (P := Tryz.prog) w 154 9 3 #[⟨.string ⟨#[110, 111, 114, 109, 97, 108]⟩, .int .i64 1, 0⟩, ⟨.string ⟨#[110, 111, 119, 114, 97, 112]⟩, .int .i64 2, 1⟩, ⟨.string ⟨#[112, 114, 101]⟩, .int .i64 3, 2⟩] 3 ⟨#[112, 114, 101, 45, 119, 114, 97, 112]⟩ (.int .i64 4) Tryz.underlying154 Tryz.underlying9 (by kernel_rfl)
  simp only [List.push_toArray, List.nil_append, List.cons_append] at u3
  have u4 := run_mapUpdate_new (P := Tryz.prog) w 154 9 3 #[⟨.string ⟨#[110, 111, 114, 109, 97, 108]⟩, .int .i64 1, 0⟩, ⟨.string ⟨#[110, 111, 119, 114, 97, 112]⟩, .int .i64 2, 1⟩, ⟨.string ⟨#[112, 114, 101]⟩, .int .i64 3, 2⟩, ⟨.string ⟨#[112, 114, 101, 45, 119, 114, 97, 112]⟩, .int .i64 4, 3⟩] 4 ⟨#[112, 114, 101, 45, 108, 105, 110, 101]⟩ (.int .i64 5) Tryz.underlying154 Tryz.underlying9 (by kernel_rfl)
  simp only [List.push_toArray, List.nil_append, List.cons_append] at u4
  go_enter Tryz.func113, Tryz.ntmps113
  go_wp2
  go_ret
  exact ⟨rfl, rfl⟩
set_option maxRecDepth 100000 in
set_option maxHeartbeats 2000000 in
theorem wordsOf_14 (w : World) : Calls Tryz.prog 113 #[.string ⟨#[97, 108, 105, 103, 110]⟩] w fun e w' => e = .returned (.map (some w.heap.size)) ∧ w' = w.alloc (.map #[⟨.string ⟨#[108, 101, 102, 116]⟩, .int .i64 1, 0⟩, ⟨.string ⟨#[114, 105, 103, 104, 116]⟩, .int .i64 2, 1⟩, ⟨.string ⟨#[99, 101, 110, 116, 101, 114]⟩, .int .i64 3, 2⟩] 3) := by
  have hmm := @run_makeMap Tryz.prog
  have u0 := run_mapUpdate_new (P := Tryz.prog) w 154 9 3 #[] 0 ⟨#[108, 101, 102, 116]⟩ (.int .i64 1) Tryz.underlying154 Tryz.underlying9 (by kernel_rfl)
  simp only [List.push_toArray, List.nil_append] at u0
  have u1 := run_mapUpdate_new (P := Tryz.prog) w 154 9 3 #[⟨.string ⟨#[108, 101, 102, 116]⟩, .int .i64 1, 0⟩] 1 ⟨#[114, 105, 103, 104, 116]⟩ (.int .i64 2) Tryz.underlying154 Tryz.underlying9 (by kernel_rfl)
  simp only [List.push_toArray, List.nil_append, List.cons_append] at u1
  have u2 := run_mapUpdate_new (P := Tryz.prog) w 154 9 3 #[⟨.string ⟨#[108, 101, 102, 116]⟩, .int .i64 1, 0⟩, ⟨.string ⟨#[114, 105, 103, 104, 116]⟩, .int .i64 2, 1⟩] 2 ⟨#[99, 101, 110, 116, 101, 114]⟩ (.int .i64 3) Tryz.underlying154 Tryz.underlying9 (by kernel_rfl)
  simp only [List.push_toArray, List.nil_append, List.cons_append] at u2
  go_enter Tryz.func113, Tryz.ntmps113
  go_wp2
  go_ret
  exact ⟨rfl, rfl⟩
theorem wordsOf_15 (w : World) : Calls Tryz.prog 113 #[.string ⟨#[108, 105, 110, 101, 45, 104, 101, 105, 103, 104, 116]⟩] w fun e w' => e = .returned (.map none) ∧ w' = w := by
  go_enter Tryz.func113, Tryz.ntmps113
  go_wp2
  go_ret
  exact ⟨rfl, rfl⟩
theorem wordsOf_16 (w : World) : Calls Tryz.prog 113 #[.string ⟨#[114, 105, 103, 104, 116]⟩] w fun e w' => e = .returned (.map none) ∧ w' = w := by
  go_enter Tryz.func113, Tryz.ntmps113
  go_wp2
  go_ret
  exact ⟨rfl, rfl⟩
theorem wordsOf_17 (w : World) : Calls Tryz.prog 113 #[.string ⟨#[100, 111, 119, 110]⟩] w fun e w' => e = .returned (.map none) ∧ w' = w := by
  go_enter Tryz.func113, Tryz.ntmps113
  go_wp2
  go_ret
  exact ⟨rfl, rfl⟩
end Go.Proofs.YtddnphgpdnedbaaGreatDoor

namespace Go.Proofs.YtddnphgpdnedbaaGreatDoor
open Go.ChangeShapes Go.WideShapes Go.ChangeAt Go.RowKit
set_option linter.unusedVariables false

theorem eqSz_held : Tryz.prog.stoodInHeld 32 = false := by kernel_rfl
theorem eqSz_guard : Tryz.prog.eqGuardType Tryz.prog.depth 32 = false := by kernel_rfl
theorem eqSz_fields : Tryz.prog.underlying 32 = some (.struct (Tryz.prog.fieldsOf 32)) := by kernel_rfl
theorem eqSz_run (a p a2 p2 : Bool) (n n2 : Int) (w : World) :
    (binOp .eql 32 (.agg #[.bool a, .bool p, .int .i64 n]) (.agg #[.bool a2, .bool p2, .int .i64 n2])).run Tryz.prog w = .ok (.bool (decide (a = a2 ∧ p = p2 ∧ n = n2))) w := by
  rw [run_eql_struct, run_equalIn_agg _ _ _ _ _ eqSz_fields eqSz_held]
  simp only [Program.fieldsOf, Tryz.underlying32]
  by_cases h1 : a = a2 <;> by_cases h2 : p = p2 <;> by_cases h3 : n = n2 <;> simp [Op.eqFields, go_sem, Tryz.underlying3, Tryz.underlying4, h1, h2, h3]

set_option maxHeartbeats 2000000 in
theorem sameN_any (nm nm2 : ByteArray) (b o b2 o2 : Nat) (lo hi n lo2 hi2 n2 : Int) (np np2 : Bool) (w : World) (hc : w.cell? ⟨b, o, none⟩ = some (.int .i64 n)) (hc2 : w.cell? ⟨b2, o2, none⟩ = some (.int .i64 n2)) :
    Calls Tryz.prog 99 #[.agg #[.string nm, .pointer (some ⟨b, o, none⟩), .pointer none, .int .i64 lo, .int .i64 hi, .bool np], .agg #[.string nm2, .pointer (some ⟨b2, o2, none⟩), .pointer none, .int .i64 lo2, .int .i64 hi2, .bool np2]] w fun e w' => e = .returned (.bool (decide (n = n2))) ∧ Below w.heap.size w w' := by
  have hb : b < w.heap.size := World.block_lt_of_cell? _ ⟨b, o, none⟩ hc
  have hb2 : b2 < w.heap.size := World.block_lt_of_cell? _ ⟨b2, o2, none⟩ hc2
  have ne1 : ¬ b = w.heap.size + 1 := by omega
  have ne2 : ¬ b2 = w.heap.size + 1 := by omega
  go_enter Tryz.func99, Tryz.ntmps99
  go_wp2
  go_quiet (fail)
  all_goals
    go_wp2
    go_ret
    exact ⟨ret_bool (by first | rfl | simp), below_drewN (((Below.refl _ _).alloc (Nat.le_refl _) _).alloc (by simp) _) _⟩

set_option maxHeartbeats 2000000 in
theorem sameS_any (nm nm2 : ByteArray) (b o b2 o2 : Nat) (lo hi n lo2 hi2 n2 : Int) (np np2 a p a2 p2 : Bool) (w : World) (hc0 : w.cell? ⟨b, o, none⟩ = some (.bool a)) (hc1 : w.cell? ⟨b, o + 1, none⟩ = some (.bool p)) (hc2 : w.cell? ⟨b, o + 2, none⟩ = some (.int .i64 n))
    (hd0 : w.cell? ⟨b2, o2, none⟩ = some (.bool a2)) (hd1 : w.cell? ⟨b2, o2 + 1, none⟩ = some (.bool p2)) (hd2 : w.cell? ⟨b2, o2 + 2, none⟩ = some (.int .i64 n2)) :
    Calls Tryz.prog 99 #[.agg #[.string nm, .pointer none, .pointer (some ⟨b, o, none⟩), .int .i64 lo, .int .i64 hi, .bool np], .agg #[.string nm2, .pointer none, .pointer (some ⟨b2, o2, none⟩), .int .i64 lo2, .int .i64 hi2, .bool np2]] w fun e w' => e = .returned (.bool (decide (a = a2 ∧ p = p2 ∧ n = n2))) ∧ Below w.heap.size w w' := by
  have hb : b < w.heap.size := World.block_lt_of_cell? _ ⟨b, o, none⟩ hc0
  have hb2 : b2 < w.heap.size := World.block_lt_of_cell? _ ⟨b2, o2, none⟩ hd0
  have ne1 : ¬ b = w.heap.size + 1 := by omega
  have ne2 : ¬ b2 = w.heap.size + 1 := by omega
  have EQ := eqSz_run a p a2 p2 n n2
  have GD := fun (w : World) (x y : Operand) => run_eqGuard_agg (P := Tryz.prog) w .eql 32 x y #[.bool a, .bool p, .int .i64 n] #[.bool a2, .bool p2, .int .i64 n2] eqSz_guard
  generalize decide (a = a2 ∧ p = p2 ∧ n = n2) = r at EQ ⊢
  go_enter Tryz.func99, Tryz.ntmps99
  go_wp2
  go_quiet (fail)
  all_goals
    go_wp2
    go_ret
    exact ⟨ret_bool (by first | rfl | simp), below_drewN (((Below.refl _ _).alloc (Nat.le_refl _) _).alloc (by simp) _) _⟩
end Go.Proofs.YtddnphgpdnedbaaGreatDoor

namespace Go.Proofs.YtddnphgpdnedbaaGreatDoor
open Go.ChangeShapes Go.WideShapes Go.ChangeAt Go.RowKit
set_option linter.unusedVariables false

def tokT (s : St) (k : Nat) : ByteArray := ([([ByteArray.empty, ⟨#[98, 108, 111, 99, 107]⟩, ⟨#[105, 110, 108, 105, 110, 101]⟩, ⟨#[110, 111, 110, 101]⟩] : List ByteArray).getD s.sh.toNat ByteArray.empty, ([⟨#[110, 111, 110, 101]⟩, ⟨#[108, 101, 102, 116]⟩, ⟨#[114, 105, 103, 104, 116]⟩] : List ByteArray).getD s.fl.toNat ByteArray.empty, ([⟨#[110, 111, 110, 101]⟩, ⟨#[108, 101, 102, 116]⟩, ⟨#[114, 105, 103, 104, 116]⟩, ⟨#[98, 111, 116, 104]⟩] : List ByteArray).getD s.cl.toNat ByteArray.empty, toldT s.w.a s.w.p s.w.n, toldT s.h.a s.h.p s.h.n, pixText s.mn, pixText s.mx, pixText s.mt, toldT s.mr.a s.mr.p s.mr.n, pixText s.mb, toldT s.ml.a s.ml.p s.ml.n, pixText s.bo, pixText s.pa, ([ByteArray.empty, ⟨#[110, 111, 114, 109, 97, 108]⟩, ⟨#[110, 111, 119, 114, 97, 112]⟩, ⟨#[112, 114, 101]⟩, ⟨#[112, 114, 101, 45, 119, 114, 97, 112]⟩, ⟨#[112, 114, 101, 45, 108, 105, 110, 101]⟩] : List ByteArray).getD s.wh.toNat ByteArray.empty, ([ByteArray.empty, ⟨#[108, 101, 102, 116]⟩, ⟨#[114, 105, 103, 104, 116]⟩, ⟨#[99, 101, 110, 116, 101, 114]⟩] : List ByteArray).getD s.al.toNat ByteArray.empty, pixText s.lh, pixText s.ri, pixText s.dn] : List ByteArray).getD k ByteArray.empty
def tokB (s : St) (k : Nat) : Bool := ([true, true, true, toldB s.w.a s.w.p s.w.n, toldB s.h.a s.h.p s.h.n, pixB s.mn, pixB s.mx, pixB s.mt, toldB s.mr.a s.mr.p s.mr.n, pixB s.mb, toldB s.ml.a s.ml.p s.ml.n, pixB s.bo, pixB s.pa, true, true, pixB s.lh, pixB s.ri, pixB s.dn] : List Bool).getD k true
def sameB (s : St) (k : Nat) : Bool := ([decide (s.sh = 1), decide (s.fl = 0), decide (s.cl = 0), decide (s.w.a = true ∧ s.w.p = false ∧ s.w.n = 0), decide (s.h.a = true ∧ s.h.p = false ∧ s.h.n = 0), decide (s.mn = 0), decide (s.mx = (-1)), decide (s.mt = 0), decide (s.mr.a = false ∧ s.mr.p = false ∧ s.mr.n = 0), decide (s.mb = 0), decide (s.ml.a = false ∧ s.ml.p = false ∧ s.ml.n = 0), decide (s.bo = 0), decide (s.pa = 0), decide (s.wh = 1), decide (s.al = 1), decide (s.lh = 0), decide (s.ri = 0), decide (s.dn = 0)] : List Bool).getD k true
def plainS : St := ⟨1, 0, 0, ⟨true, false, 0⟩, ⟨true, false, 0⟩, 0, -1, 0, ⟨false, false, 0⟩, 0, ⟨false, false, 0⟩, 0, 0, 1, 1, 0, 0, 0⟩
theorem size_bd {a p : Bool} {n : Int} (h : szB a p n = true) : -1000000 ≤ n ∧ n ≤ 1000000 := by
  cases a <;> cases p <;> simp [szB, inB] at h <;> omega
theorem told_word {wd : ByteArray} {e : Ending} (h : e = .returned (.tuple #[.string wd, .nilIface])) : Told true wd e := .inl ⟨rfl, h⟩
theorem tell_0 (s : St) (b : Nat) (w : World) (E : Env w) (hs : styleB s = true) (l0 : w.heap[b]? = some (.cells (#[.int .i64 s.sh, .int .i64 s.fl, .int .i64 s.cl, .bool s.w.a, .bool s.w.p, .int .i64 s.w.n, .bool s.h.a, .bool s.h.p, .int .i64 s.h.n, .int .i64 s.mn, .int .i64 s.mx, .int .i64 s.mt, .bool s.mr.a, .bool s.mr.p, .int .i64 s.mr.n, .int .i64 s.mb, .bool s.ml.a, .bool s.ml.p, .int .i64 s.ml.n, .int .i64 s.bo, .int .i64 s.pa, .int .i64 s.wh, .int .i64 s.al, .int .i64 s.lh, .int .i64 s.ri, .int .i64 s.dn]) 34 (0, 0))) :
    Calls Tryz.prog 100 #[.agg #[.string (nmT 0), .pointer (p1T b 0), .pointer (p2T b 0), .int .i64 (loT 0), .int .i64 (hiT 0), .bool (npT 0)]] w fun e w' => Told (tokB s 0) (tokT s 0) e ∧ Below w.heap.size w w' := by
  have h := hs
  unfold styleB gA gB gC gD gE at h
  simp only [Bool.and_eq_true] at h
  have hr := inB_yes h.1.1.1.1.1.1.1.1
  clear h hs
  have hc := lies_cell l0 0
  have hx : s.sh = 1 ∨ s.sh = 2 ∨ s.sh = 3 := by omega
  rcases hx with hx | hx | hx
  · have ht : tokT s 0 = ⟨#[98, 108, 111, 99, 107]⟩ := by unfold tokT; simp only [List.getD_cons_zero]; rw [hx]; rfl
    rw [ht]
    refine (tellW_any _ _ _ _ _ 1 _ #[⟨.string ⟨#[98, 108, 111, 99, 107]⟩, .int .i64 1, 0⟩, ⟨.string ⟨#[105, 110, 108, 105, 110, 101]⟩, .int .i64 2, 1⟩, ⟨.string ⟨#[110, 111, 110, 101]⟩, .int .i64 3, 2⟩] 3 ⟨#[98, 108, 111, 99, 107]⟩ w (hc.trans (by rw [← hx]; rfl)) wordsOf_0 ?_ ?_ ?_).mono (fun e w' h => ⟨told_word h.1, h.2⟩)
    · exact ⟨fun x hx' => by (simp only [List.mem_cons, List.not_mem_nil, or_false] at hx'; rcases hx' with rfl | rfl | rfl <;> decide), by simp, by simp⟩
    · intro x hx'
      simp only [List.mem_cons, List.not_mem_nil, or_false] at hx'
      rcases hx' with rfl | rfl | rfl
      all_goals exact ⟨_, _, rfl, rfl, fun h => by first | rfl | exact absurd h (by decide)⟩
    · exact ⟨⟨.string ⟨#[98, 108, 111, 99, 107]⟩, .int .i64 1, 0⟩, by simp, rfl⟩
  · have ht : tokT s 0 = ⟨#[105, 110, 108, 105, 110, 101]⟩ := by unfold tokT; simp only [List.getD_cons_zero]; rw [hx]; rfl
    rw [ht]
    refine (tellW_any _ _ _ _ _ 2 _ #[⟨.string ⟨#[98, 108, 111, 99, 107]⟩, .int .i64 1, 0⟩, ⟨.string ⟨#[105, 110, 108, 105, 110, 101]⟩, .int .i64 2, 1⟩, ⟨.string ⟨#[110, 111, 110, 101]⟩, .int .i64 3, 2⟩] 3 ⟨#[105, 110, 108, 105, 110, 101]⟩ w (hc.trans (by rw [← hx]; rfl)) wordsOf_0 ?_ ?_ ?_).mono (fun e w' h => ⟨told_word h.1, h.2⟩)
    · exact ⟨fun x hx' => by (simp only [List.mem_cons, List.not_mem_nil, or_false] at hx'; rcases hx' with rfl | rfl | rfl <;> decide), by simp, by simp⟩
    · intro x hx'
      simp only [List.mem_cons, List.not_mem_nil, or_false] at hx'
      rcases hx' with rfl | rfl | rfl
      all_goals exact ⟨_, _, rfl, rfl, fun h => by first | rfl | exact absurd h (by decide)⟩
    · exact ⟨⟨.string ⟨#[105, 110, 108, 105, 110, 101]⟩, .int .i64 2, 1⟩, by simp, rfl⟩
  · have ht : tokT s 0 = ⟨#[110, 111, 110, 101]⟩ := by unfold tokT; simp only [List.getD_cons_zero]; rw [hx]; rfl
    rw [ht]
    refine (tellW_any _ _ _ _ _ 3 _ #[⟨.string ⟨#[98, 108, 111, 99, 107]⟩, .int .i64 1, 0⟩, ⟨.string ⟨#[105, 110, 108, 105, 110, 101]⟩, .int .i64 2, 1⟩, ⟨.string ⟨#[110, 111, 110, 101]⟩, .int .i64 3, 2⟩] 3 ⟨#[110, 111, 110, 101]⟩ w (hc.trans (by rw [← hx]; rfl)) wordsOf_0 ?_ ?_ ?_).mono (fun e w' h => ⟨told_word h.1, h.2⟩)
    · exact ⟨fun x hx' => by (simp only [List.mem_cons, List.not_mem_nil, or_false] at hx'; rcases hx' with rfl | rfl | rfl <;> decide), by simp, by simp⟩
    · intro x hx'
      simp only [List.mem_cons, List.not_mem_nil, or_false] at hx'
      rcases hx' with rfl | rfl | rfl
      all_goals exact ⟨_, _, rfl, rfl, fun h => by first | rfl | exact absurd h (by decide)⟩
    · exact ⟨⟨.string ⟨#[110, 111, 110, 101]⟩, .int .i64 3, 2⟩, by simp, rfl⟩
theorem tell_1 (s : St) (b : Nat) (w : World) (E : Env w) (hs : styleB s = true) (l0 : w.heap[b]? = some (.cells (#[.int .i64 s.sh, .int .i64 s.fl, .int .i64 s.cl, .bool s.w.a, .bool s.w.p, .int .i64 s.w.n, .bool s.h.a, .bool s.h.p, .int .i64 s.h.n, .int .i64 s.mn, .int .i64 s.mx, .int .i64 s.mt, .bool s.mr.a, .bool s.mr.p, .int .i64 s.mr.n, .int .i64 s.mb, .bool s.ml.a, .bool s.ml.p, .int .i64 s.ml.n, .int .i64 s.bo, .int .i64 s.pa, .int .i64 s.wh, .int .i64 s.al, .int .i64 s.lh, .int .i64 s.ri, .int .i64 s.dn]) 34 (0, 0))) :
    Calls Tryz.prog 100 #[.agg #[.string (nmT 1), .pointer (p1T b 1), .pointer (p2T b 1), .int .i64 (loT 1), .int .i64 (hiT 1), .bool (npT 1)]] w fun e w' => Told (tokB s 1) (tokT s 1) e ∧ Below w.heap.size w w' := by
  have h := hs
  unfold styleB gA gB gC gD gE at h
  simp only [Bool.and_eq_true] at h
  have hr := inB_yes h.1.1.1.1.1.1.1.2
  clear h hs
  have hc := lies_cell l0 1
  have hx : s.fl = 0 ∨ s.fl = 1 ∨ s.fl = 2 := by omega
  rcases hx with hx | hx | hx
  · have ht : tokT s 1 = ⟨#[110, 111, 110, 101]⟩ := by unfold tokT; simp only [List.getD_cons_zero, List.getD_cons_succ]; rw [hx]; rfl
    rw [ht]
    refine (tellW_any _ _ _ _ _ 0 _ #[⟨.string ⟨#[110, 111, 110, 101]⟩, .int .i64 0, 0⟩, ⟨.string ⟨#[108, 101, 102, 116]⟩, .int .i64 1, 1⟩, ⟨.string ⟨#[114, 105, 103, 104, 116]⟩, .int .i64 2, 2⟩] 3 ⟨#[110, 111, 110, 101]⟩ w (hc.trans (by rw [← hx]; rfl)) wordsOf_1 ?_ ?_ ?_).mono (fun e w' h => ⟨told_word h.1, h.2⟩)
    · exact ⟨fun x hx' => by (simp only [List.mem_cons, List.not_mem_nil, or_false] at hx'; rcases hx' with rfl | rfl | rfl <;> decide), by simp, by simp⟩
    · intro x hx'
      simp only [List.mem_cons, List.not_mem_nil, or_false] at hx'
      rcases hx' with rfl | rfl | rfl
      all_goals exact ⟨_, _, rfl, rfl, fun h => by first | rfl | exact absurd h (by decide)⟩
    · exact ⟨⟨.string ⟨#[110, 111, 110, 101]⟩, .int .i64 0, 0⟩, by simp, rfl⟩
  · have ht : tokT s 1 = ⟨#[108, 101, 102, 116]⟩ := by unfold tokT; simp only [List.getD_cons_zero, List.getD_cons_succ]; rw [hx]; rfl
    rw [ht]
    refine (tellW_any _ _ _ _ _ 1 _ #[⟨.string ⟨#[110, 111, 110, 101]⟩, .int .i64 0, 0⟩, ⟨.string ⟨#[108, 101, 102, 116]⟩, .int .i64 1, 1⟩, ⟨.string ⟨#[114, 105, 103, 104, 116]⟩, .int .i64 2, 2⟩] 3 ⟨#[108, 101, 102, 116]⟩ w (hc.trans (by rw [← hx]; rfl)) wordsOf_1 ?_ ?_ ?_).mono (fun e w' h => ⟨told_word h.1, h.2⟩)
    · exact ⟨fun x hx' => by (simp only [List.mem_cons, List.not_mem_nil, or_false] at hx'; rcases hx' with rfl | rfl | rfl <;> decide), by simp, by simp⟩
    · intro x hx'
      simp only [List.mem_cons, List.not_mem_nil, or_false] at hx'
      rcases hx' with rfl | rfl | rfl
      all_goals exact ⟨_, _, rfl, rfl, fun h => by first | rfl | exact absurd h (by decide)⟩
    · exact ⟨⟨.string ⟨#[108, 101, 102, 116]⟩, .int .i64 1, 1⟩, by simp, rfl⟩
  · have ht : tokT s 1 = ⟨#[114, 105, 103, 104, 116]⟩ := by unfold tokT; simp only [List.getD_cons_zero, List.getD_cons_succ]; rw [hx]; rfl
    rw [ht]
    refine (tellW_any _ _ _ _ _ 2 _ #[⟨.string ⟨#[110, 111, 110, 101]⟩, .int .i64 0, 0⟩, ⟨.string ⟨#[108, 101, 102, 116]⟩, .int .i64 1, 1⟩, ⟨.string ⟨#[114, 105, 103, 104, 116]⟩, .int .i64 2, 2⟩] 3 ⟨#[114, 105, 103, 104, 116]⟩ w (hc.trans (by rw [← hx]; rfl)) wordsOf_1 ?_ ?_ ?_).mono (fun e w' h => ⟨told_word h.1, h.2⟩)
    · exact ⟨fun x hx' => by (simp only [List.mem_cons, List.not_mem_nil, or_false] at hx'; rcases hx' with rfl | rfl | rfl <;> decide), by simp, by simp⟩
    · intro x hx'
      simp only [List.mem_cons, List.not_mem_nil, or_false] at hx'
      rcases hx' with rfl | rfl | rfl
      all_goals exact ⟨_, _, rfl, rfl, fun h => by first | rfl | exact absurd h (by decide)⟩
    · exact ⟨⟨.string ⟨#[114, 105, 103, 104, 116]⟩, .int .i64 2, 2⟩, by simp, rfl⟩
theorem tell_2 (s : St) (b : Nat) (w : World) (E : Env w) (hs : styleB s = true) (l0 : w.heap[b]? = some (.cells (#[.int .i64 s.sh, .int .i64 s.fl, .int .i64 s.cl, .bool s.w.a, .bool s.w.p, .int .i64 s.w.n, .bool s.h.a, .bool s.h.p, .int .i64 s.h.n, .int .i64 s.mn, .int .i64 s.mx, .int .i64 s.mt, .bool s.mr.a, .bool s.mr.p, .int .i64 s.mr.n, .int .i64 s.mb, .bool s.ml.a, .bool s.ml.p, .int .i64 s.ml.n, .int .i64 s.bo, .int .i64 s.pa, .int .i64 s.wh, .int .i64 s.al, .int .i64 s.lh, .int .i64 s.ri, .int .i64 s.dn]) 34 (0, 0))) :
    Calls Tryz.prog 100 #[.agg #[.string (nmT 2), .pointer (p1T b 2), .pointer (p2T b 2), .int .i64 (loT 2), .int .i64 (hiT 2), .bool (npT 2)]] w fun e w' => Told (tokB s 2) (tokT s 2) e ∧ Below w.heap.size w w' := by
  have h := hs
  unfold styleB gA gB gC gD gE at h
  simp only [Bool.and_eq_true] at h
  have hr := inB_yes h.1.1.1.1.1.1.2
  clear h hs
  have hc := lies_cell l0 2
  have hx : s.cl = 0 ∨ s.cl = 1 ∨ s.cl = 2 ∨ s.cl = 3 := by omega
  rcases hx with hx | hx | hx | hx
  · have ht : tokT s 2 = ⟨#[110, 111, 110, 101]⟩ := by unfold tokT; simp only [List.getD_cons_zero, List.getD_cons_succ]; rw [hx]; rfl
    rw [ht]
    refine (tellW_any _ _ _ _ _ 0 _ #[⟨.string ⟨#[110, 111, 110, 101]⟩, .int .i64 0, 0⟩, ⟨.string ⟨#[108, 101, 102, 116]⟩, .int .i64 1, 1⟩, ⟨.string ⟨#[114, 105, 103, 104, 116]⟩, .int .i64 2, 2⟩, ⟨.string ⟨#[98, 111, 116, 104]⟩, .int .i64 3, 3⟩] 4 ⟨#[110, 111, 110, 101]⟩ w (hc.trans (by rw [← hx]; rfl)) wordsOf_2 ?_ ?_ ?_).mono (fun e w' h => ⟨told_word h.1, h.2⟩)
    · exact ⟨fun x hx' => by (simp only [List.mem_cons, List.not_mem_nil, or_false] at hx'; rcases hx' with rfl | rfl | rfl | rfl <;> decide), by simp, by simp⟩
    · intro x hx'
      simp only [List.mem_cons, List.not_mem_nil, or_false] at hx'
      rcases hx' with rfl | rfl | rfl | rfl
      all_goals exact ⟨_, _, rfl, rfl, fun h => by first | rfl | exact absurd h (by decide)⟩
    · exact ⟨⟨.string ⟨#[110, 111, 110, 101]⟩, .int .i64 0, 0⟩, by simp, rfl⟩
  · have ht : tokT s 2 = ⟨#[108, 101, 102, 116]⟩ := by unfold tokT; simp only [List.getD_cons_zero, List.getD_cons_succ]; rw [hx]; rfl
    rw [ht]
    refine (tellW_any _ _ _ _ _ 1 _ #[⟨.string ⟨#[110, 111, 110, 101]⟩, .int .i64 0, 0⟩, ⟨.string ⟨#[108, 101, 102, 116]⟩, .int .i64 1, 1⟩, ⟨.string ⟨#[114, 105, 103, 104, 116]⟩, .int .i64 2, 2⟩, ⟨.string ⟨#[98, 111, 116, 104]⟩, .int .i64 3, 3⟩] 4 ⟨#[108, 101, 102, 116]⟩ w (hc.trans (by rw [← hx]; rfl)) wordsOf_2 ?_ ?_ ?_).mono (fun e w' h => ⟨told_word h.1, h.2⟩)
    · exact ⟨fun x hx' => by (simp only [List.mem_cons, List.not_mem_nil, or_false] at hx'; rcases hx' with rfl | rfl | rfl | rfl <;> decide), by simp, by simp⟩
    · intro x hx'
      simp only [List.mem_cons, List.not_mem_nil, or_false] at hx'
      rcases hx' with rfl | rfl | rfl | rfl
      all_goals exact ⟨_, _, rfl, rfl, fun h => by first | rfl | exact absurd h (by decide)⟩
    · exact ⟨⟨.string ⟨#[108, 101, 102, 116]⟩, .int .i64 1, 1⟩, by simp, rfl⟩
  · have ht : tokT s 2 = ⟨#[114, 105, 103, 104, 116]⟩ := by unfold tokT; simp only [List.getD_cons_zero, List.getD_cons_succ]; rw [hx]; rfl
    rw [ht]
    refine (tellW_any _ _ _ _ _ 2 _ #[⟨.string ⟨#[110, 111, 110, 101]⟩, .int .i64 0, 0⟩, ⟨.string ⟨#[108, 101, 102, 116]⟩, .int .i64 1, 1⟩, ⟨.string ⟨#[114, 105, 103, 104, 116]⟩, .int .i64 2, 2⟩, ⟨.string ⟨#[98, 111, 116, 104]⟩, .int .i64 3, 3⟩] 4 ⟨#[114, 105, 103, 104, 116]⟩ w (hc.trans (by rw [← hx]; rfl)) wordsOf_2 ?_ ?_ ?_).mono (fun e w' h => ⟨told_word h.1, h.2⟩)
    · exact ⟨fun x hx' => by (simp only [List.mem_cons, List.not_mem_nil, or_false] at hx'; rcases hx' with rfl | rfl | rfl | rfl <;> decide), by simp, by simp⟩
    · intro x hx'
      simp only [List.mem_cons, List.not_mem_nil, or_false] at hx'
      rcases hx' with rfl | rfl | rfl | rfl
      all_goals exact ⟨_, _, rfl, rfl, fun h => by first | rfl | exact absurd h (by decide)⟩
    · exact ⟨⟨.string ⟨#[114, 105, 103, 104, 116]⟩, .int .i64 2, 2⟩, by simp, rfl⟩
  · have ht : tokT s 2 = ⟨#[98, 111, 116, 104]⟩ := by unfold tokT; simp only [List.getD_cons_zero, List.getD_cons_succ]; rw [hx]; rfl
    rw [ht]
    refine (tellW_any _ _ _ _ _ 3 _ #[⟨.string ⟨#[110, 111, 110, 101]⟩, .int .i64 0, 0⟩, ⟨.string ⟨#[108, 101, 102, 116]⟩, .int .i64 1, 1⟩, ⟨.string ⟨#[114, 105, 103, 104, 116]⟩, .int .i64 2, 2⟩, ⟨.string ⟨#[98, 111, 116, 104]⟩, .int .i64 3, 3⟩] 4 ⟨#[98, 111, 116, 104]⟩ w (hc.trans (by rw [← hx]; rfl)) wordsOf_2 ?_ ?_ ?_).mono (fun e w' h => ⟨told_word h.1, h.2⟩)
    · exact ⟨fun x hx' => by (simp only [List.mem_cons, List.not_mem_nil, or_false] at hx'; rcases hx' with rfl | rfl | rfl | rfl <;> decide), by simp, by simp⟩
    · intro x hx'
      simp only [List.mem_cons, List.not_mem_nil, or_false] at hx'
      rcases hx' with rfl | rfl | rfl | rfl
      all_goals exact ⟨_, _, rfl, rfl, fun h => by first | rfl | exact absurd h (by decide)⟩
    · exact ⟨⟨.string ⟨#[98, 111, 116, 104]⟩, .int .i64 3, 3⟩, by simp, rfl⟩
theorem tell_3 (s : St) (b : Nat) (w : World) (E : Env w) (hs : styleB s = true) (l0 : w.heap[b]? = some (.cells (#[.int .i64 s.sh, .int .i64 s.fl, .int .i64 s.cl, .bool s.w.a, .bool s.w.p, .int .i64 s.w.n, .bool s.h.a, .bool s.h.p, .int .i64 s.h.n, .int .i64 s.mn, .int .i64 s.mx, .int .i64 s.mt, .bool s.mr.a, .bool s.mr.p, .int .i64 s.mr.n, .int .i64 s.mb, .bool s.ml.a, .bool s.ml.p, .int .i64 s.ml.n, .int .i64 s.bo, .int .i64 s.pa, .int .i64 s.wh, .int .i64 s.al, .int .i64 s.lh, .int .i64 s.ri, .int .i64 s.dn]) 34 (0, 0))) :
    Calls Tryz.prog 100 #[.agg #[.string (nmT 3), .pointer (p1T b 3), .pointer (p2T b 3), .int .i64 (loT 3), .int .i64 (hiT 3), .bool (npT 3)]] w fun e w' => Told (tokB s 3) (tokT s 3) e ∧ Below w.heap.size w w' := by
  have h := hs
  unfold styleB gA gB gC gD gE at h
  simp only [Bool.and_eq_true] at h
  obtain ⟨g0, g1⟩ := size_bd h.1.1.1.2.1.1.1
  exact tellS_any _ _ _ _ _ _ _ _ _ w E g0 g1 (lies_cell l0 3) (lies_cell l0 4) (lies_cell l0 5)
theorem tell_4 (s : St) (b : Nat) (w : World) (E : Env w) (hs : styleB s = true) (l0 : w.heap[b]? = some (.cells (#[.int .i64 s.sh, .int .i64 s.fl, .int .i64 s.cl, .bool s.w.a, .bool s.w.p, .int .i64 s.w.n, .bool s.h.a, .bool s.h.p, .int .i64 s.h.n, .int .i64 s.mn, .int .i64 s.mx, .int .i64 s.mt, .bool s.mr.a, .bool s.mr.p, .int .i64 s.mr.n, .int .i64 s.mb, .bool s.ml.a, .bool s.ml.p, .int .i64 s.ml.n, .int .i64 s.bo, .int .i64 s.pa, .int .i64 s.wh, .int .i64 s.al, .int .i64 s.lh, .int .i64 s.ri, .int .i64 s.dn]) 34 (0, 0))) :
    Calls Tryz.prog 100 #[.agg #[.string (nmT 4), .pointer (p1T b 4), .pointer (p2T b 4), .int .i64 (loT 4), .int .i64 (hiT 4), .bool (npT 4)]] w fun e w' => Told (tokB s 4) (tokT s 4) e ∧ Below w.heap.size w w' := by
  have h := hs
  unfold styleB gA gB gC gD gE at h
  simp only [Bool.and_eq_true] at h
  obtain ⟨g0, g1⟩ := size_bd h.1.1.1.2.1.1.2
  exact tellS_any _ _ _ _ _ _ _ _ _ w E g0 g1 (lies_cell l0 6) (lies_cell l0 7) (lies_cell l0 8)
theorem tell_5 (s : St) (b : Nat) (w : World) (E : Env w) (hs : styleB s = true) (l0 : w.heap[b]? = some (.cells (#[.int .i64 s.sh, .int .i64 s.fl, .int .i64 s.cl, .bool s.w.a, .bool s.w.p, .int .i64 s.w.n, .bool s.h.a, .bool s.h.p, .int .i64 s.h.n, .int .i64 s.mn, .int .i64 s.mx, .int .i64 s.mt, .bool s.mr.a, .bool s.mr.p, .int .i64 s.mr.n, .int .i64 s.mb, .bool s.ml.a, .bool s.ml.p, .int .i64 s.ml.n, .int .i64 s.bo, .int .i64 s.pa, .int .i64 s.wh, .int .i64 s.al, .int .i64 s.lh, .int .i64 s.ri, .int .i64 s.dn]) 34 (0, 0))) :
    Calls Tryz.prog 100 #[.agg #[.string (nmT 5), .pointer (p1T b 5), .pointer (p2T b 5), .int .i64 (loT 5), .int .i64 (hiT 5), .bool (npT 5)]] w fun e w' => Told (tokB s 5) (tokT s 5) e ∧ Below w.heap.size w w' := by
  exact tellL_any _ _ _ _ _ _ _ w E (lies_cell l0 9) wordsOf_5
theorem tell_6 (s : St) (b : Nat) (w : World) (E : Env w) (hs : styleB s = true) (l0 : w.heap[b]? = some (.cells (#[.int .i64 s.sh, .int .i64 s.fl, .int .i64 s.cl, .bool s.w.a, .bool s.w.p, .int .i64 s.w.n, .bool s.h.a, .bool s.h.p, .int .i64 s.h.n, .int .i64 s.mn, .int .i64 s.mx, .int .i64 s.mt, .bool s.mr.a, .bool s.mr.p, .int .i64 s.mr.n, .int .i64 s.mb, .bool s.ml.a, .bool s.ml.p, .int .i64 s.ml.n, .int .i64 s.bo, .int .i64 s.pa, .int .i64 s.wh, .int .i64 s.al, .int .i64 s.lh, .int .i64 s.ri, .int .i64 s.dn]) 34 (0, 0))) :
    Calls Tryz.prog 100 #[.agg #[.string (nmT 6), .pointer (p1T b 6), .pointer (p2T b 6), .int .i64 (loT 6), .int .i64 (hiT 6), .bool (npT 6)]] w fun e w' => Told (tokB s 6) (tokT s 6) e ∧ Below w.heap.size w w' := by
  exact tellL_any _ _ _ _ _ _ _ w E (lies_cell l0 10) wordsOf_6
theorem tell_7 (s : St) (b : Nat) (w : World) (E : Env w) (hs : styleB s = true) (l0 : w.heap[b]? = some (.cells (#[.int .i64 s.sh, .int .i64 s.fl, .int .i64 s.cl, .bool s.w.a, .bool s.w.p, .int .i64 s.w.n, .bool s.h.a, .bool s.h.p, .int .i64 s.h.n, .int .i64 s.mn, .int .i64 s.mx, .int .i64 s.mt, .bool s.mr.a, .bool s.mr.p, .int .i64 s.mr.n, .int .i64 s.mb, .bool s.ml.a, .bool s.ml.p, .int .i64 s.ml.n, .int .i64 s.bo, .int .i64 s.pa, .int .i64 s.wh, .int .i64 s.al, .int .i64 s.lh, .int .i64 s.ri, .int .i64 s.dn]) 34 (0, 0))) :
    Calls Tryz.prog 100 #[.agg #[.string (nmT 7), .pointer (p1T b 7), .pointer (p2T b 7), .int .i64 (loT 7), .int .i64 (hiT 7), .bool (npT 7)]] w fun e w' => Told (tokB s 7) (tokT s 7) e ∧ Below w.heap.size w w' := by
  exact tellL_any _ _ _ _ _ _ _ w E (lies_cell l0 11) wordsOf_7
theorem tell_8 (s : St) (b : Nat) (w : World) (E : Env w) (hs : styleB s = true) (l0 : w.heap[b]? = some (.cells (#[.int .i64 s.sh, .int .i64 s.fl, .int .i64 s.cl, .bool s.w.a, .bool s.w.p, .int .i64 s.w.n, .bool s.h.a, .bool s.h.p, .int .i64 s.h.n, .int .i64 s.mn, .int .i64 s.mx, .int .i64 s.mt, .bool s.mr.a, .bool s.mr.p, .int .i64 s.mr.n, .int .i64 s.mb, .bool s.ml.a, .bool s.ml.p, .int .i64 s.ml.n, .int .i64 s.bo, .int .i64 s.pa, .int .i64 s.wh, .int .i64 s.al, .int .i64 s.lh, .int .i64 s.ri, .int .i64 s.dn]) 34 (0, 0))) :
    Calls Tryz.prog 100 #[.agg #[.string (nmT 8), .pointer (p1T b 8), .pointer (p2T b 8), .int .i64 (loT 8), .int .i64 (hiT 8), .bool (npT 8)]] w fun e w' => Told (tokB s 8) (tokT s 8) e ∧ Below w.heap.size w w' := by
  have h := hs
  unfold styleB gA gB gC gD gE at h
  simp only [Bool.and_eq_true] at h
  obtain ⟨g0, g1⟩ := size_bd h.1.1.1.2.2
  exact tellS_any _ _ _ _ _ _ _ _ _ w E g0 g1 (lies_cell l0 12) (lies_cell l0 13) (lies_cell l0 14)
theorem tell_9 (s : St) (b : Nat) (w : World) (E : Env w) (hs : styleB s = true) (l0 : w.heap[b]? = some (.cells (#[.int .i64 s.sh, .int .i64 s.fl, .int .i64 s.cl, .bool s.w.a, .bool s.w.p, .int .i64 s.w.n, .bool s.h.a, .bool s.h.p, .int .i64 s.h.n, .int .i64 s.mn, .int .i64 s.mx, .int .i64 s.mt, .bool s.mr.a, .bool s.mr.p, .int .i64 s.mr.n, .int .i64 s.mb, .bool s.ml.a, .bool s.ml.p, .int .i64 s.ml.n, .int .i64 s.bo, .int .i64 s.pa, .int .i64 s.wh, .int .i64 s.al, .int .i64 s.lh, .int .i64 s.ri, .int .i64 s.dn]) 34 (0, 0))) :
    Calls Tryz.prog 100 #[.agg #[.string (nmT 9), .pointer (p1T b 9), .pointer (p2T b 9), .int .i64 (loT 9), .int .i64 (hiT 9), .bool (npT 9)]] w fun e w' => Told (tokB s 9) (tokT s 9) e ∧ Below w.heap.size w w' := by
  exact tellL_any _ _ _ _ _ _ _ w E (lies_cell l0 15) wordsOf_9
theorem tell_10 (s : St) (b : Nat) (w : World) (E : Env w) (hs : styleB s = true) (l0 : w.heap[b]? = some (.cells (#[.int .i64 s.sh, .int .i64 s.fl, .int .i64 s.cl, .bool s.w.a, .bool s.w.p, .int .i64 s.w.n, .bool s.h.a, .bool s.h.p, .int .i64 s.h.n, .int .i64 s.mn, .int .i64 s.mx, .int .i64 s.mt, .bool s.mr.a, .bool s.mr.p, .int .i64 s.mr.n, .int .i64 s.mb, .bool s.ml.a, .bool s.ml.p, .int .i64 s.ml.n, .int .i64 s.bo, .int .i64 s.pa, .int .i64 s.wh, .int .i64 s.al, .int .i64 s.lh, .int .i64 s.ri, .int .i64 s.dn]) 34 (0, 0))) :
    Calls Tryz.prog 100 #[.agg #[.string (nmT 10), .pointer (p1T b 10), .pointer (p2T b 10), .int .i64 (loT 10), .int .i64 (hiT 10), .bool (npT 10)]] w fun e w' => Told (tokB s 10) (tokT s 10) e ∧ Below w.heap.size w w' := by
  have h := hs
  unfold styleB gA gB gC gD gE at h
  simp only [Bool.and_eq_true] at h
  obtain ⟨g0, g1⟩ := size_bd h.1.1.1.2.1.2
  exact tellS_any _ _ _ _ _ _ _ _ _ w E g0 g1 (lies_cell l0 16) (lies_cell l0 17) (lies_cell l0 18)
theorem tell_11 (s : St) (b : Nat) (w : World) (E : Env w) (hs : styleB s = true) (l0 : w.heap[b]? = some (.cells (#[.int .i64 s.sh, .int .i64 s.fl, .int .i64 s.cl, .bool s.w.a, .bool s.w.p, .int .i64 s.w.n, .bool s.h.a, .bool s.h.p, .int .i64 s.h.n, .int .i64 s.mn, .int .i64 s.mx, .int .i64 s.mt, .bool s.mr.a, .bool s.mr.p, .int .i64 s.mr.n, .int .i64 s.mb, .bool s.ml.a, .bool s.ml.p, .int .i64 s.ml.n, .int .i64 s.bo, .int .i64 s.pa, .int .i64 s.wh, .int .i64 s.al, .int .i64 s.lh, .int .i64 s.ri, .int .i64 s.dn]) 34 (0, 0))) :
    Calls Tryz.prog 100 #[.agg #[.string (nmT 11), .pointer (p1T b 11), .pointer (p2T b 11), .int .i64 (loT 11), .int .i64 (hiT 11), .bool (npT 11)]] w fun e w' => Told (tokB s 11) (tokT s 11) e ∧ Below w.heap.size w w' := by
  exact tellL_any _ _ _ _ _ _ _ w E (lies_cell l0 19) wordsOf_11
theorem tell_12 (s : St) (b : Nat) (w : World) (E : Env w) (hs : styleB s = true) (l0 : w.heap[b]? = some (.cells (#[.int .i64 s.sh, .int .i64 s.fl, .int .i64 s.cl, .bool s.w.a, .bool s.w.p, .int .i64 s.w.n, .bool s.h.a, .bool s.h.p, .int .i64 s.h.n, .int .i64 s.mn, .int .i64 s.mx, .int .i64 s.mt, .bool s.mr.a, .bool s.mr.p, .int .i64 s.mr.n, .int .i64 s.mb, .bool s.ml.a, .bool s.ml.p, .int .i64 s.ml.n, .int .i64 s.bo, .int .i64 s.pa, .int .i64 s.wh, .int .i64 s.al, .int .i64 s.lh, .int .i64 s.ri, .int .i64 s.dn]) 34 (0, 0))) :
    Calls Tryz.prog 100 #[.agg #[.string (nmT 12), .pointer (p1T b 12), .pointer (p2T b 12), .int .i64 (loT 12), .int .i64 (hiT 12), .bool (npT 12)]] w fun e w' => Told (tokB s 12) (tokT s 12) e ∧ Below w.heap.size w w' := by
  exact tellL_any _ _ _ _ _ _ _ w E (lies_cell l0 20) wordsOf_12
theorem tell_13 (s : St) (b : Nat) (w : World) (E : Env w) (hs : styleB s = true) (l0 : w.heap[b]? = some (.cells (#[.int .i64 s.sh, .int .i64 s.fl, .int .i64 s.cl, .bool s.w.a, .bool s.w.p, .int .i64 s.w.n, .bool s.h.a, .bool s.h.p, .int .i64 s.h.n, .int .i64 s.mn, .int .i64 s.mx, .int .i64 s.mt, .bool s.mr.a, .bool s.mr.p, .int .i64 s.mr.n, .int .i64 s.mb, .bool s.ml.a, .bool s.ml.p, .int .i64 s.ml.n, .int .i64 s.bo, .int .i64 s.pa, .int .i64 s.wh, .int .i64 s.al, .int .i64 s.lh, .int .i64 s.ri, .int .i64 s.dn]) 34 (0, 0))) :
    Calls Tryz.prog 100 #[.agg #[.string (nmT 13), .pointer (p1T b 13), .pointer (p2T b 13), .int .i64 (loT 13), .int .i64 (hiT 13), .bool (npT 13)]] w fun e w' => Told (tokB s 13) (tokT s 13) e ∧ Below w.heap.size w w' := by
  have h := hs
  unfold styleB gA gB gC gD gE at h
  simp only [Bool.and_eq_true] at h
  have hr := inB_yes h.1.1.1.1.1.2
  clear h hs
  have hc := lies_cell l0 21
  have hx : s.wh = 1 ∨ s.wh = 2 ∨ s.wh = 3 ∨ s.wh = 4 ∨ s.wh = 5 := by omega
  rcases hx with hx | hx | hx | hx | hx
  · have ht : tokT s 13 = ⟨#[110, 111, 114, 109, 97, 108]⟩ := by unfold tokT; simp only [List.getD_cons_zero, List.getD_cons_succ]; rw [hx]; rfl
    rw [ht]
    refine (tellW_any _ _ _ _ _ 1 _ #[⟨.string ⟨#[110, 111, 114, 109, 97, 108]⟩, .int .i64 1, 0⟩, ⟨.string ⟨#[110, 111, 119, 114, 97, 112]⟩, .int .i64 2, 1⟩, ⟨.string ⟨#[112, 114, 101]⟩, .int .i64 3, 2⟩, ⟨.string ⟨#[112, 114, 101, 45, 119, 114, 97, 112]⟩, .int .i64 4, 3⟩, ⟨.string ⟨#[112, 114, 101, 45, 108, 105, 110, 101]⟩, .int .i64 5, 4⟩] 5 ⟨#[110, 111, 114, 109, 97, 108]⟩ w (hc.trans (by rw [← hx]; rfl)) wordsOf_13 ?_ ?_ ?_).mono (fun e w' h => ⟨told_word h.1, h.2⟩)
    · exact ⟨fun x hx' => by (simp only [List.mem_cons, List.not_mem_nil, or_false] at hx'; rcases hx' with rfl | rfl | rfl | rfl | rfl <;> decide), by simp, by simp⟩
    · intro x hx'
      simp only [List.mem_cons, List.not_mem_nil, or_false] at hx'
      rcases hx' with rfl | rfl | rfl | rfl | rfl
      all_goals exact ⟨_, _, rfl, rfl, fun h => by first | rfl | exact absurd h (by decide)⟩
    · exact ⟨⟨.string ⟨#[110, 111, 114, 109, 97, 108]⟩, .int .i64 1, 0⟩, by simp, rfl⟩
  · have ht : tokT s 13 = ⟨#[110, 111, 119, 114, 97, 112]⟩ := by unfold tokT; simp only [List.getD_cons_zero, List.getD_cons_succ]; rw [hx]; rfl
    rw [ht]
    refine (tellW_any _ _ _ _ _ 2 _ #[⟨.string ⟨#[110, 111, 114, 109, 97, 108]⟩, .int .i64 1, 0⟩, ⟨.string ⟨#[110, 111, 119, 114, 97, 112]⟩, .int .i64 2, 1⟩, ⟨.string ⟨#[112, 114, 101]⟩, .int .i64 3, 2⟩, ⟨.string ⟨#[112, 114, 101, 45, 119, 114, 97, 112]⟩, .int .i64 4, 3⟩, ⟨.string ⟨#[112, 114, 101, 45, 108, 105, 110, 101]⟩, .int .i64 5, 4⟩] 5 ⟨#[110, 111, 119, 114, 97, 112]⟩ w (hc.trans (by rw [← hx]; rfl)) wordsOf_13 ?_ ?_ ?_).mono (fun e w' h => ⟨told_word h.1, h.2⟩)
    · exact ⟨fun x hx' => by (simp only [List.mem_cons, List.not_mem_nil, or_false] at hx'; rcases hx' with rfl | rfl | rfl | rfl | rfl <;> decide), by simp, by simp⟩
    · intro x hx'
      simp only [List.mem_cons, List.not_mem_nil, or_false] at hx'
      rcases hx' with rfl | rfl | rfl | rfl | rfl
      all_goals exact ⟨_, _, rfl, rfl, fun h => by first | rfl | exact absurd h (by decide)⟩
    · exact ⟨⟨.string ⟨#[110, 111, 119, 114, 97, 112]⟩, .int .i64 2, 1⟩, by simp, rfl⟩
  · have ht : tokT s 13 = ⟨#[112, 114, 101]⟩ := by unfold tokT; simp only [List.getD_cons_zero, List.getD_cons_succ]; rw [hx]; rfl
    rw [ht]
    refine (tellW_any _ _ _ _ _ 3 _ #[⟨.string ⟨#[110, 111, 114, 109, 97, 108]⟩, .int .i64 1, 0⟩, ⟨.string ⟨#[110, 111, 119, 114, 97, 112]⟩, .int .i64 2, 1⟩, ⟨.string ⟨#[112, 114, 101]⟩, .int .i64 3, 2⟩, ⟨.string ⟨#[112, 114, 101, 45, 119, 114, 97, 112]⟩, .int .i64 4, 3⟩, ⟨.string ⟨#[112, 114, 101, 45, 108, 105, 110, 101]⟩, .int .i64 5, 4⟩] 5 ⟨#[112, 114, 101]⟩ w (hc.trans (by rw [← hx]; rfl)) wordsOf_13 ?_ ?_ ?_).mono (fun e w' h => ⟨told_word h.1, h.2⟩)
    · exact ⟨fun x hx' => by (simp only [List.mem_cons, List.not_mem_nil, or_false] at hx'; rcases hx' with rfl | rfl | rfl | rfl | rfl <;> decide), by simp, by simp⟩
    · intro x hx'
      simp only [List.mem_cons, List.not_mem_nil, or_false] at hx'
      rcases hx' with rfl | rfl | rfl | rfl | rfl
      all_goals exact ⟨_, _, rfl, rfl, fun h => by first | rfl | exact absurd h (by decide)⟩
    · exact ⟨⟨.string ⟨#[112, 114, 101]⟩, .int .i64 3, 2⟩, by simp, rfl⟩
  · have ht : tokT s 13 = ⟨#[112, 114, 101, 45, 119, 114, 97, 112]⟩ := by unfold tokT; simp only [List.getD_cons_zero, List.getD_cons_succ]; rw [hx]; rfl
    rw [ht]
    refine (tellW_any _ _ _ _ _ 4 _ #[⟨.string ⟨#[110, 111, 114, 109, 97, 108]⟩, .int .i64 1, 0⟩, ⟨.string ⟨#[110, 111, 119, 114, 97, 112]⟩, .int .i64 2, 1⟩, ⟨.string ⟨#[112, 114, 101]⟩, .int .i64 3, 2⟩, ⟨.string ⟨#[112, 114, 101, 45, 119, 114, 97, 112]⟩, .int .i64 4, 3⟩, ⟨.string ⟨#[112, 114, 101, 45, 108, 105, 110, 101]⟩, .int .i64 5, 4⟩] 5 ⟨#[112, 114, 101, 45, 119, 114, 97, 112]⟩ w (hc.trans (by rw [← hx]; rfl)) wordsOf_13 ?_ ?_ ?_).mono (fun e w' h => ⟨told_word h.1, h.2⟩)
    · exact ⟨fun x hx' => by (simp only [List.mem_cons, List.not_mem_nil, or_false] at hx'; rcases hx' with rfl | rfl | rfl | rfl | rfl <;> decide), by simp, by simp⟩
    · intro x hx'
      simp only [List.mem_cons, List.not_mem_nil, or_false] at hx'
      rcases hx' with rfl | rfl | rfl | rfl | rfl
      all_goals exact ⟨_, _, rfl, rfl, fun h => by first | rfl | exact absurd h (by decide)⟩
    · exact ⟨⟨.string ⟨#[112, 114, 101, 45, 119, 114, 97, 112]⟩, .int .i64 4, 3⟩, by simp, rfl⟩
  · have ht : tokT s 13 = ⟨#[112, 114, 101, 45, 108, 105, 110, 101]⟩ := by unfold tokT; simp only [List.getD_cons_zero, List.getD_cons_succ]; rw [hx]; rfl
    rw [ht]
    refine (tellW_any _ _ _ _ _ 5 _ #[⟨.string ⟨#[110, 111, 114, 109, 97, 108]⟩, .int .i64 1, 0⟩, ⟨.string ⟨#[110, 111, 119, 114, 97, 112]⟩, .int .i64 2, 1⟩, ⟨.string ⟨#[112, 114, 101]⟩, .int .i64 3, 2⟩, ⟨.string ⟨#[112, 114, 101, 45, 119, 114, 97, 112]⟩, .int .i64 4, 3⟩, ⟨.string ⟨#[112, 114, 101, 45, 108, 105, 110, 101]⟩, .int .i64 5, 4⟩] 5 ⟨#[112, 114, 101, 45, 108, 105, 110, 101]⟩ w (hc.trans (by rw [← hx]; rfl)) wordsOf_13 ?_ ?_ ?_).mono (fun e w' h => ⟨told_word h.1, h.2⟩)
    · exact ⟨fun x hx' => by (simp only [List.mem_cons, List.not_mem_nil, or_false] at hx'; rcases hx' with rfl | rfl | rfl | rfl | rfl <;> decide), by simp, by simp⟩
    · intro x hx'
      simp only [List.mem_cons, List.not_mem_nil, or_false] at hx'
      rcases hx' with rfl | rfl | rfl | rfl | rfl
      all_goals exact ⟨_, _, rfl, rfl, fun h => by first | rfl | exact absurd h (by decide)⟩
    · exact ⟨⟨.string ⟨#[112, 114, 101, 45, 108, 105, 110, 101]⟩, .int .i64 5, 4⟩, by simp, rfl⟩
theorem tell_14 (s : St) (b : Nat) (w : World) (E : Env w) (hs : styleB s = true) (l0 : w.heap[b]? = some (.cells (#[.int .i64 s.sh, .int .i64 s.fl, .int .i64 s.cl, .bool s.w.a, .bool s.w.p, .int .i64 s.w.n, .bool s.h.a, .bool s.h.p, .int .i64 s.h.n, .int .i64 s.mn, .int .i64 s.mx, .int .i64 s.mt, .bool s.mr.a, .bool s.mr.p, .int .i64 s.mr.n, .int .i64 s.mb, .bool s.ml.a, .bool s.ml.p, .int .i64 s.ml.n, .int .i64 s.bo, .int .i64 s.pa, .int .i64 s.wh, .int .i64 s.al, .int .i64 s.lh, .int .i64 s.ri, .int .i64 s.dn]) 34 (0, 0))) :
    Calls Tryz.prog 100 #[.agg #[.string (nmT 14), .pointer (p1T b 14), .pointer (p2T b 14), .int .i64 (loT 14), .int .i64 (hiT 14), .bool (npT 14)]] w fun e w' => Told (tokB s 14) (tokT s 14) e ∧ Below w.heap.size w w' := by
  have h := hs
  unfold styleB gA gB gC gD gE at h
  simp only [Bool.and_eq_true] at h
  have hr := inB_yes h.1.1.1.1.2
  clear h hs
  have hc := lies_cell l0 22
  have hx : s.al = 1 ∨ s.al = 2 ∨ s.al = 3 := by omega
  rcases hx with hx | hx | hx
  · have ht : tokT s 14 = ⟨#[108, 101, 102, 116]⟩ := by unfold tokT; simp only [List.getD_cons_zero, List.getD_cons_succ]; rw [hx]; rfl
    rw [ht]
    refine (tellW_any _ _ _ _ _ 1 _ #[⟨.string ⟨#[108, 101, 102, 116]⟩, .int .i64 1, 0⟩, ⟨.string ⟨#[114, 105, 103, 104, 116]⟩, .int .i64 2, 1⟩, ⟨.string ⟨#[99, 101, 110, 116, 101, 114]⟩, .int .i64 3, 2⟩] 3 ⟨#[108, 101, 102, 116]⟩ w (hc.trans (by rw [← hx]; rfl)) wordsOf_14 ?_ ?_ ?_).mono (fun e w' h => ⟨told_word h.1, h.2⟩)
    · exact ⟨fun x hx' => by (simp only [List.mem_cons, List.not_mem_nil, or_false] at hx'; rcases hx' with rfl | rfl | rfl <;> decide), by simp, by simp⟩
    · intro x hx'
      simp only [List.mem_cons, List.not_mem_nil, or_false] at hx'
      rcases hx' with rfl | rfl | rfl
      all_goals exact ⟨_, _, rfl, rfl, fun h => by first | rfl | exact absurd h (by decide)⟩
    · exact ⟨⟨.string ⟨#[108, 101, 102, 116]⟩, .int .i64 1, 0⟩, by simp, rfl⟩
  · have ht : tokT s 14 = ⟨#[114, 105, 103, 104, 116]⟩ := by unfold tokT; simp only [List.getD_cons_zero, List.getD_cons_succ]; rw [hx]; rfl
    rw [ht]
    refine (tellW_any _ _ _ _ _ 2 _ #[⟨.string ⟨#[108, 101, 102, 116]⟩, .int .i64 1, 0⟩, ⟨.string ⟨#[114, 105, 103, 104, 116]⟩, .int .i64 2, 1⟩, ⟨.string ⟨#[99, 101, 110, 116, 101, 114]⟩, .int .i64 3, 2⟩] 3 ⟨#[114, 105, 103, 104, 116]⟩ w (hc.trans (by rw [← hx]; rfl)) wordsOf_14 ?_ ?_ ?_).mono (fun e w' h => ⟨told_word h.1, h.2⟩)
    · exact ⟨fun x hx' => by (simp only [List.mem_cons, List.not_mem_nil, or_false] at hx'; rcases hx' with rfl | rfl | rfl <;> decide), by simp, by simp⟩
    · intro x hx'
      simp only [List.mem_cons, List.not_mem_nil, or_false] at hx'
      rcases hx' with rfl | rfl | rfl
      all_goals exact ⟨_, _, rfl, rfl, fun h => by first | rfl | exact absurd h (by decide)⟩
    · exact ⟨⟨.string ⟨#[114, 105, 103, 104, 116]⟩, .int .i64 2, 1⟩, by simp, rfl⟩
  · have ht : tokT s 14 = ⟨#[99, 101, 110, 116, 101, 114]⟩ := by unfold tokT; simp only [List.getD_cons_zero, List.getD_cons_succ]; rw [hx]; rfl
    rw [ht]
    refine (tellW_any _ _ _ _ _ 3 _ #[⟨.string ⟨#[108, 101, 102, 116]⟩, .int .i64 1, 0⟩, ⟨.string ⟨#[114, 105, 103, 104, 116]⟩, .int .i64 2, 1⟩, ⟨.string ⟨#[99, 101, 110, 116, 101, 114]⟩, .int .i64 3, 2⟩] 3 ⟨#[99, 101, 110, 116, 101, 114]⟩ w (hc.trans (by rw [← hx]; rfl)) wordsOf_14 ?_ ?_ ?_).mono (fun e w' h => ⟨told_word h.1, h.2⟩)
    · exact ⟨fun x hx' => by (simp only [List.mem_cons, List.not_mem_nil, or_false] at hx'; rcases hx' with rfl | rfl | rfl <;> decide), by simp, by simp⟩
    · intro x hx'
      simp only [List.mem_cons, List.not_mem_nil, or_false] at hx'
      rcases hx' with rfl | rfl | rfl
      all_goals exact ⟨_, _, rfl, rfl, fun h => by first | rfl | exact absurd h (by decide)⟩
    · exact ⟨⟨.string ⟨#[99, 101, 110, 116, 101, 114]⟩, .int .i64 3, 2⟩, by simp, rfl⟩
theorem tell_15 (s : St) (b : Nat) (w : World) (E : Env w) (hs : styleB s = true) (l0 : w.heap[b]? = some (.cells (#[.int .i64 s.sh, .int .i64 s.fl, .int .i64 s.cl, .bool s.w.a, .bool s.w.p, .int .i64 s.w.n, .bool s.h.a, .bool s.h.p, .int .i64 s.h.n, .int .i64 s.mn, .int .i64 s.mx, .int .i64 s.mt, .bool s.mr.a, .bool s.mr.p, .int .i64 s.mr.n, .int .i64 s.mb, .bool s.ml.a, .bool s.ml.p, .int .i64 s.ml.n, .int .i64 s.bo, .int .i64 s.pa, .int .i64 s.wh, .int .i64 s.al, .int .i64 s.lh, .int .i64 s.ri, .int .i64 s.dn]) 34 (0, 0))) :
    Calls Tryz.prog 100 #[.agg #[.string (nmT 15), .pointer (p1T b 15), .pointer (p2T b 15), .int .i64 (loT 15), .int .i64 (hiT 15), .bool (npT 15)]] w fun e w' => Told (tokB s 15) (tokT s 15) e ∧ Below w.heap.size w w' := by
  exact tellL_any _ _ _ _ _ _ _ w E (lies_cell l0 23) wordsOf_15
theorem tell_16 (s : St) (b : Nat) (w : World) (E : Env w) (hs : styleB s = true) (l0 : w.heap[b]? = some (.cells (#[.int .i64 s.sh, .int .i64 s.fl, .int .i64 s.cl, .bool s.w.a, .bool s.w.p, .int .i64 s.w.n, .bool s.h.a, .bool s.h.p, .int .i64 s.h.n, .int .i64 s.mn, .int .i64 s.mx, .int .i64 s.mt, .bool s.mr.a, .bool s.mr.p, .int .i64 s.mr.n, .int .i64 s.mb, .bool s.ml.a, .bool s.ml.p, .int .i64 s.ml.n, .int .i64 s.bo, .int .i64 s.pa, .int .i64 s.wh, .int .i64 s.al, .int .i64 s.lh, .int .i64 s.ri, .int .i64 s.dn]) 34 (0, 0))) :
    Calls Tryz.prog 100 #[.agg #[.string (nmT 16), .pointer (p1T b 16), .pointer (p2T b 16), .int .i64 (loT 16), .int .i64 (hiT 16), .bool (npT 16)]] w fun e w' => Told (tokB s 16) (tokT s 16) e ∧ Below w.heap.size w w' := by
  exact tellL_any _ _ _ _ _ _ _ w E (lies_cell l0 24) wordsOf_16
theorem tell_17 (s : St) (b : Nat) (w : World) (E : Env w) (hs : styleB s = true) (l0 : w.heap[b]? = some (.cells (#[.int .i64 s.sh, .int .i64 s.fl, .int .i64 s.cl, .bool s.w.a, .bool s.w.p, .int .i64 s.w.n, .bool s.h.a, .bool s.h.p, .int .i64 s.h.n, .int .i64 s.mn, .int .i64 s.mx, .int .i64 s.mt, .bool s.mr.a, .bool s.mr.p, .int .i64 s.mr.n, .int .i64 s.mb, .bool s.ml.a, .bool s.ml.p, .int .i64 s.ml.n, .int .i64 s.bo, .int .i64 s.pa, .int .i64 s.wh, .int .i64 s.al, .int .i64 s.lh, .int .i64 s.ri, .int .i64 s.dn]) 34 (0, 0))) :
    Calls Tryz.prog 100 #[.agg #[.string (nmT 17), .pointer (p1T b 17), .pointer (p2T b 17), .int .i64 (loT 17), .int .i64 (hiT 17), .bool (npT 17)]] w fun e w' => Told (tokB s 17) (tokT s 17) e ∧ Below w.heap.size w w' := by
  exact tellL_any _ _ _ _ _ _ _ w E (lies_cell l0 25) wordsOf_17

theorem tell_any (s : St) (b k : Nat) (hk : k < 18) (w : World) (E : Env w) (hs : styleB s = true) (l0 : w.heap[b]? = some (.cells (#[.int .i64 s.sh, .int .i64 s.fl, .int .i64 s.cl, .bool s.w.a, .bool s.w.p, .int .i64 s.w.n, .bool s.h.a, .bool s.h.p, .int .i64 s.h.n, .int .i64 s.mn, .int .i64 s.mx, .int .i64 s.mt, .bool s.mr.a, .bool s.mr.p, .int .i64 s.mr.n, .int .i64 s.mb, .bool s.ml.a, .bool s.ml.p, .int .i64 s.ml.n, .int .i64 s.bo, .int .i64 s.pa, .int .i64 s.wh, .int .i64 s.al, .int .i64 s.lh, .int .i64 s.ri, .int .i64 s.dn]) 34 (0, 0))) :
    Calls Tryz.prog 100 #[.agg #[.string (nmT k), .pointer (p1T b k), .pointer (p2T b k), .int .i64 (loT k), .int .i64 (hiT k), .bool (npT k)]] w fun e w' => Told (tokB s k) (tokT s k) e ∧ Below w.heap.size w w' := by
  rcases lt18 hk with rfl | rfl | rfl | rfl | rfl | rfl | rfl | rfl | rfl | rfl | rfl | rfl | rfl | rfl | rfl | rfl | rfl | rfl
  · exact tell_0 s b w E hs l0
  · exact tell_1 s b w E hs l0
  · exact tell_2 s b w E hs l0
  · exact tell_3 s b w E hs l0
  · exact tell_4 s b w E hs l0
  · exact tell_5 s b w E hs l0
  · exact tell_6 s b w E hs l0
  · exact tell_7 s b w E hs l0
  · exact tell_8 s b w E hs l0
  · exact tell_9 s b w E hs l0
  · exact tell_10 s b w E hs l0
  · exact tell_11 s b w E hs l0
  · exact tell_12 s b w E hs l0
  · exact tell_13 s b w E hs l0
  · exact tell_14 s b w E hs l0
  · exact tell_15 s b w E hs l0
  · exact tell_16 s b w E hs l0
  · exact tell_17 s b w E hs l0
theorem same_any (s : St) (b b2 k : Nat) (hk : k < 18) (w : World) (l0 : w.heap[b]? = some (.cells (#[.int .i64 s.sh, .int .i64 s.fl, .int .i64 s.cl, .bool s.w.a, .bool s.w.p, .int .i64 s.w.n, .bool s.h.a, .bool s.h.p, .int .i64 s.h.n, .int .i64 s.mn, .int .i64 s.mx, .int .i64 s.mt, .bool s.mr.a, .bool s.mr.p, .int .i64 s.mr.n, .int .i64 s.mb, .bool s.ml.a, .bool s.ml.p, .int .i64 s.ml.n, .int .i64 s.bo, .int .i64 s.pa, .int .i64 s.wh, .int .i64 s.al, .int .i64 s.lh, .int .i64 s.ri, .int .i64 s.dn]) 34 (0, 0))) (l1 : w.heap[b2]? = some (.cells (#[.int .i64 1, .int .i64 0, .int .i64 0, .bool true, .bool false, .int .i64 0, .bool true, .bool false, .int .i64 0, .int .i64 0, .int .i64 (-1), .int .i64 0, .bool false, .bool false, .int .i64 0, .int .i64 0, .bool false, .bool false, .int .i64 0, .int .i64 0, .int .i64 0, .int .i64 1, .int .i64 1, .int .i64 0, .int .i64 0, .int .i64 0]) 34 (0, 0))) :
    Calls Tryz.prog 99 #[.agg #[.string (nmT k), .pointer (p1T b k), .pointer (p2T b k), .int .i64 (loT k), .int .i64 (hiT k), .bool (npT k)], .agg #[.string (nmT k), .pointer (p1T b2 k), .pointer (p2T b2 k), .int .i64 (loT k), .int .i64 (hiT k), .bool (npT k)]] w fun e w' => e = .returned (.bool (sameB s k)) ∧ Below w.heap.size w w' := by
  have hc := lies_cell l0
  have hd := lies_cell l1
  clear l0 l1
  rcases lt18 hk with rfl | rfl | rfl | rfl | rfl | rfl | rfl | rfl | rfl | rfl | rfl | rfl | rfl | rfl | rfl | rfl | rfl | rfl
  · exact sameN_any _ _ _ _ _ _ _ _ _ _ _ _ _ _ _ (hc 0) (hd 0)
  · exact sameN_any _ _ _ _ _ _ _ _ _ _ _ _ _ _ _ (hc 1) (hd 1)
  · exact sameN_any _ _ _ _ _ _ _ _ _ _ _ _ _ _ _ (hc 2) (hd 2)
  · exact sameS_any _ _ _ _ _ _ _ _ _ _ _ _ _ _ _ _ _ _ _ (hc 3) (hc 4) (hc 5) (hd 3) (hd 4) (hd 5)
  · exact sameS_any _ _ _ _ _ _ _ _ _ _ _ _ _ _ _ _ _ _ _ (hc 6) (hc 7) (hc 8) (hd 6) (hd 7) (hd 8)
  · exact sameN_any _ _ _ _ _ _ _ _ _ _ _ _ _ _ _ (hc 9) (hd 9)
  · exact sameN_any _ _ _ _ _ _ _ _ _ _ _ _ _ _ _ (hc 10) (hd 10)
  · exact sameN_any _ _ _ _ _ _ _ _ _ _ _ _ _ _ _ (hc 11) (hd 11)
  · exact sameS_any _ _ _ _ _ _ _ _ _ _ _ _ _ _ _ _ _ _ _ (hc 12) (hc 13) (hc 14) (hd 12) (hd 13) (hd 14)
  · exact sameN_any _ _ _ _ _ _ _ _ _ _ _ _ _ _ _ (hc 15) (hd 15)
  · exact sameS_any _ _ _ _ _ _ _ _ _ _ _ _ _ _ _ _ _ _ _ (hc 16) (hc 17) (hc 18) (hd 16) (hd 17) (hd 18)
  · exact sameN_any _ _ _ _ _ _ _ _ _ _ _ _ _ _ _ (hc 19) (hd 19)
  · exact sameN_any _ _ _ _ _ _ _ _ _ _ _ _ _ _ _ (hc 20) (hd 20)
  · exact sameN_any _ _ _ _ _ _ _ _ _ _ _ _ _ _ _ (hc 21) (hd 21)
  · exact sameN_any _ _ _ _ _ _ _ _ _ _ _ _ _ _ _ (hc 22) (hd 22)
  · exact sameN_any _ _ _ _ _ _ _ _ _ _ _ _ _ _ _ (hc 23) (hd 23)
  · exact sameN_any _ _ _ _ _ _ _ _ _ _ _ _ _ _ _ (hc 24) (hd 24)
  · exact sameN_any _ _ _ _ _ _ _ _ _ _ _ _ _ _ _ (hc 25) (hd 25)
end Go.Proofs.YtddnphgpdnedbaaGreatDoor

namespace Go.Proofs.YtddnphgpdnedbaaGreatDoor
open Go.ChangeShapes Go.WideShapes Go.ChangeAt Go.RowKit
set_option linter.unusedVariables false

theorem numI_pos (u : Nat) : numI (u : Int) = num u := by unfold numI num; rw [Lib.itoa_nonneg]
theorem numI_neg (u : Nat) (h : 1 ≤ u) : numI (-(u : Int)) = ⟨#[45]⟩ ++ num u := by
  unfold numI num
  rw [Lib.itoa_neg u h]
  apply ByteArray.ext
  simp
set_option maxHeartbeats 2000000 in
theorem l1Num_neg (u : Nat) (h : 1 ≤ u) (h2 : u ≤ 1000000) (w : World) :
    Calls Tryz.prog 87 #[.int .i64 (-(u : Int))] w fun e w' => e = .returned (.string (⟨#[45]⟩ ++ num u)) ∧ Below w.heap.size w w' := by
  have L := fun w => l1Num_any u (by omega) w
  have hs := num_size u (by omega)
  generalize num u = t at L hs ⊢
  have h3 : ¬ (-(u : Int)) = -9223372036854775808 := by omega
  go_enter Tryz.func87, Tryz.ntmps87
  go_wp2_with (go_at_call 87; (first | refine (L _).mono ?_ | (rw [Int.neg_neg]; refine (L _).mono ?_)); rintro e w1 ⟨rfl, hb⟩)
  go_ret
  exact ⟨rfl, hb⟩
theorem l1NumI_any (n : Int) (h0 : -1000000 ≤ n) (h1 : n ≤ 1000000) (w : World) :
    Calls Tryz.prog 87 #[.int .i64 n] w fun e w' => e = .returned (.string (numI n)) ∧ Below w.heap.size w w' := by
  by_cases hn : n < 0
  · have e : n = -((n.natAbs : Nat) : Int) := by omega
    rw [e, numI_neg n.natAbs (by omega)]
    exact l1Num_neg n.natAbs (by omega) (by omega) w
  · have e : n = ((n.natAbs : Nat) : Int) := by omega
    rw [e, numI_pos]
    exact l1Num_any n.natAbs (by omega) w
theorem tdiv_bd (n : Int) (g0 : -1000000 ≤ n) (g1 : n ≤ 1000000) : -1000000 ≤ n.tdiv 100 ∧ n.tdiv 100 ≤ 1000000 := by
  have hq : 100 * n.tdiv 100 + n.tmod 100 = n := Int.mul_tdiv_add_tmod n 100
  have h1 := Int.tmod_lt_of_pos n (show (0 : Int) < 100 by omega)
  have h2 : -100 < n.tmod 100 := by
    have := Int.tmod_lt_of_pos (-n) (show (0 : Int) < 100 by omega)
    rw [Int.neg_tmod] at this
    omega
  omega
set_option maxHeartbeats 2000000 in
theorem l4Told_any (a p : Bool) (n : Int) (w : World) (g0 : -1000000 ≤ n) (g1 : n ≤ 1000000) :
    Calls Tryz.prog 70 #[.agg #[.bool a, .bool p, .int .i64 n]] w fun e w' => e = .returned (.string (toldT a p n)) ∧ Below w.heap.size w w' := by
  cases a
  · cases p
    · have et : toldT false false n = pixText n := rfl
      have TS := specText_any n (w.alloc (.cells #[.bool false, .bool false, .int .i64 n] 32))
      rw [et]
      generalize pixText n = t at TS ⊢
      generalize pixB n = k at TS ⊢
      clear et
      go_enter Tryz.func70, Tryz.ntmps70
      go_wp2_with (go_at_call 88; refine TS.mono ?_; rintro e w1 ⟨rfl, hb⟩)
      go_ret
      exact ⟨rfl, ((Below.refl _ _).alloc (Nat.le_refl _) _).trans (hb.mono (by simp))⟩
    · obtain ⟨q0, q1⟩ := tdiv_bd n g0 g1
      have F1 : IntKind.i64.wrap (n.tdiv 100) = n.tdiv 100 := wrapI _ (by omega) (by omega)
      have L := fun w => l1NumI_any (n.tdiv 100) q0 q1 w
      have hs := numI_size (n.tdiv 100) q0 q1
      have et : toldT false true n = numI (n.tdiv 100) ++ ⟨#[37]⟩ := rfl
      rw [et]
      generalize numI (n.tdiv 100) = t at L hs ⊢
      clear et
      go_enter Tryz.func70, Tryz.ntmps70
      go_wp2_with (go_at_call 87; refine (L _).mono ?_; rintro e w1 ⟨rfl, hb⟩)
      go_ret
      exact ⟨rfl, ((Below.refl _ _).alloc (Nat.le_refl _) _).trans (hb.mono (by simp))⟩
  · go_enter Tryz.func70, Tryz.ntmps70
    go_wp2
    go_ret
    exact ⟨rfl, (Below.refl _ _).alloc (Nat.le_refl _) _⟩
end Go.Proofs.YtddnphgpdnedbaaGreatDoor

namespace Go.Proofs.YtddnphgpdnedbaaGreatDoor
open Go.ChangeShapes Go.WideShapes Go.ChangeAt Go.RowKit
set_option linter.unusedVariables false

def pieceT (s : St) (k : Nat) : ByteArray := nmT k ++ ⟨#[58]⟩ ++ tokT s k ++ ⟨#[59]⟩
def textTo (s : St) : Nat → ByteArray
  | 0 => ⟨#[]⟩
  | k + 1 => if sameB s k then textTo s k else textTo s k ++ pieceT s k
def okTo (s : St) (k : Nat) : Bool := (List.range k).all fun j => sameB s j || tokB s j
theorem okTo_succ (s : St) (k : Nat) : okTo s (k + 1) = (okTo s k && (sameB s k || tokB s k)) := by
  unfold okTo
  rw [List.range_succ, List.all_append]
  simp
theorem okTo_le {s : St} {k m : Nat} (h : okTo s k = false) (hm : k ≤ m) : okTo s m = false := by
  induction m with
  | zero => obtain rfl : k = 0 := by omega
            exact h
  | succ m ih =>
    by_cases e : k = m + 1
    · subst e; exact h
    · rw [okTo_succ, ih (by omega)]; rfl
theorem textTo_same {s : St} {k : Nat} (h : sameB s k = true) : textTo s (k + 1) = textTo s k := by rw [textTo, if_pos h]
theorem textTo_next {s : St} {k : Nat} (h : sameB s k = false) : textTo s (k + 1) = textTo s k ++ pieceT s k := by rw [textTo, if_neg (by simp [h])]
theorem pixText_size (n : Int) : (pixText n).size ≤ 30 := by
  unfold pixText
  split
  · rename_i h
    have hb := of_decide_eq_true h
    have h1 := num_size (n.natAbs / 64) (by omega)
    have h2 : (signText n).size ≤ 1 := by unfold signText; split <;> decide
    have h3 : (quarter (n.natAbs % 64 / 16)).size ≤ 3 := by unfold quarter; split <;> decide
    simp only [ByteArray.size_append]
    have h4 : (⟨#[112, 120]⟩ : ByteArray).size = 2 := rfl
    omega
  · decide
theorem toldT_size (a p : Bool) (n : Int) (g0 : -1000000 ≤ n) (g1 : n ≤ 1000000) : (toldT a p n).size ≤ 30 := by
  cases a <;> cases p
  · exact pixText_size n
  · obtain ⟨q0, q1⟩ := tdiv_bd n g0 g1
    have := numI_size (n.tdiv 100) q0 q1
    show (numI (n.tdiv 100) ++ ⟨#[37]⟩).size ≤ 30
    rw [ByteArray.size_append]
    have h4 : (⟨#[37]⟩ : ByteArray).size = 1 := rfl
    omega
  · show (⟨#[97, 117, 116, 111]⟩ : ByteArray).size ≤ 30
    decide
  · show (⟨#[97, 117, 116, 111]⟩ : ByteArray).size ≤ 30
    decide
theorem getD_size : ∀ (l : List ByteArray), (l.all fun x => decide (x.size ≤ 30)) = true → ∀ i, (l.getD i ByteArray.empty).size ≤ 30
  | [], _, i => by show (ByteArray.empty).size ≤ 30; decide
  | x :: l, h, 0 => by simp at h; exact h.1
  | x :: l, h, i + 1 => by simp only [List.all_cons, Bool.and_eq_true] at h; exact getD_size l h.2 i
theorem tokT_size (s : St) (k : Nat) (hk : k < 18) (hs : styleB s = true) : (tokT s k).size ≤ 30 := by
  have h := hs
  unfold styleB gA gB gC gD gE at h
  simp only [Bool.and_eq_true] at h
  have z1 := size_bd h.1.1.1.2.1.1.1
  have z2 := size_bd h.1.1.1.2.1.1.2
  have z3 := size_bd h.1.1.1.2.1.2
  have z4 := size_bd h.1.1.1.2.2
  clear h hs
  rcases lt18 hk with rfl | rfl | rfl | rfl | rfl | rfl | rfl | rfl | rfl | rfl | rfl | rfl | rfl | rfl | rfl | rfl | rfl | rfl
  · exact getD_size ([ByteArray.empty, ⟨#[98, 108, 111, 99, 107]⟩, ⟨#[105, 110, 108, 105, 110, 101]⟩, ⟨#[110, 111, 110, 101]⟩]) (by decide) _
  · exact getD_size ([⟨#[110, 111, 110, 101]⟩, ⟨#[108, 101, 102, 116]⟩, ⟨#[114, 105, 103, 104, 116]⟩]) (by decide) _
  · exact getD_size ([⟨#[110, 111, 110, 101]⟩, ⟨#[108, 101, 102, 116]⟩, ⟨#[114, 105, 103, 104, 116]⟩, ⟨#[98, 111, 116, 104]⟩]) (by decide) _
  · exact toldT_size _ _ _ z1.1 z1.2
  · exact toldT_size _ _ _ z2.1 z2.2
  · exact pixText_size _
  · exact pixText_size _
  · exact pixText_size _
  · exact toldT_size _ _ _ z4.1 z4.2
  · exact pixText_size _
  · exact toldT_size _ _ _ z3.1 z3.2
  · exact pixText_size _
  · exact pixText_size _
  · exact getD_size ([ByteArray.empty, ⟨#[110, 111, 114, 109, 97, 108]⟩, ⟨#[110, 111, 119, 114, 97, 112]⟩, ⟨#[112, 114, 101]⟩, ⟨#[112, 114, 101, 45, 119, 114, 97, 112]⟩, ⟨#[112, 114, 101, 45, 108, 105, 110, 101]⟩]) (by decide) _
  · exact getD_size ([ByteArray.empty, ⟨#[108, 101, 102, 116]⟩, ⟨#[114, 105, 103, 104, 116]⟩, ⟨#[99, 101, 110, 116, 101, 114]⟩]) (by decide) _
  · exact pixText_size _
  · exact pixText_size _
  · exact pixText_size _
theorem nmT_size (k : Nat) : (nmT k).size ≤ 30 := getD_size _ (by decide) k
theorem textTo_size (s : St) (hs : styleB s = true) : ∀ k, k ≤ 18 → (textTo s k).size ≤ 62 * k
  | 0, _ => by show (0 : Nat) ≤ _; omega
  | k + 1, hk => by
    have ih := textTo_size s hs k (by omega)
    cases h : sameB s k
    · rw [textTo_next h]
      unfold pieceT
      have h1 := nmT_size k
      have h2 := tokT_size s k (by omega) hs
      simp only [ByteArray.size_append]
      have h3 : (⟨#[58]⟩ : ByteArray).size = 1 := rfl
      have h4 : (⟨#[59]⟩ : ByteArray).size = 1 := rfl
      omega
    · rw [textTo_same h]; omega
end Go.Proofs.YtddnphgpdnedbaaGreatDoor
