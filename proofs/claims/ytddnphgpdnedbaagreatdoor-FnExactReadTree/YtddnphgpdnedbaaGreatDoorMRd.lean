/-
  What the program's readers answer, as plain data: a text that begins with another, a text that ends with a percent sign; a size.
  The program's readers of lengths and sizes, one form each.
  The program's reader of percents.
-/
import Derived.Test.YtddnphgpdnedbaaGreatDoorMRe
import Derived.Test.YtddnphgpdnedbaaGreatDoorMRf
import Derived.Test.YtddnphgpdnedbaaGreatDoorWide
import Derived.Test.YtddnphgpdnedbaaGreatDoorSty
import Derived.Deep.RegionHeld3
namespace Go.Proofs.YtddnphgpdnedbaaGreatDoor
open Go.ChangeShapes Go.WideShapes Go.ChangeAt Go.RowKit
set_option linter.unusedVariables false

def preB (s p : ByteArray) : Bool := decide (p.size ≤ s.size) && ((s.extract 0 p.size).toList == p.toList)
def preR (s p : ByteArray) : ByteArray := if preB s p then s.extract p.size s.size else s
def pcB (s : ByteArray) : Bool := decide (1 ≤ s.size) && ((s.extract (s.size - 1) s.size).toList == [37])
def pcR (s : ByteArray) : ByteArray := if pcB s then s.extract 0 (s.size - 1) else s

set_option maxHeartbeats 1000000 in
theorem cutPre_any (s p : ByteArray) (w : World) (hs : s.size ≤ 1048576) (hp : p.size ≤ 1048576) :
    Calls Tryz.prog 53 #[.string s, .string p] w fun e w' => e = .returned (.tuple #[.string (preR s p), .bool (preB s p)]) ∧ w' = w := by
  by_cases h2 : p.size ≤ s.size
  · have h2' : (p.size : Int) ≤ (s.size : Int) := by omega
    have h20 : (0 : Int) ≤ (p.size : Int) := by omega
    cases h : ((s.extract 0 p.size).toList == p.toList) with
    | true =>
      have e : preB s p = true := by simp only [preB, h, h2, decide_true, Bool.and_self]
      have HE : Hid (preB s p = true) := e
      have HN : Hid (preR s p = s.extract p.size s.size) := by show preR s p = _; simp [preR, e]
      clear e
      go_enter Tryz.func53, Tryz.ntmps53
      go_wp2
      go_ret2
      exact ⟨ret2S HN.out.symm HE.out.symm, rfl⟩
    | false =>
      have e : preB s p = false := by simp only [preB, h, Bool.and_false]
      have HE : Hid (preB s p = false) := e
      have HN : Hid (preR s p = s) := by show preR s p = _; simp [preR, e]
      clear e
      go_enter Tryz.func53, Tryz.ntmps53
      go_wp2
      go_ret2
      exact ⟨ret2S HN.out.symm HE.out.symm, rfl⟩
  · have h2' : ¬ (p.size : Int) ≤ (s.size : Int) := by omega
    have e : preB s p = false := by simp [preB, h2]
    have HE : Hid (preB s p = false) := e
    have HN : Hid (preR s p = s) := by show preR s p = _; simp [preR, e]
    clear e
    go_enter Tryz.func53, Tryz.ntmps53
    go_wp2
    go_ret2
    exact ⟨ret2S HN.out.symm HE.out.symm, rfl⟩
theorem cutPct_any (s : ByteArray) (w : World) (hs : s.size ≤ 1048576) :
    Calls Tryz.prog 129 #[.string s, .string ⟨#[37]⟩] w fun e w' => e = .returned (.tuple #[.string (pcR s), .bool (pcB s)]) ∧ w' = w := by
  by_cases h2 : 1 ≤ s.size
  · cases h : ((s.extract (s.size - 1) s.size).toList == [37]) with
    | true =>
      have e : pcB s = true := by simp only [pcB, h, h2, decide_true, Bool.and_self]
      have HE : Hid (pcB s = true) := e
      have HN : Hid (pcR s = s.extract 0 (s.size - 1)) := by show pcR s = _; simp [pcR, e]
      clear e
      go_enter Tryz.func129, Tryz.ntmps129
      go_wp2
      go_ret2
      exact ⟨ret2S HN.out.symm HE.out.symm, rfl⟩
    | false =>
      have e : pcB s = false := by simp only [pcB, h, Bool.and_false]
      have HE : Hid (pcB s = false) := e
      have HN : Hid (pcR s = s) := by show pcR s = _; simp [pcR, e]
      clear e
      go_enter Tryz.func129, Tryz.ntmps129
      go_wp2
      go_ret2
      exact ⟨ret2S HN.out.symm HE.out.symm, rfl⟩
  · have e : pcB s = false := by simp [pcB, h2]
    have HE : Hid (pcB s = false) := e
    have HN : Hid (pcR s = s) := by show pcR s = _; simp [pcR, e]
    clear e
    go_enter Tryz.func129, Tryz.ntmps129
    go_wp2
    go_ret2
    exact ⟨ret2S HN.out.symm HE.out.symm, rfl⟩

/-- A percent as the program reads it. -/
def pctFitB (v : ByteArray) : Bool := pcB v && digsB (bodyOf (pcR v)) 4
def pctVal (v : ByteArray) : Int := val (bodyOf (pcR v)).data.toList * 100
def pctSgn (v : ByteArray) : Int := if negB (pcR v) then -(pctVal v) else pctVal v
end Go.Proofs.YtddnphgpdnedbaaGreatDoor

namespace Go.Proofs.YtddnphgpdnedbaaGreatDoor
open Go.ChangeShapes Go.WideShapes Go.ChangeAt Go.RowKit
set_option linter.unusedVariables false

/-- A fault of form. -/
def FormE (e : Value) : Prop := ∃ p : Addr, e = .iface 173 (.pointer (some p))
theorem rd_drew {B : Nat} {w w1 : World} (h : Below B w w1) (n : Nat) : Below B w (w1.drewN n) := ⟨h.os, h.tape, h.output, h.size, h.block⟩

set_option maxHeartbeats 1000000 in
theorem readLength_any (s : ByteArray) (w : World) (hs : s.size ≤ 1048576) :
    Calls Tryz.prog 118 #[.string s] w fun e w' => (∃ x, e = .returned (.tuple #[.int .i64 (readN s), x]) ∧ ((readB s = true ∧ x = .nilIface) ∨ (readB s = false ∧ FormE x))) ∧ Below w.heap.size w w' := by
  have RD := fun W => impl_read s W hs
  cases h : readB s
  · rw [h, show readN s = 0 by simp [readN, h]] at RD
    rw [show readN s = 0 by simp [readN, h]]
    clear h
    go_enter Tryz.func118, Tryz.ntmps118
    go_wp2_with fail
    refine (RD _).mono ?_
    rintro e w1 ⟨rfl, n, rfl⟩
    go_wp2
    go_ret2
    exact ⟨⟨_, rfl, .inr ⟨by trivial, _, rfl⟩⟩, (rd_drew (Below.refl _ _) n).alloc (by simp) _⟩
  · rw [h] at RD
    clear h
    generalize readN s = v at RD
    go_enter Tryz.func118, Tryz.ntmps118
    go_wp2_with fail
    refine (RD _).mono ?_
    rintro e w1 ⟨rfl, n, rfl⟩
    go_wp2
    go_ret2
    exact ⟨⟨_, rfl, .inl ⟨by trivial, rfl⟩⟩, rd_drew (Below.refl _ _) n⟩

def autoB (s : ByteArray) : Bool := s.toList == [97, 117, 116, 111]
set_option maxHeartbeats 1000000 in
theorem readAuto_any (s : ByteArray) (w : World) :
    Calls Tryz.prog 122 #[.string s] w fun e w' => (∃ x, e = .returned (.tuple #[.agg #[.bool (autoB s), .bool false, .int .i64 0], x]) ∧ ((autoB s = true ∧ x = .nilIface) ∨ (autoB s = false ∧ FormE x))) ∧ Below w.heap.size w w' := by
  cases h : autoB s
  · have h' : (s.toList == [97, 117, 116, 111]) = false := h
    clear h
    go_enter Tryz.func122, Tryz.ntmps122
    go_wp2
    refine bodyPost_ret (v := .tuple #[.agg #[.bool false, .bool false, .int .i64 0], .iface 173 (.pointer (some ⟨w.heap.size + 1, 0, none⟩))]) (by simp [results, Tryz.results122, go_sem]) rfl ?_
    refine ⟨⟨_, rfl, .inr ⟨by trivial, _, rfl⟩⟩, ?_⟩
    repeat (first | exact Below.refl _ _ | refine Below.drew ?_ | refine Below.setCell ?_ (by first | (simp; done) | (simp; omega)) _ | refine Below.alloc ?_ (by first | (simp; done) | (simp; omega)) _)
  · have h' : (s.toList == [97, 117, 116, 111]) = true := h
    clear h
    go_enter Tryz.func122, Tryz.ntmps122
    go_wp2
    refine bodyPost_ret (v := .tuple #[.agg #[.bool true, .bool false, .int .i64 0], .nilIface]) (by simp [results, Tryz.results122, go_sem]) rfl ?_
    refine ⟨⟨_, rfl, .inl ⟨by trivial, rfl⟩⟩, ?_⟩
    repeat (first | exact Below.refl _ _ | refine Below.drew ?_ | refine Below.setCell ?_ (by first | (simp; done) | (simp; omega)) _ | refine Below.alloc ?_ (by first | (simp; done) | (simp; omega)) _)

set_option maxHeartbeats 1000000 in
theorem readPixelSize_any (s : ByteArray) (w : World) (hs : s.size ≤ 1048576) :
    Calls Tryz.prog 124 #[.string s] w fun e w' => (∃ x, e = .returned (.tuple #[.agg #[.bool false, .bool false, .int .i64 (readN s)], x]) ∧ ((readB s = true ∧ x = .nilIface) ∨ (readB s = false ∧ FormE x))) ∧ Below w.heap.size w w' := by
  have RD := fun W => readLength_any s W hs
  generalize readN s = v at RD ⊢
  generalize readB s = r at RD ⊢
  go_enter Tryz.func124, Tryz.ntmps124
  go_wp2_with fail
  refine (RD _).mono ?_
  rintro e w1 ⟨⟨x, rfl, hx⟩, hb⟩
  have hz : w.heap.size < w1.heap.size := by have := hb.size; simp at this; omega
  have hc : ∀ j, j < 3 → w1.cell? ⟨w.heap.size, j, none⟩ = (#[.bool false, .bool false, .int .i64 0] : Array Value)[j]? := fun j hj => (hb.cell (p := ⟨w.heap.size, j, none⟩) (by simp)).trans (by simp)
  have c0 := hc 0 (by omega)
  have c1 := hc 1 (by omega)
  have c2 := hc 2 (by omega)
  have f0 : w1.frozen? ⟨w.heap.size, 0, none⟩ = false := (hb.frozen (p := ⟨w.heap.size, 0, none⟩) (by simp)).trans (by simp)
  have f1 : w1.frozen? ⟨w.heap.size, 1, none⟩ = false := (hb.frozen (p := ⟨w.heap.size, 1, none⟩) (by simp)).trans (by simp)
  have f2 : w1.frozen? ⟨w.heap.size, 2, none⟩ = false := (hb.frozen (p := ⟨w.heap.size, 2, none⟩) (by simp)).trans (by simp)
  have bw : Below w.heap.size w w1 := ((Below.refl _ _).alloc (Nat.le_refl _) _).trans (hb.mono (by simp))
  clear hb hc RD
  go_wp2
  refine bodyPost_ret (v := .tuple #[.agg #[.bool false, .bool false, .int .i64 v], x]) (by simp [results, Tryz.results124, go_sem, c0, c1, c2]) rfl ?_
  refine ⟨⟨_, rfl, hx⟩, ?_⟩
  repeat (first | exact bw | refine Below.drew ?_ | refine Below.setCell ?_ (by first | (simp; done) | (simp; omega)) _ | refine Below.alloc ?_ (by first | (simp; done) | (simp; omega)) _)
end Go.Proofs.YtddnphgpdnedbaaGreatDoor

namespace Go.Proofs.YtddnphgpdnedbaaGreatDoor
open Go.ChangeShapes Go.WideShapes Go.ChangeAt Go.RowKit
set_option linter.unusedVariables false

/-- What the reader of percents answers: another form; too much; a percent. -/
def pctOk (v : ByteArray) : Bool := pctFitB v && decide (pctVal v ≤ 100000)
theorem pct_bdN {v : ByteArray} (h : digsB (bodyOf (pcR v)) 4 = true) : (bodyOf (pcR v)).size ≤ 4 ∧ digB (bodyOf (pcR v)) = true ∧ 0 ≤ val (bodyOf (pcR v)).data.toList ∧ val (bodyOf (pcR v)).data.toList ≤ 99999 := by
  obtain ⟨h1, h2⟩ := digs_fits h
  have h3 := val_bd5 (bodyOf (pcR v)) h2 (by omega)
  exact ⟨by omega, h2, h3.1, h3.2⟩

theorem pcR_size (v : ByteArray) (h : v.size ≤ 1048576) : (pcR v).size ≤ 1048576 := by
  unfold pcR
  split
  · rw [ByteArray.size_extract]; omega
  · exact h

set_option maxHeartbeats 2000000 in
theorem readPercent_form (v : ByteArray) (w : World) (hs : v.size ≤ 1048576) (h : pctFitB v = false) :
    Calls Tryz.prog 123 #[.string v] w fun e w' => (∃ x, e = .returned (.tuple #[.agg #[.bool false, .bool false, .int .i64 0], x]) ∧ FormE x) ∧ Below w.heap.size w w' := by
  have CS := fun W => cutPct_any v W hs
  have CP := fun W => cutPrefix_any (pcR v) W (pcR_size v hs)
  have ID := fun W => isDigits_any (bodyOf (pcR v)) 4 W (by have := body_size (pcR v); have := pcR_size v hs; omega)
  unfold pctFitB at h
  generalize pcR v = t at CS CP ID h
  generalize bodyOf t = b at CP ID h
  generalize negB t = ng at CP
  cases hp : pcB v
  · rw [hp] at CS
    clear ID h
    go_enter Tryz.func123, Tryz.ntmps123
    go_wp2_with (first | (go_at_call 129; refine (CS _).mono ?_; rintro e w1 ⟨rfl, hw⟩; have hw := hw.symm; subst hw) | (go_at_call 53; refine (CP _).mono ?_; rintro e w1 ⟨rfl, hw⟩; have hw := hw.symm; subst hw))
    refine bodyPost_ret (v := .tuple #[.agg #[.bool false, .bool false, .int .i64 0], .iface 173 (.pointer (some ⟨w.heap.size + 1, 0, none⟩))]) (by simp [results, Tryz.results123, go_sem]) rfl ⟨⟨_, rfl, _, rfl⟩, ?_⟩
    repeat (first | exact Below.refl _ _ | refine rd_drew ?_ _ | refine Below.drew ?_ | refine Below.setCell ?_ (by first | (simp; done) | (simp; omega)) _ | refine Below.alloc ?_ (by first | (simp; done) | (simp; omega)) _)
  · rw [hp] at CS h
    have hd : digsB b 4 = false := by simpa using h
    rw [hd] at ID
    clear h
    go_enter Tryz.func123, Tryz.ntmps123
    go_wp2_with (first | (go_at_call 129; refine (CS _).mono ?_; rintro e w1 ⟨rfl, hw⟩; have hw := hw.symm; subst hw) | (go_at_call 53; refine (CP _).mono ?_; rintro e w1 ⟨rfl, hw⟩; have hw := hw.symm; subst hw) | (go_at_call 130; refine (ID _).mono ?_; rintro e w1 ⟨rfl, hw⟩; have hw := hw.symm; subst hw))
    refine bodyPost_ret (v := .tuple #[.agg #[.bool false, .bool false, .int .i64 0], .iface 173 (.pointer (some ⟨w.heap.size + 1, 0, none⟩))]) (by simp [results, Tryz.results123, go_sem]) rfl ⟨⟨_, rfl, _, rfl⟩, ?_⟩
    repeat (first | exact Below.refl _ _ | refine rd_drew ?_ _ | refine Below.drew ?_ | refine Below.setCell ?_ (by first | (simp; done) | (simp; omega)) _ | refine Below.alloc ?_ (by first | (simp; done) | (simp; omega)) _)

set_option maxHeartbeats 2000000 in
theorem readPercent_good (v : ByteArray) (w : World) (hs : v.size ≤ 1048576) (h : pctFitB v = true) (ab : Addr) (hE : w.cell? ⟨5, 0, none⟩ = some (.iface 209 (.pointer (some ab)))) :
    Calls Tryz.prog 123 #[.string v] w fun e w' => e = .returned (.tuple #[.agg #[.bool false, .bool (pctOk v), .int .i64 (if pctOk v then pctSgn v else 0)], if pctOk v then .nilIface else .iface 209 (.pointer (some ab))]) ∧ Below w.heap.size w w' := by
  have h' := h
  have lte : 5 < w.heap.size := World.block_lt_of_cell? _ ⟨5, 0, none⟩ hE
  unfold pctFitB at h'
  rw [Bool.and_eq_true] at h'
  obtain ⟨b1, b2, b3, b4⟩ := pct_bdN h'.2
  have CS := fun W => cutPct_any v W hs
  have CP := fun W => cutPrefix_any (pcR v) W (pcR_size v hs)
  have ID := fun W => isDigits_any (bodyOf (pcR v)) 4 W (by omega)
  have DV := fun W => digitsValue_any (bodyOf (pcR v)) W (by omega) b2
  rw [h'.1] at CS
  rw [h'.2] at ID
  have eo : pctOk v = decide (val (bodyOf (pcR v)).data.toList * 100 ≤ 100000) := by unfold pctOk; rw [h, Bool.true_and]; rfl
  have es : pctSgn v = if negB (pcR v) then -(val (bodyOf (pcR v)).data.toList * 100) else val (bodyOf (pcR v)).data.toList * 100 := rfl
  rw [eo, es]
  clear eo es h h' b1 b2
  generalize pcR v = t at CS CP ID DV b3 b4 ⊢
  generalize negB t = ng at CP ⊢
  generalize bodyOf t = b at CP ID DV b3 b4 ⊢
  generalize val b.data.toList = q at DV b3 b4 ⊢
  have hn0 : ¬ 5 = w.heap.size := by omega
  by_cases hq : q * 100 ≤ 100000
  · rw [decide_eq_true hq, if_pos rfl, if_pos rfl]
    have hq' : ¬ ((100000 : Int) < q * 100) := by omega
    cases ng
    · go_enter Tryz.func123, Tryz.ntmps123
      go_wp2_with (first | (go_at_call 129; refine (CS _).mono ?_; rintro e w1 ⟨rfl, hw⟩; have hw := hw.symm; subst hw) | (go_at_call 53; refine (CP _).mono ?_; rintro e w1 ⟨rfl, hw⟩; have hw := hw.symm; subst hw) | (go_at_call 130; refine (ID _).mono ?_; rintro e w1 ⟨rfl, hw⟩; have hw := hw.symm; subst hw) | (go_at_call 131; refine (DV _).mono ?_; rintro e w1 ⟨rfl, hw⟩; have hw := hw.symm; subst hw))
      refine bodyPost_ret (v := .tuple #[.agg #[.bool false, .bool true, .int .i64 (q * 100)], .nilIface]) (by simp [results, Tryz.results123, go_sem]) rfl ⟨rfl, ?_⟩
      repeat (first | exact Below.refl _ _ | refine rd_drew ?_ _ | refine Below.drew ?_ | refine Below.setCell ?_ (by first | (simp; done) | (simp; omega)) _ | refine Below.alloc ?_ (by first | (simp; done) | (simp; omega)) _)
    · go_enter Tryz.func123, Tryz.ntmps123
      go_wp2_with (first | (go_at_call 129; refine (CS _).mono ?_; rintro e w1 ⟨rfl, hw⟩; have hw := hw.symm; subst hw) | (go_at_call 53; refine (CP _).mono ?_; rintro e w1 ⟨rfl, hw⟩; have hw := hw.symm; subst hw) | (go_at_call 130; refine (ID _).mono ?_; rintro e w1 ⟨rfl, hw⟩; have hw := hw.symm; subst hw) | (go_at_call 131; refine (DV _).mono ?_; rintro e w1 ⟨rfl, hw⟩; have hw := hw.symm; subst hw))
      refine bodyPost_ret (v := .tuple #[.agg #[.bool false, .bool true, .int .i64 (-(q * 100))], .nilIface]) (by simp [results, Tryz.results123, go_sem]) rfl ⟨rfl, ?_⟩
      repeat (first | exact Below.refl _ _ | refine rd_drew ?_ _ | refine Below.drew ?_ | refine Below.setCell ?_ (by first | (simp; done) | (simp; omega)) _ | refine Below.alloc ?_ (by first | (simp; done) | (simp; omega)) _)
  · rw [decide_eq_false hq, if_neg (by decide), if_neg (by decide)]
    have hq' : (100000 : Int) < q * 100 := by omega
    go_enter Tryz.func123, Tryz.ntmps123
    go_wp2_with (first | (go_at_call 129; refine (CS _).mono ?_; rintro e w1 ⟨rfl, hw⟩; have hw := hw.symm; subst hw) | (go_at_call 53; refine (CP _).mono ?_; rintro e w1 ⟨rfl, hw⟩; have hw := hw.symm; subst hw) | (go_at_call 130; refine (ID _).mono ?_; rintro e w1 ⟨rfl, hw⟩; have hw := hw.symm; subst hw) | (go_at_call 131; refine (DV _).mono ?_; rintro e w1 ⟨rfl, hw⟩; have hw := hw.symm; subst hw))
    go_region
    all_goals
      go_wp2
      refine bodyPost_ret (v := .tuple #[.agg #[.bool false, .bool false, .int .i64 0], .iface 209 (.pointer (some ab))]) (by simp [results, Tryz.results123, go_sem]) rfl ⟨rfl, ?_⟩
      repeat (first | exact Below.refl _ _ | refine rd_drew ?_ _ | refine Below.drew ?_ | refine Below.setCell ?_ (by first | (simp; done) | (simp; omega)) _ | refine Below.alloc ?_ (by first | (simp; done) | (simp; omega)) _)
end Go.Proofs.YtddnphgpdnedbaaGreatDoor
