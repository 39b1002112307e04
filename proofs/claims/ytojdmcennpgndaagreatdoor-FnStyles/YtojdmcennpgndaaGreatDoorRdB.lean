/-
  The program's reader of percents.
-/
import Derived.Test.YtojdmcennpgndaaGreatDoorRdA
namespace Go.Proofs.YtojdmcennpgndaaGreatDoor
open Go.ChangeShapes Go.WideShapes Go.ChangeAt Go.RowKit
set_option linter.unusedVariables false

/-- What the reader of percents answers: another form; too much; a percent. -/
def pctOk (v : ByteArray) : Bool := pctFitB v && decide (pctVal v ≤ 100000)
theorem pct_bdN {v : ByteArray} (h : digsB (bodyOf (pcR v)) 4 = true) : (bodyOf (pcR v)).size ≤ 4 ∧ digB (bodyOf (pcR v)) = true ∧ 0 ≤ val (bodyOf (pcR v)).data.toList ∧ val (bodyOf (pcR v)).data.toList ≤ 99999 := by
  obtain ⟨h1, h2⟩ := digs_fits h
  have h3 := val_bd5 (bodyOf (pcR v)) h2 (by omega)
  exact ⟨by omega, h2, h3.1, h3.2⟩

theorem pcR_size (v : ByteArray) (h : v.size ≤ 1048576) : (pcR v).size ≤ 1048576 := by
  unfold pcR
  split
  · rw [ByteArray.size_extract]; omega
  · exact h

set_option maxHeartbeats 2000000 in
theorem readPercent_form (v : ByteArray) (w : World) (hs : v.size ≤ 1048576) (h : pctFitB v = false) :
    Calls Tryz.prog 68 #[.string v] w fun e w' => (∃ x, e = .returned (.tuple #[.agg #[.bool false, .bool false, .int .i64 0], x]) ∧ FormE x) ∧ Below w.heap.size w w' := by
  have CS := fun W => cutPct_any v W hs
  have CP := fun W => cutPrefix_any (pcR v) W (pcR_size v hs)
  have ID := fun W => isDigits_any (bodyOf (pcR v)) 4 W (by have := body_size (pcR v); have := pcR_size v hs; omega)
  unfold pctFitB at h
  generalize pcR v = t at CS CP ID h
  generalize bodyOf t = b at CP ID h
  generalize negB t = ng at CP
  cases hp : pcB v
  · rw [hp] at CS
    clear ID h
    go_enter Tryz.func68, Tryz.ntmps68
    go_wp2_with (first | (go_at_call 78; refine (CS _).mono ?_; rintro e w1 ⟨rfl, hw⟩; have hw := hw.symm; subst hw) | (go_at_call 48; refine (CP _).mono ?_; rintro e w1 ⟨rfl, hw⟩; have hw := hw.symm; subst hw))
    refine bodyPost_ret (v := .tuple #[.agg #[.bool false, .bool false, .int .i64 0], .iface 122 (.pointer (some ⟨w.heap.size + 1, 0, none⟩))]) (by simp [results, Tryz.results68, go_sem]) rfl ⟨⟨_, rfl, _, rfl⟩, ?_⟩
    repeat (first | exact Below.refl _ _ | refine rd_drew ?_ _ | refine Below.drew ?_ | refine Below.setCell ?_ (by first | (simp; done) | (simp; omega)) _ | refine Below.alloc ?_ (by first | (simp; done) | (simp; omega)) _)
  · rw [hp] at CS h
    have hd : digsB b 4 = false := by simpa using h
    rw [hd] at ID
    clear h
    go_enter Tryz.func68, Tryz.ntmps68
    go_wp2_with (first | (go_at_call 78; refine (CS _).mono ?_; rintro e w1 ⟨rfl, hw⟩; have hw := hw.symm; subst hw) | (go_at_call 48; refine (CP _).mono ?_; rintro e w1 ⟨rfl, hw⟩; have hw := hw.symm; subst hw) | (go_at_call 79; refine (ID _).mono ?_; rintro e w1 ⟨rfl, hw⟩; have hw := hw.symm; subst hw))
    refine bodyPost_ret (v := .tuple #[.agg #[.bool false, .bool false, .int .i64 0], .iface 122 (.pointer (some ⟨w.heap.size + 1, 0, none⟩))]) (by simp [results, Tryz.results68, go_sem]) rfl ⟨⟨_, rfl, _, rfl⟩, ?_⟩
    repeat (first | exact Below.refl _ _ | refine rd_drew ?_ _ | refine Below.drew ?_ | refine Below.setCell ?_ (by first | (simp; done) | (simp; omega)) _ | refine Below.alloc ?_ (by first | (simp; done) | (simp; omega)) _)

set_option maxHeartbeats 2000000 in
theorem readPercent_good (v : ByteArray) (w : World) (hs : v.size ≤ 1048576) (h : pctFitB v = true) (ab : Addr) (hE : w.cell? ⟨2, 0, none⟩ = some (.iface 164 (.pointer (some ab)))) :
    Calls Tryz.prog 68 #[.string v] w fun e w' => e = .returned (.tuple #[.agg #[.bool false, .bool (pctOk v), .int .i64 (if pctOk v then pctSgn v else 0)], if pctOk v then .nilIface else .iface 164 (.pointer (some ab))]) ∧ Below w.heap.size w w' := by
  have h' := h
  have lte : 2 < w.heap.size := World.block_lt_of_cell? _ ⟨2, 0, none⟩ hE
  unfold pctFitB at h'
  rw [Bool.and_eq_true] at h'
  obtain ⟨b1, b2, b3, b4⟩ := pct_bdN h'.2
  have CS := fun W => cutPct_any v W hs
  have CP := fun W => cutPrefix_any (pcR v) W (pcR_size v hs)
  have ID := fun W => isDigits_any (bodyOf (pcR v)) 4 W (by omega)
  have DV := fun W => digitsValue_any (bodyOf (pcR v)) W (by omega) b2
  rw [h'.1] at CS
  rw [h'.2] at ID
  have eo : pctOk v = decide (val (bodyOf (pcR v)).data.toList * 100 ≤ 100000) := by unfold pctOk; rw [h, Bool.true_and]; rfl
  have es : pctSgn v = if negB (pcR v) then -(val (bodyOf (pcR v)).data.toList * 100) else val (bodyOf (pcR v)).data.toList * 100 := rfl
  rw [eo, es]
  clear eo es h h' b1 b2
  generalize pcR v = t at CS CP ID DV b3 b4 ⊢
  generalize negB t = ng at CP ⊢
  generalize bodyOf t = b at CP ID DV b3 b4 ⊢
  generalize val b.data.toList = q at DV b3 b4 ⊢
  have hn0 : ¬ 2 = w.heap.size := by omega
  by_cases hq : q * 100 ≤ 100000
  · rw [decide_eq_true hq, if_pos rfl, if_pos rfl]
    have hq' : ¬ ((100000 : Int) < q * 100) := by omega
    cases ng
    · go_enter Tryz.func68, Tryz.ntmps68
      go_wp2_with (first | (go_at_call 78; refine (CS _).mono ?_; rintro e w1 ⟨rfl, hw⟩; have hw := hw.symm; subst hw) | (go_at_call 48; refine (CP _).mono ?_; rintro e w1 ⟨rfl, hw⟩; have hw := hw.symm; subst hw) | (go_at_call 79; refine (ID _).mono ?_; rintro e w1 ⟨rfl, hw⟩; have hw := hw.symm; subst hw) | (go_at_call 80; refine (DV _).mono ?_; rintro e w1 ⟨rfl, hw⟩; have hw := hw.symm; subst hw))
      refine bodyPost_ret (v := .tuple #[.agg #[.bool false, .bool true, .int .i64 (q * 100)], .nilIface]) (by simp [results, Tryz.results68, go_sem]) rfl ⟨rfl, ?_⟩
      repeat (first | exact Below.refl _ _ | refine rd_drew ?_ _ | refine Below.drew ?_ | refine Below.setCell ?_ (by first | (simp; done) | (simp; omega)) _ | refine Below.alloc ?_ (by first | (simp; done) | (simp; omega)) _)
    · go_enter Tryz.func68, Tryz.ntmps68
      go_wp2_with (first | (go_at_call 78; refine (CS _).mono ?_; rintro e w1 ⟨rfl, hw⟩; have hw := hw.symm; subst hw) | (go_at_call 48; refine (CP _).mono ?_; rintro e w1 ⟨rfl, hw⟩; have hw := hw.symm; subst hw) | (go_at_call 79; refine (ID _).mono ?_; rintro e w1 ⟨rfl, hw⟩; have hw := hw.symm; subst hw) | (go_at_call 80; refine (DV _).mono ?_; rintro e w1 ⟨rfl, hw⟩; have hw := hw.symm; subst hw))
      refine bodyPost_ret (v := .tuple #[.agg #[.bool false, .bool true, .int .i64 (-(q * 100))], .nilIface]) (by simp [results, Tryz.results68, go_sem]) rfl ⟨rfl, ?_⟩
      repeat (first | exact Below.refl _ _ | refine rd_drew ?_ _ | refine Below.drew ?_ | refine Below.setCell ?_ (by first | (simp; done) | (simp; omega)) _ | refine Below.alloc ?_ (by first | (simp; done) | (simp; omega)) _)
  · rw [decide_eq_false hq, if_neg (by decide), if_neg (by decide)]
    have hq' : (100000 : Int) < q * 100 := by omega
    go_enter Tryz.func68, Tryz.ntmps68
    go_wp2_with (first | (go_at_call 78; refine (CS _).mono ?_; rintro e w1 ⟨rfl, hw⟩; have hw := hw.symm; subst hw) | (go_at_call 48; refine (CP _).mono ?_; rintro e w1 ⟨rfl, hw⟩; have hw := hw.symm; subst hw) | (go_at_call 79; refine (ID _).mono ?_; rintro e w1 ⟨rfl, hw⟩; have hw := hw.symm; subst hw) | (go_at_call 80; refine (DV _).mono ?_; rintro e w1 ⟨rfl, hw⟩; have hw := hw.symm; subst hw))
    go_region
    all_goals
      go_wp2
      refine bodyPost_ret (v := .tuple #[.agg #[.bool false, .bool false, .int .i64 0], .iface 164 (.pointer (some ab))]) (by simp [results, Tryz.results68, go_sem]) rfl ⟨rfl, ?_⟩
      repeat (first | exact Below.refl _ _ | refine rd_drew ?_ _ | refine Below.drew ?_ | refine Below.setCell ?_ (by first | (simp; done) | (simp; omega)) _ | refine Below.alloc ?_ (by first | (simp; done) | (simp; omega)) _)
end Go.Proofs.YtojdmcennpgndaaGreatDoor
