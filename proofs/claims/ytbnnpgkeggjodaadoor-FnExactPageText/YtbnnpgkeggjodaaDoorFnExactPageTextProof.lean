/-
  PageText answers at every page as its model, and leaves its argument as it is: the card of the law FnExactPageText, where the library's tables that the row lists hold what the program's text lays in them. strconv.Itoa and Builder.String are taken by the library's contracts. The card ties the tables to the pruned copy of the project that this seat was turned of.
-/
import Derived.Test.YtbnnpgkeggjodaaDoorCards
import Derived.Test.YtbnnpgkeggjodaaDoorTie
import Derived.Test.YtbnnpgkeggjodaaDoorPtI
import Derived.Test.YtbnnpgkeggjodaaDoorPtS
import Derived.Test.YtbnnpgkeggjodaaDoorPgO
import Derived.Test.YtbnnpgkeggjodaaDoorPgE
import Derived.ShutString
import Derived.ChangeOld
import Derived.Below
import Derived.Deep.DeepHandedRow
import Derived.OpenVars
import Derived.ChangeVars
import Derived.LaidMore
import Derived.Stop.Joined
import Derived.SevenTiedAt
import Derived.SizedLaws
namespace Go.Proofs.YtbnnpgkeggjodaaDoor.fnExactPageText
open Go.ChangeShapes Go.WideShapes Go.ChangeAt Go.RowKit
open Go.ChangeMaps (open_string shut_string)
set_option linter.unusedVariables false

theorem own : ownKnob Tryd.prog.godebug = none := by kernel_rfl
theorem laidOut : laidOutB Tryd.prog = true := by kernel_rfl

theorem ptB_at (gb gp gl gf : Nat) (P : Pg) : ptB (pgAt gb gp gl gf P) = ptB P := by unfold ptB pgOk pgAt; rfl
theorem pgT_at (gb gp gl gf : Nat) (P : Pg) : pgT (pgAt gb gp gl gf P) = pgT P := by unfold pgT pgAt; rfl
theorem ptT_at (gb gp gl gf : Nat) (P : Pg) : ptT (pgAt gb gp gl gf P) = ptT P := by unfold ptT; rw [ptB_at, pgT_at]
theorem lies5 {w : World} {g : Nat} {a b c d e : Value} {t : TypeId} {fr : Nat × Nat} (h : w.heap[g]? = some (.cells #[a, b, c, d, e] t fr)) :
    w.cell? ⟨g, 0, none⟩ = some a ∧ w.cell? ⟨g, 1, none⟩ = some b ∧ w.cell? ⟨g, 2, none⟩ = some c ∧ w.cell? ⟨g, 3, none⟩ = some d ∧ w.cell? ⟨g, 4, none⟩ = some e :=
  ⟨(lies_cell h 0).trans rfl, (lies_cell h 1).trans rfl, (lies_cell h 2).trans rfl, (lies_cell h 3).trans rfl, (lies_cell h 4).trans rfl⟩
theorem lies4 {w : World} {g : Nat} {a b c d : Value} {t : TypeId} {fr : Nat × Nat} (h : w.heap[g]? = some (.cells #[a, b, c, d] t fr)) :
    w.cell? ⟨g, 0, none⟩ = some a ∧ w.cell? ⟨g, 1, none⟩ = some b ∧ w.cell? ⟨g, 2, none⟩ = some c ∧ w.cell? ⟨g, 3, none⟩ = some d :=
  ⟨(lies_cell h 0).trans rfl, (lies_cell h 1).trans rfl, (lies_cell h 2).trans rfl, (lies_cell h 3).trans rfl⟩
theorem both5 {w w' : World} {g g' : Nat} {a b c d e a' b' c' d' e' : Value} {t t' : TypeId} {fr fr' : Nat × Nat} (hb : Below w.heap.size w w') (h : w.heap[g]? = some (.cells #[a, b, c, d, e] t fr)) (h' : w.heap[g']? = some (.cells #[a', b', c', d', e'] t' fr')) :
    w'.cell? ⟨g, 0, none⟩ = some a ∧ w'.cell? ⟨g, 1, none⟩ = some b ∧ w'.cell? ⟨g, 2, none⟩ = some c ∧ w'.cell? ⟨g, 3, none⟩ = some d ∧ w'.cell? ⟨g, 4, none⟩ = some e ∧ w'.cell? ⟨g', 0, none⟩ = some a' ∧ w'.cell? ⟨g', 1, none⟩ = some b' ∧ w'.cell? ⟨g', 2, none⟩ = some c' ∧ w'.cell? ⟨g', 3, none⟩ = some d' ∧ w'.cell? ⟨g', 4, none⟩ = some e' := by
  have k := lies5 (below_lies hb h (lies_lt h))
  have k' := lies5 (below_lies hb h' (lies_lt h'))
  exact ⟨k.1, k.2.1, k.2.2.1, k.2.2.2.1, k.2.2.2.2, k'.1, k'.2.1, k'.2.2.1, k'.2.2.2.1, k'.2.2.2.2⟩

set_option maxRecDepth 100000 in
set_option maxHeartbeats 8000000 in
theorem walk (P : Pg) (w : World) (hr : PgRow w P) (hl : PgLen P maxLen) (hs : ∀ x ∈ P.bs, x.tx.size ≤ maxLen) (ht : ∀ x ∈ P.ls, x.tx.size ≤ maxLen) (hin : PgIn P) (hpw : Pow w) :
    Calls Tryd.prog 3 #[.agg #[.slice P.ba P.bs.length P.bc, .slice P.pa P.ps.length P.pc, .slice P.la P.ls.length P.lc, .slice P.fa P.fs.length P.fc, .int .i64 P.hi]] w fun e w' => e = .returned (.bool true) ∧ Below w.heap.size w w' := by
  have SZ := fun (W : World) (h : Below w.heap.size w W) => szPage_any P 1048576 W (by decide) (by decide) (hr.below h) hl hs ht
  have TO0 := fun (hlen : PgLen P 1048576) (W : World) (h : Below w.heap.size w W) => toPage_any P W (hr.below h) hlen
  have S : ∀ (hlen : PgLen P 1048576) (hsz : ∀ (i : Nat) (x : Ln), P.ls[i]? = some x → x.tx.size ≤ 1048576) (W : World) (gb gp gl gf : Nat), PgOwn W gb gp gl gf P → Calls Tryd.prog 5 #[.agg #[.slice (some ⟨gb, 0, none⟩) P.bs.length P.bs.length, .slice (some ⟨gp, 0, none⟩) P.ps.length P.ps.length, .slice (some ⟨gl, 0, none⟩) P.ls.length P.ls.length, .slice (some ⟨gf, 0, none⟩) P.fs.length P.fs.length, .int .i64 P.hi]] W fun e w' => e = .returned (.tuple #[.string (ptT P), .bool (ptB P)]) ∧ Below W.heap.size W w' :=
    fun hlen hsz W gb gp gl gf h => by rw [← ptT_at gb gp gl gf P, ← ptB_at gb gp gl gf P]; exact specPageText_any (pgAt gb gp gl gf P) W h.row ⟨hlen.lb, hlen.lp, hlen.ll, hlen.lf⟩ ⟨hin.b, hin.p, hin.l, hin.h⟩ hsz
  have I : ∀ (hlen : PgLen P 1048576) (hsz : ∀ (i : Nat) (x : Ln), P.ls[i]? = some x → x.tx.size ≤ 1048576) (W : World) (hpw : Pow W) (gb gp gl gf : Nat), PgOwn W gb gp gl gf P → Calls Tryd.prog 7 #[.agg #[.slice (some ⟨gb, 0, none⟩) P.bs.length P.bs.length, .slice (some ⟨gp, 0, none⟩) P.ps.length P.ps.length, .slice (some ⟨gl, 0, none⟩) P.ls.length P.ls.length, .slice (some ⟨gf, 0, none⟩) P.fs.length P.fs.length, .int .i64 P.hi]] W fun e w' => e = .returned (.tuple #[.string (ptT P), .bool (ptB P)]) ∧ Below W.heap.size W w' :=
    fun hlen hsz W hpw gb gp gl gf h => by rw [← ptT_at gb gp gl gf P, ← ptB_at gb gp gl gf P]; exact implPageText_any (pgAt gb gp gl gf P) W h.row ⟨hlen.lb, hlen.lp, hlen.ll, hlen.lf⟩ ⟨hin.b, hin.p, hin.l, hin.h⟩ hsz hpw
  have EN : ∀ (hlen : PgLen P 1048576) (W : World) (gb gp gl gf gb' gp' gl' gf' : Nat), PgOwn W gb gp gl gf P → PgOwn W gb' gp' gl' gf' P → Calls Tryd.prog 8 #[.agg #[.slice (some ⟨gb, 0, none⟩) P.bs.length P.bs.length, .slice (some ⟨gp, 0, none⟩) P.ps.length P.ps.length, .slice (some ⟨gl, 0, none⟩) P.ls.length P.ls.length, .slice (some ⟨gf, 0, none⟩) P.fs.length P.fs.length, .int .i64 P.hi], .agg #[.slice (some ⟨gb', 0, none⟩) P.bs.length P.bs.length, .slice (some ⟨gp', 0, none⟩) P.ps.length P.ps.length, .slice (some ⟨gl', 0, none⟩) P.ls.length P.ls.length, .slice (some ⟨gf', 0, none⟩) P.fs.length P.fs.length, .int .i64 P.hi]] W fun e w' => e = .returned (.bool true) ∧ Below W.heap.size W w' :=
    fun hlen W gb gp gl gf gb' gp' gl' gf' h h' => eqPage_any (pgAt gb gp gl gf P) (pgAt gb' gp' gl' gf' P) W h.row h'.row rfl rfl rfl rfl rfl ⟨hlen.lb, hlen.lp, hlen.ll, hlen.lf⟩
  generalize ptT P = q at S I
  generalize ptB P = s at S I
  have HPW : Hid (Pow w) := hpw
  clear hr hl hs ht hin hpw
  generalize P.bs.length = nb at SZ TO0 S I EN
  generalize P.ps.length = np at SZ TO0 S I EN
  generalize P.ls.length = nl at SZ TO0 S I EN
  generalize P.fs.length = nf at SZ TO0 S I EN
  have l0 : (w.alloc (.cells #[.slice P.ba nb P.bc, .slice P.pa np P.pc, .slice P.la nl P.lc, .slice P.fa nf P.fc, .int .i64 P.hi] 27)).heap[w.heap.size]? = some (.cells #[.slice P.ba nb P.bc, .slice P.pa np P.pc, .slice P.la nl P.lc, .slice P.fa nf P.fc, .int .i64 P.hi] 27 (0, 0)) := heap_alloc_new w _
  have b0 : Below w.heap.size w (w.alloc (.cells #[.slice P.ba nb P.bc, .slice P.pa np P.pc, .slice P.la nl P.lc, .slice P.fa nf P.fc, .int .i64 P.hi] 27)) := (Below.refl _ _).alloc (Nat.le_refl _) _
  go_enter Tryd.func3, Tryd.ntmps3
  go_wp2_with fail
  refine (SZ _ b0).mono ?_
  rintro e w1 ⟨⟨z, rfl, hz⟩, c⟩
  replace b0 := b0.trans (c.mono b0.size)
  replace l0 := below_lies c l0 (lies_lt l0)
  clear c SZ
  rcases hz with rfl | ⟨hz0, _, hlen, _, hsz⟩
  · go_wp2
    go_ret
    exact ⟨rfl, b0⟩
  have hz' : ¬ (z < 0) := by omega
  have TO := TO0 hlen
  have S := S hlen hsz
  have I := I hlen hsz
  have EN := EN hlen
  clear hlen hsz TO0
  obtain ⟨q0, q1, q2, q3, q4⟩ := lies5 l0
  go_wp2_with fail
  refine (TO _ b0).mono ?_
  rintro e w2 ⟨gb, gp, gl, gf, rfl, c, hge, o2⟩
  replace b0 := b0.trans (c.mono b0.size)
  replace l0 := below_lies c l0 (lies_lt l0)
  clear c hge q0 q1 q2 q3 q4
  go_wp2_with fail
  refine (S _ _ _ _ _ o2).mono ?_
  rintro e w3 ⟨rfl, c⟩
  replace b0 := b0.trans (c.mono b0.size)
  replace l0 := below_lies c l0 (lies_lt l0)
  clear c o2 S
  obtain ⟨q0, q1, q2, q3, q4⟩ := lies5 l0
  go_wp2_with fail
  refine (TO _ b0).mono ?_
  rintro e w4 ⟨gb, gp, gl, gf, rfl, c, hge, o4⟩
  replace b0 := b0.trans (c.mono b0.size)
  replace l0 := below_lies c l0 (lies_lt l0)
  clear c hge q0 q1 q2 q3 q4
  have l8 := heap_alloc_new w4 (.cells #[.slice (some ⟨gb, 0, none⟩) nb nb, .slice (some ⟨gp, 0, none⟩) np np, .slice (some ⟨gl, 0, none⟩) nl nl, .slice (some ⟨gf, 0, none⟩) nf nf, .int .i64 P.hi] 36)
  replace o4 := o4.below ((Below.refl w4.heap.size w4).alloc (Nat.le_refl _) (.cells #[.slice (some ⟨gb, 0, none⟩) nb nb, .slice (some ⟨gp, 0, none⟩) np np, .slice (some ⟨gl, 0, none⟩) nl nl, .slice (some ⟨gf, 0, none⟩) nf nf, .int .i64 P.hi] 36)) o4.l4
  replace l0 := heap_in (o := .cells #[.slice (some ⟨gb, 0, none⟩) nb nb, .slice (some ⟨gp, 0, none⟩) np np, .slice (some ⟨gl, 0, none⟩) nl nl, .slice (some ⟨gf, 0, none⟩) nf nf, .int .i64 P.hi] 36) l0
  replace b0 := b0.alloc b0.size (.cells #[.slice (some ⟨gb, 0, none⟩) nb nb, .slice (some ⟨gp, 0, none⟩) np np, .slice (some ⟨gl, 0, none⟩) nl nl, .slice (some ⟨gf, 0, none⟩) nf nf, .int .i64 P.hi] 36)
  go_wp2_with fail
  refine (I _ (HPW.out.below b0 (Nat.le_refl _)) _ _ _ _ o4).mono ?_
  rintro e w5 ⟨rfl, c⟩
  replace b0 := b0.trans (c.mono b0.size)
  replace l0 := below_lies c l0 (lies_lt l0)
  replace l8 := below_lies c l8 (lies_lt l8)
  replace o4 := o4.below c o4.l4
  clear c I
  have HB : Hid (Below w.heap.size w w5) := b0
  have ow := o4.l4
  have k0 := both5 (Below.refl _ _) l0 l8
  clear b0
  go_wp2_with fail
  go_region_held3 (fun w' => w'.cell? ⟨w.heap.size, 0, none⟩ = some (.slice P.ba nb P.bc) ∧ w'.cell? ⟨w.heap.size, 1, none⟩ = some (.slice P.pa np P.pc) ∧ w'.cell? ⟨w.heap.size, 2, none⟩ = some (.slice P.la nl P.lc) ∧ w'.cell? ⟨w.heap.size, 3, none⟩ = some (.slice P.fa nf P.fc) ∧ w'.cell? ⟨w.heap.size, 4, none⟩ = some (.int .i64 P.hi) ∧ w'.cell? ⟨w4.heap.size, 0, none⟩ = some (.slice (some ⟨gb, 0, none⟩) nb nb) ∧ w'.cell? ⟨w4.heap.size, 1, none⟩ = some (.slice (some ⟨gp, 0, none⟩) np np) ∧ w'.cell? ⟨w4.heap.size, 2, none⟩ = some (.slice (some ⟨gl, 0, none⟩) nl nl) ∧ w'.cell? ⟨w4.heap.size, 3, none⟩ = some (.slice (some ⟨gf, 0, none⟩) nf nf) ∧ w'.cell? ⟨w4.heap.size, 4, none⟩ = some (.int .i64 P.hi))
    (first | go_keep | exact kq | exact kp | exact k0)
    ((first
      | (go_at_call 8; have hb' : Below w5.heap.size w5 u1 := ⟨hb.os, hb.tape, hb.output, hb.size, hb.block⟩; have o8 := o4.below hb' ow; go_fit (EN _ _ _ _ _ _ _ _ _ o8 o7); rintro e v1 ⟨rfl, hc⟩; have kq := both5 hc (below_lies hb l0 (lies_lt l0)) (below_lies hb l8 (lies_lt l8)))
      | (go_at_call 6; go_fit (TO _ HB.out.drew); rintro e u1 ⟨gb2, gp2, gl2, gf2, rfl, hb, hge, o7⟩; have kp := both5 hb l0 l8)
      | fail))
  all_goals
    have b3 : Below w.heap.size w v1 := (HB.out.trans (Below.mono (B := w5.heap.size) ⟨hb.os, hb.tape, hb.output, hb.size, hb.block⟩ HB.out.size)).trans (Below.mono (B := u1.heap.size) ⟨hc.os, hc.tape, hc.output, hc.size, hc.block⟩ (Nat.le_trans HB.out.size hb.size))
    clear kp kq hb hb' hc o7 o8 o4 l0 l8 HB k0
    go_wp2
    go_ret
    exact ⟨rfl, b3⟩

theorem pow_of {W : World} (h : laidMetH Tryd.prog Rows.fnExactPageTextRow.laid W) : Pow W := by
  have h1 := laidMetH.filter (fun x => x.1 == "internal/strconv.uint64pow10") h
  have e : Rows.fnExactPageTextRow.laid.filter (fun x => x.1 == "internal/strconv.uint64pow10") = [("internal/strconv.uint64pow10", Lib.tabData .u64 Lib.pow10Tab)] := by kernel_rfl
  rw [e] at h1
  exact Lib.tabIs_of_head (rest := []) pwG (by kernel_rfl) Tryd.underlying102 Tryd.underlying95 (by kernel_rfl) (by kernel_rfl) h1

theorem door_met (os : Os) (args : Array Value) : laidMetH Tryd.prog Rows.fnExactPageTextRow.laid ((World.doorLaid Tryd.prog 24 os).forCall (fun _ _ => 0) ⟨#[], args, []⟩).memory :=
  laidMetH_of_parts3 (fuel := 8) (laidMet_of_run' 8 (by kernel_rfl) (by kernel_rfl)) (by kernel_rfl) (by kernel_rfl)

set_option maxRecDepth 100000 in
theorem lifted (os : Os) (started : os.Started) (H : Type) (enc : TypeId × Value → H) :
    ReturnsInHanded {} Tryd.checked os 3 .any (fun w args => (Rows.fnExactPageTextSpec.pre enc Tryd.prog Tryd.f3 [] false w args ∧ laidMetH Tryd.prog Rows.fnExactPageTextRow.laid w) ∧ sizedMet enc Tryd.prog Tryd.f3 (OpenSpec.ofChange Rows.fnExactPageTextSpec) false w args)
      (Rows.fnExactPageTextSpec.post enc Tryd.prog Tryd.f3 false true false false) := by
  refine returnsInHanded_of_change_and (C := Tryd.checked) (X := fun w _ => laidMetH Tryd.prog Rows.fnExactPageTextRow.laid w) (fun _ _ _ hh h => h.of_heap hh) own started (by kernel_rfl) Tryd.func3
    (ChangeSpec.witness_shaped (enc := enc) (C := Tryd.checked) (os := os) (X := fun w _ => laidMetH Tryd.prog Rows.fnExactPageTextRow.laid w) false (World.doorLaid Tryd.prog 24 os) #[.agg #[.slice none 0 0, .slice none 0 0, .slice none 0 0, .slice none 0 0, .int .i64 0]] 8 rfl (World.shaped_of_RefB (by kernel_rfl) (by kernel_rfl)) (by kernel_rfl) (by kernel_rfl) (by kernel_rfl) (door_met os _)) ?_
  intro W base args ds gs before hval0 hW _ hsz0 hL _
  have hval : ∀ (j : Nat) t v, Tryd.f3.params[j]? = some t → args[j]? = some v → Value.okWide Tryd.prog W .any base t v := hval0
  have hW' := hW
  obtain ⟨p, q, hA0, hV, rfl, hfz, hnd⟩ := hW
  have hA : DataW.TrodAll enc Tryd.prog W 0 (fun _ => true) true Tryd.f3.params.toList args.toList ds p := hA0
  rw [Tryd.params3] at hA hval
  obtain ⟨v0, vs0, d0, ds0, p0, q0, hargs, rfl, rfl, h0, r0⟩ := trodAll_cons hA
  obtain ⟨rfl, rfl, rfl⟩ := trodAll_nil r0
  obtain rfl : args = #[v0] := by cases args; simp_all
  obtain ⟨rfl, rfl⟩ := trodVars_none hV
  obtain ⟨P0, rfl, r0r, l0r, s0r, t0r, n0r⟩ := open_pageR (hval 0 27 v0 rfl rfl) h0
  have lt0 : ∀ x ∈ p0, x.block < W.heap.size := by obtain ⟨m, hm⟩ := h0; exact DataW.trod_lt m _ _ _ hm
  clear hA0 hval0
  refine (walk P0 W r0r l0r s0r t0r n0r (pow_of hL)).mono fun e W' ⟨he, bel⟩ => ?_
  subst he
  exact ⟨_, rfl, _, _, _, [], _, [], hW', trodAll_mk1 (shut_bool Tryd.underlying4 _), (trodAll_cons_mk (Below.trod laidOut (by kernel_rfl) (of_decide_eq_true (by kernel_rfl)) h0 bel lt0) trodAll_mk0), rfl, bel.frame _, fun h => by cases h⟩

theorem said : Rows.FnExactPageTextSaid :=
  OpenClaim.holds_of_wide 3 Tryd.f3 rfl rfl rfl rfl rfl rfl rfl ⟨rfl, rfl, rfl, rfl, rfl⟩ rfl rfl rfl rfl rfl (by kernel_rfl) Tryd.func3 (by kernel_rfl)
    (of_decide_eq_true (by kernel_rfl)) (by unfold Func.isWrapper; first | (rw [if_pos (by decide +kernel)]; kernel_rfl) | (rw [if_neg (by decide +kernel)]; exact ⟨rfl, rfl⟩))
    (fun os started H enc _ => lifted os started H enc)

theorem plain (f : FuncId) (fn : Func) (hf : Tryd.pinned.checked.prog.funcNamed "loop.example/g00164/laws.FnExactPageText" = some f) (hfn : Tryd.pinned.checked.prog.funcs[f]? = some fn) :
    false = Tryd.pinned.checked.prog.looks [] ∧ ∀ (j : Nat) t, fn.params[j]? = some t → Tryd.pinned.checked.prog.wantsStandIn t = false := by
  obtain rfl : f = 3 := Option.some.inj ((show Tryd.prog.funcNamed "loop.example/g00164/laws.FnExactPageText" = some 3 by kernel_rfl).symm.trans hf) |>.symm
  obtain rfl : fn = Tryd.f3 := (Option.some.inj (Tryd.func3.symm.trans hfn)).symm
  refine ⟨by kernel_rfl, fun j t ht => ?_⟩
  rw [Tryd.params3] at ht
  have hm := Array.mem_of_getElem? ht
  simp at hm
  rcases hm with rfl
  exact (show Tryd.prog.wantsStandIn 27 = false by kernel_rfl)
end Go.Proofs.YtbnnpgkeggjodaaDoor.fnExactPageText
namespace Go.Proofs.YtbnnpgkeggjodaaDoor
open Go
/-- The given statement: the tied card. -/
theorem fnExactPageText_card : Rows.FnExactPageTextCardSaid :=
  Claim7.holds_tied_plain_at .later [] _ _ _ _ fnExactPageText.said (fun _ h => by cases h) (by kernel_rfl) (fun _ h => by cases h) fnExactPageText_row_tie rfl ⟨rfl, rfl⟩ (by kernel_rfl) rfl fnExactPageText.plain (by kernel_rfl)
#print axioms fnExactPageText_card
end Go.Proofs.YtbnnpgkeggjodaaDoor
