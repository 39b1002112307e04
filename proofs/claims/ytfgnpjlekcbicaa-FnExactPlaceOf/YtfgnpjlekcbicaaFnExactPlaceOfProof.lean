/-
  At every page and every number PlaceOf answers as its model, and leaves its argument as it is. Full form, no condition.
-/
import Derived.Test.YtfgnpjlekcbicaaPoA
import Derived.ShutString
import Derived.ChangeOld
import Derived.Below
namespace Go.Proofs.Ytfgnpjlekcbicaa.fnExactPlaceOf
open Go.ChangeShapes Go.WideShapes Go.ChangeAt Go.RowKit
open Go.ChangeMaps (open_string shut_string)
set_option linter.unusedVariables false

theorem own : ownKnob Try.prog.godebug = none := by kernel_rfl
theorem laidOut : laidOutB Try.prog = true := by kernel_rfl
theorem lies5 {w : World} {g : Nat} {a b c d e : Value} {t : TypeId} {fr : Nat × Nat} (h : w.heap[g]? = some (.cells #[a, b, c, d, e] t fr)) :
    w.cell? ⟨g, 0, none⟩ = some a ∧ w.cell? ⟨g, 1, none⟩ = some b ∧ w.cell? ⟨g, 2, none⟩ = some c ∧ w.cell? ⟨g, 3, none⟩ = some d ∧ w.cell? ⟨g, 4, none⟩ = some e :=
  ⟨(lies_cell h 0).trans rfl, (lies_cell h 1).trans rfl, (lies_cell h 2).trans rfl, (lies_cell h 3).trans rfl, (lies_cell h 4).trans rfl⟩
theorem lies4 {w : World} {g : Nat} {a b c d : Value} {t : TypeId} {fr : Nat × Nat} (h : w.heap[g]? = some (.cells #[a, b, c, d] t fr)) :
    w.cell? ⟨g, 0, none⟩ = some a ∧ w.cell? ⟨g, 1, none⟩ = some b ∧ w.cell? ⟨g, 2, none⟩ = some c ∧ w.cell? ⟨g, 3, none⟩ = some d :=
  ⟨(lies_cell h 0).trans rfl, (lies_cell h 1).trans rfl, (lies_cell h 2).trans rfl, (lies_cell h 3).trans rfl⟩
theorem both5 {w w' : World} {g g' : Nat} {a b c d e a' b' c' d' e' : Value} {t t' : TypeId} {fr fr' : Nat × Nat} (hb : Below w.heap.size w w') (h : w.heap[g]? = some (.cells #[a, b, c, d, e] t fr)) (h' : w.heap[g']? = some (.cells #[a', b', c', d', e'] t' fr')) :
    w'.cell? ⟨g, 0, none⟩ = some a ∧ w'.cell? ⟨g, 1, none⟩ = some b ∧ w'.cell? ⟨g, 2, none⟩ = some c ∧ w'.cell? ⟨g, 3, none⟩ = some d ∧ w'.cell? ⟨g, 4, none⟩ = some e ∧ w'.cell? ⟨g', 0, none⟩ = some a' ∧ w'.cell? ⟨g', 1, none⟩ = some b' ∧ w'.cell? ⟨g', 2, none⟩ = some c' ∧ w'.cell? ⟨g', 3, none⟩ = some d' ∧ w'.cell? ⟨g', 4, none⟩ = some e' := by
  have k := lies5 (below_lies hb h (lies_lt h))
  have k' := lies5 (below_lies hb h' (lies_lt h'))
  exact ⟨k.1, k.2.1, k.2.2.1, k.2.2.2.1, k.2.2.2.2, k'.1, k'.2.1, k'.2.2.1, k'.2.2.2.1, k'.2.2.2.2⟩

set_option maxRecDepth 100000 in
set_option maxHeartbeats 8000000 in
theorem walk (P : Pg) (node : Int) (w : World) (hr : PgRow w P) (hl : PgLen P maxLen) (hs : ∀ x ∈ P.bs, x.tx.size ≤ maxLen) (ht : ∀ x ∈ P.ls, x.tx.size ≤ maxLen) :
    Calls Try.prog 5 #[.agg #[.slice P.ba P.bs.length P.bc, .slice P.pa P.ps.length P.pc, .slice P.la P.ls.length P.lc, .slice P.fa P.fs.length P.fc, .int .i64 P.hi], .int .i64 node] w fun e w' => e = .returned (.bool true) ∧ Below w.heap.size w w' := by
  have SZ := fun (W : World) (h : Below w.heap.size w W) => szPage_any P 1048576 W (by decide) (by decide) (hr.below h) hl hs ht
  have TO0 := fun (hlen : PgLen P 1048576) (W : World) (h : Below w.heap.size w W) => toPage_any P W (hr.below h) hlen
  have S : ∀ (hlen : PgLen P 1048576) (W : World) (gb gp gl gf : Nat), PgOwn W gb gp gl gf P → Calls Try.prog 13 #[.agg #[.slice (some ⟨gb, 0, none⟩) P.bs.length P.bs.length, .slice (some ⟨gp, 0, none⟩) P.ps.length P.ps.length, .slice (some ⟨gl, 0, none⟩) P.ls.length P.ls.length, .slice (some ⟨gf, 0, none⟩) P.fs.length P.fs.length, .int .i64 P.hi], .int .i64 node] W fun e w' => e = .returned (.tuple #[.agg #[.int .i64 (poV P node).x, .int .i64 (poV P node).y, .int .i64 (poV P node).w, .int .i64 (poV P node).h], .bool (poB P node)]) ∧ Below W.heap.size W w' :=
    fun hlen W gb gp gl gf h => specPlaceOf_any (pgAt gb gp gl gf P) node W h.row ⟨hlen.lb, hlen.lp, hlen.ll, hlen.lf⟩
  have I : ∀ (hlen : PgLen P 1048576) (W : World) (gb gp gl gf : Nat), PgOwn W gb gp gl gf P → Calls Try.prog 15 #[.agg #[.slice (some ⟨gb, 0, none⟩) P.bs.length P.bs.length, .slice (some ⟨gp, 0, none⟩) P.ps.length P.ps.length, .slice (some ⟨gl, 0, none⟩) P.ls.length P.ls.length, .slice (some ⟨gf, 0, none⟩) P.fs.length P.fs.length, .int .i64 P.hi], .int .i64 node] W fun e w' => e = .returned (.tuple #[.agg #[.int .i64 (poV P node).x, .int .i64 (poV P node).y, .int .i64 (poV P node).w, .int .i64 (poV P node).h], .bool (poB P node)]) ∧ Below W.heap.size W w' :=
    fun hlen W gb gp gl gf h => implPlaceOf_any (pgAt gb gp gl gf P) node W h.row ⟨hlen.lb, hlen.lp, hlen.ll, hlen.lf⟩
  have EN : ∀ (hlen : PgLen P 1048576) (W : World) (gb gp gl gf gb' gp' gl' gf' : Nat), PgOwn W gb gp gl gf P → PgOwn W gb' gp' gl' gf' P → Calls Try.prog 17 #[.agg #[.slice (some ⟨gb, 0, none⟩) P.bs.length P.bs.length, .slice (some ⟨gp, 0, none⟩) P.ps.length P.ps.length, .slice (some ⟨gl, 0, none⟩) P.ls.length P.ls.length, .slice (some ⟨gf, 0, none⟩) P.fs.length P.fs.length, .int .i64 P.hi], .agg #[.slice (some ⟨gb', 0, none⟩) P.bs.length P.bs.length, .slice (some ⟨gp', 0, none⟩) P.ps.length P.ps.length, .slice (some ⟨gl', 0, none⟩) P.ls.length P.ls.length, .slice (some ⟨gf', 0, none⟩) P.fs.length P.fs.length, .int .i64 P.hi]] W fun e w' => e = .returned (.bool true) ∧ Below W.heap.size W w' :=
    fun hlen W gb gp gl gf gb' gp' gl' gf' h h' => eqPage_any (pgAt gb gp gl gf P) (pgAt gb' gp' gl' gf' P) W h.row h'.row rfl rfl rfl rfl rfl ⟨hlen.lb, hlen.lp, hlen.ll, hlen.lf⟩
  generalize poV P node = q at S I
  generalize poB P node = s at S I
  clear hr hl hs ht
  generalize P.bs.length = nb at SZ TO0 S I EN
  generalize P.ps.length = np at SZ TO0 S I EN
  generalize P.ls.length = nl at SZ TO0 S I EN
  generalize P.fs.length = nf at SZ TO0 S I EN
  have l0 : (w.alloc (.cells #[.slice P.ba nb P.bc, .slice P.pa np P.pc, .slice P.la nl P.lc, .slice P.fa nf P.fc, .int .i64 P.hi] 36)).heap[w.heap.size]? = some (.cells #[.slice P.ba nb P.bc, .slice P.pa np P.pc, .slice P.la nl P.lc, .slice P.fa nf P.fc, .int .i64 P.hi] 36 (0, 0)) := heap_alloc_new w _
  have b0 : Below w.heap.size w (w.alloc (.cells #[.slice P.ba nb P.bc, .slice P.pa np P.pc, .slice P.la nl P.lc, .slice P.fa nf P.fc, .int .i64 P.hi] 36)) := (Below.refl _ _).alloc (Nat.le_refl _) _
  go_enter Try.func5, Try.ntmps5
  go_wp2_with fail
  refine (SZ _ b0).mono ?_
  rintro e w1 ⟨⟨z, rfl, hz⟩, c⟩
  replace b0 := b0.trans (c.mono b0.size)
  replace l0 := below_lies c l0 (lies_lt l0)
  clear c SZ
  rcases hz with rfl | ⟨hz0, _, hlen, _, _⟩
  · go_wp2
    go_ret
    exact ⟨rfl, b0⟩
  have hz' : ¬ (z < 0) := by omega
  have TO := TO0 hlen
  have S := S hlen
  have I := I hlen
  have EN := EN hlen
  clear hlen TO0
  obtain ⟨q0, q1, q2, q3, q4⟩ := lies5 l0
  go_wp2_with fail
  refine (TO _ b0).mono ?_
  rintro e w2 ⟨gb, gp, gl, gf, rfl, c, hge, o2⟩
  replace b0 := b0.trans (c.mono b0.size)
  replace l0 := below_lies c l0 (lies_lt l0)
  clear c hge q0 q1 q2 q3 q4
  go_wp2_with fail
  refine (S _ _ _ _ _ o2).mono ?_
  rintro e w3 ⟨rfl, c⟩
  replace b0 := b0.trans (c.mono b0.size)
  replace l0 := below_lies c l0 (lies_lt l0)
  clear c o2 S
  have l6 := heap_alloc_new w3 (.cells #[.int .i64 q.x, .int .i64 q.y, .int .i64 q.w, .int .i64 q.h] 39)
  replace l0 := heap_in (o := .cells #[.int .i64 q.x, .int .i64 q.y, .int .i64 q.w, .int .i64 q.h] 39) l0
  replace b0 := b0.alloc b0.size (.cells #[.int .i64 q.x, .int .i64 q.y, .int .i64 q.w, .int .i64 q.h] 39)
  obtain ⟨q0, q1, q2, q3, q4⟩ := lies5 l0
  go_wp2_with fail
  refine (TO _ b0).mono ?_
  rintro e w4 ⟨gb, gp, gl, gf, rfl, c, hge, o4⟩
  replace b0 := b0.trans (c.mono b0.size)
  replace l0 := below_lies c l0 (lies_lt l0)
  replace l6 := below_lies c l6 (lies_lt l6)
  clear c hge q0 q1 q2 q3 q4
  have l8 := heap_alloc_new w4 (.cells #[.slice (some ⟨gb, 0, none⟩) nb nb, .slice (some ⟨gp, 0, none⟩) np np, .slice (some ⟨gl, 0, none⟩) nl nl, .slice (some ⟨gf, 0, none⟩) nf nf, .int .i64 P.hi] 47)
  replace o4 := o4.below ((Below.refl w4.heap.size w4).alloc (Nat.le_refl _) (.cells #[.slice (some ⟨gb, 0, none⟩) nb nb, .slice (some ⟨gp, 0, none⟩) np np, .slice (some ⟨gl, 0, none⟩) nl nl, .slice (some ⟨gf, 0, none⟩) nf nf, .int .i64 P.hi] 47)) o4.l4
  replace l0 := heap_in (o := .cells #[.slice (some ⟨gb, 0, none⟩) nb nb, .slice (some ⟨gp, 0, none⟩) np np, .slice (some ⟨gl, 0, none⟩) nl nl, .slice (some ⟨gf, 0, none⟩) nf nf, .int .i64 P.hi] 47) l0
  replace b0 := b0.alloc b0.size (.cells #[.slice (some ⟨gb, 0, none⟩) nb nb, .slice (some ⟨gp, 0, none⟩) np np, .slice (some ⟨gl, 0, none⟩) nl nl, .slice (some ⟨gf, 0, none⟩) nf nf, .int .i64 P.hi] 47)
  replace l6 := heap_in (o := .cells #[.slice (some ⟨gb, 0, none⟩) nb nb, .slice (some ⟨gp, 0, none⟩) np np, .slice (some ⟨gl, 0, none⟩) nl nl, .slice (some ⟨gf, 0, none⟩) nf nf, .int .i64 P.hi] 47) l6
  go_wp2_with fail
  refine (I _ _ _ _ _ o4).mono ?_
  rintro e w5 ⟨rfl, c⟩
  replace b0 := b0.trans (c.mono b0.size)
  replace l0 := below_lies c l0 (lies_lt l0)
  replace l8 := below_lies c l8 (lies_lt l8)
  replace o4 := o4.below c o4.l4
  replace l6 := below_lies c l6 (lies_lt l6)
  clear c I
  have b6 : Below w5.heap.size w5 (w5.alloc (.cells #[.int .i64 q.x, .int .i64 q.y, .int .i64 q.w, .int .i64 q.h] 39)) := (Below.refl _ _).alloc (Nat.le_refl _) _
  replace b0 := b0.trans (b6.mono b0.size)
  replace l0 := heap_in (o := .cells #[.int .i64 q.x, .int .i64 q.y, .int .i64 q.w, .int .i64 q.h] 39) l0
  replace l6 := heap_in (o := .cells #[.int .i64 q.x, .int .i64 q.y, .int .i64 q.w, .int .i64 q.h] 39) l6
  replace l8 := heap_in (o := .cells #[.int .i64 q.x, .int .i64 q.y, .int .i64 q.w, .int .i64 q.h] 39) l8
  replace o4 := o4.below b6 o4.l4
  obtain ⟨r0, r1, r2, r3⟩ := lies4 l6
  clear b6
  go_wp2_with fail
  refine (eqPlace_same q _).mono ?_
  rintro e w6 ⟨rfl, c⟩
  replace b0 := b0.trans (c.mono b0.size)
  replace l0 := below_lies c l0 (lies_lt l0)
  replace l8 := below_lies c l8 (lies_lt l8)
  replace o4 := o4.below c o4.l4
  clear c r0 r1 r2 r3 l6
  have HB : Hid (Below w.heap.size w w6) := b0
  have ow := o4.l4
  have k0 := both5 (Below.refl _ _) l0 l8
  clear b0
  go_wp2_with fail
  go_region_held3 (fun w' => w'.cell? ⟨w.heap.size, 0, none⟩ = some (.slice P.ba nb P.bc) ∧ w'.cell? ⟨w.heap.size, 1, none⟩ = some (.slice P.pa np P.pc) ∧ w'.cell? ⟨w.heap.size, 2, none⟩ = some (.slice P.la nl P.lc) ∧ w'.cell? ⟨w.heap.size, 3, none⟩ = some (.slice P.fa nf P.fc) ∧ w'.cell? ⟨w.heap.size, 4, none⟩ = some (.int .i64 P.hi) ∧ w'.cell? ⟨w4.heap.size, 0, none⟩ = some (.slice (some ⟨gb, 0, none⟩) nb nb) ∧ w'.cell? ⟨w4.heap.size, 1, none⟩ = some (.slice (some ⟨gp, 0, none⟩) np np) ∧ w'.cell? ⟨w4.heap.size, 2, none⟩ = some (.slice (some ⟨gl, 0, none⟩) nl nl) ∧ w'.cell? ⟨w4.heap.size, 3, none⟩ = some (.slice (some ⟨gf, 0, none⟩) nf nf) ∧ w'.cell? ⟨w4.heap.size, 4, none⟩ = some (.int .i64 P.hi))
    (first | go_keep | exact kq | exact kp | exact k0)
    ((first
      | (go_at_call 17; have hb' : Below w6.heap.size w6 u1 := ⟨hb.os, hb.tape, hb.output, hb.size, hb.block⟩; have o8 := o4.below hb' ow; go_fit (EN _ _ _ _ _ _ _ _ _ o8 o7); rintro e v1 ⟨rfl, hc⟩; have kq := both5 hc (below_lies hb l0 (lies_lt l0)) (below_lies hb l8 (lies_lt l8)))
      | (go_at_call 14; go_fit (TO _ HB.out.drew); rintro e u1 ⟨gb2, gp2, gl2, gf2, rfl, hb, hge, o7⟩; have kp := both5 hb l0 l8)
      | fail))
  all_goals
    have b3 : Below w.heap.size w v1 := (HB.out.trans (Below.mono (B := w6.heap.size) ⟨hb.os, hb.tape, hb.output, hb.size, hb.block⟩ HB.out.size)).trans (Below.mono (B := u1.heap.size) ⟨hc.os, hc.tape, hc.output, hc.size, hc.block⟩ (Nat.le_trans HB.out.size hb.size))
    clear kp kq hb hb' hc o7 o8 o4 l0 l8 HB k0
    go_wp2
    go_ret
    exact ⟨rfl, b3⟩

set_option maxRecDepth 100000 in
theorem lifted (os : Os) (started : os.Started) (H : Type) (enc : TypeId × Value → H) :
    ReturnsInHanded {} Try.checked os 5 .any (Rows.fnExactPlaceOfSpec.pre6 enc Try.prog Try.f5 Rows.fnExactPlaceOfRow.domain false) (Rows.fnExactPlaceOfSpec.post enc Try.prog Try.f5 false true false false) := by
  refine returnsInHanded_of_change (C := Try.checked) own started (by kernel_rfl) Try.func5
    (ChangeSpec.witness6 (enc := enc) (C := Try.checked) false ⟨#[], #[.agg #[.slice none 0 0, .slice none 0 0, .slice none 0 0, .slice none 0 0, .int .i64 0], .int .i64 0], []⟩ 8 (by kernel_rfl) (by kernel_rfl) (by kernel_rfl) (by kernel_rfl)) ?_
  intro W base args ds gs before hval0 hW hcnd _
  have hval : ∀ (j : Nat) t v, Try.f5.params[j]? = some t → args[j]? = some v → Value.okWide Try.prog W .any base t v := hval0
  have hW' := hW
  obtain ⟨p, q, hA0, hV, rfl, hfz, hnd⟩ := hW
  have hA : DataW.TrodAll enc Try.prog W 0 (fun _ => true) true Try.f5.params.toList args.toList ds p := hA0
  rw [Try.params5] at hA hval
  obtain ⟨v0, vs0, d0, ds0, p0, q0, hargs, rfl, rfl, h0, r0⟩ := trodAll_cons hA
  obtain ⟨v1, vs1, d1, ds1, p1, q1, rfl, rfl, rfl, h1, r1⟩ := trodAll_cons r0
  obtain ⟨rfl, rfl, rfl⟩ := trodAll_nil r1
  obtain rfl : args = #[v0, v1] := by cases args; simp_all
  obtain ⟨rfl, rfl⟩ := trodVars_none hV
  obtain ⟨P0, rfl, r0r, l0r, s0r, t0r⟩ := open_page (hval 0 36 v0 rfl rfl) h0
  have lt0 : ∀ x ∈ p0, x.block < W.heap.size := by obtain ⟨m, hm⟩ := h0; exact DataW.trod_lt m _ _ _ hm
  obtain ⟨a1, rfl, rfl, rfl, w1⟩ := open_int Try.underlying3 (hval 1 3 v1 rfl rfl) h1
  clear hA0 hval0
  refine (walk P0 a1 W r0r l0r s0r t0r).mono fun e W' ⟨he, bel⟩ => ?_
  subst he
  exact ⟨_, rfl, _, _, _, [], _, [], hW', trodAll_mk1 (shut_bool Try.underlying4 _), (trodAll_cons_mk (Below.trod laidOut (by kernel_rfl) (of_decide_eq_true (by kernel_rfl)) h0 bel lt0) (trodAll_cons_mk (shut_int Try.underlying3 w1) trodAll_mk0)), rfl, bel.frame _, fun h => by cases h⟩

theorem said : Rows.FnExactPlaceOfSaid :=
  OpenClaim.holds_of_wide 5 Try.f5 rfl rfl rfl rfl rfl rfl rfl ⟨rfl, rfl, rfl, rfl, rfl⟩ rfl rfl rfl rfl rfl (by kernel_rfl) Try.func5 (by kernel_rfl)
    (of_decide_eq_true (by kernel_rfl)) (by unfold Func.isWrapper; first | (rw [if_pos (by decide +kernel)]; kernel_rfl) | (rw [if_neg (by decide +kernel)]; exact ⟨rfl, rfl⟩))
    (fun os started H enc _ => lifted os started H enc)
end Go.Proofs.Ytfgnpjlekcbicaa.fnExactPlaceOf
namespace Go.Proofs.Ytfgnpjlekcbicaa
open Go
/-- The given statement. -/
theorem fnExactPlaceOf_holds : Rows.FnExactPlaceOfSaid := fnExactPlaceOf.said
#print axioms fnExactPlaceOf_holds
end Go.Proofs.Ytfgnpjlekcbicaa
