/-
  At every row of lines and every y LineAt answers as its model, and leaves its argument as it is. Full form, no condition.
-/
import Derived.Test.YtdkfjdjgfmabgaaLaA
import Derived.Test.YtdkfjdjgfmabgaaLnO
import Derived.ShutString
import Derived.ChangeOld
import Derived.Below
namespace Go.Proofs.Ytdkfjdjgfmabgaa.fnExactLineAt
open Go.ChangeShapes Go.WideShapes Go.ChangeAt Go.RowKit
open Go.ChangeMaps (open_string shut_string)
set_option linter.unusedVariables false

theorem own : ownKnob Try.prog.godebug = none := by kernel_rfl
theorem laidOut : laidOutB Try.prog = true := by kernel_rfl

set_option maxRecDepth 100000 in
set_option maxHeartbeats 4000000 in
theorem walk (a : Option Addr) (cap : Nat) (ns : List Ln) (y : Int) (w : World) (hr : LnRow w a ns) (hl : ns.length ≤ maxLen) (hs : ∀ x ∈ ns, x.tx.size ≤ maxLen) :
    Calls Try.prog 4 #[.slice a ns.length cap, .int .i64 y] w fun e w' => e = .returned (.bool true) ∧ Below w.heap.size w w' := by
  have SZ := szLines_any a ns.length cap ns w rfl hr hl hs
  obtain ⟨n, hn⟩ : ∃ n, n = ns.length := ⟨_, rfl⟩
  have HR : Hid (LnRow w a ns) := hr
  have HN : Hid (n = ns.length) := hn
  rw [← hn] at SZ
  rw [← hn]
  clear hr hn hl hs
  go_enter Try.func4, Try.ntmps4
  go_wp2_with fail
  refine SZ.mono ?_
  rintro e w1 ⟨⟨z, rfl, hz⟩, b1⟩
  clear SZ
  rcases hz with rfl | ⟨hz0, hlen, _⟩
  · go_wp2
    go_ret
    exact ⟨rfl, b1⟩
  have TN := fun (W : World) (h : Below w.heap.size w W) => toLines a cap ns W (HR.out.below h) hlen
  have S := fun (W : World) (g : Nat) (h : LnOwn W g n ns n) => specAt_any (some ⟨g, 0, none⟩) n n ns y W HN.out (by have h := h; rw [HN.out] at h; exact h.row) (by rw [HN.out]; exact hlen)
  have I := fun (W : World) (g : Nat) (h : LnOwn W g n ns n) => implAt_any (some ⟨g, 0, none⟩) n n ns y W HN.out (by have h := h; rw [HN.out] at h; exact h.row) (by rw [HN.out]; exact hlen)
  have EN := fun (W : World) (g g' : Nat) (h : LnOwn W g n ns n) (h' : LnOwn W g' n ns n) => eqLines (some ⟨g, 0, none⟩) (some ⟨g', 0, none⟩) n n ns W (by have h := h; rw [HN.out] at h; exact h.row) (by have h := h'; rw [HN.out] at h; exact h.row) hlen
  rw [← HN.out] at TN EN
  generalize laI ns y = r at S I
  generalize laB ns y = s at S I
  clear hlen
  have hz' : ¬ (z < 0) := by omega
  go_wp2_with fail
  refine (TN _ b1).mono ?_
  rintro e w2 ⟨rfl, c2, z2, o2⟩
  have b2 := b1.trans (c2.mono b1.size)
  clear c2
  go_wp2_with fail
  refine (S _ _ o2).mono ?_
  rintro e w3 ⟨rfl, c3⟩
  have b3 := b2.trans (c3.mono b2.size)
  clear c3 o2 z2 S
  go_wp2_with fail
  refine (TN _ b3).mono ?_
  rintro e w4 ⟨rfl, c4, z4, o4⟩
  have b4 := b3.trans (c4.mono b3.size)
  clear c4
  go_wp2_with fail
  refine (I _ _ o4).mono ?_
  rintro e w5 ⟨rfl, c5⟩
  have b5 := b4.trans (c5.mono b4.size)
  have o5 := o4.below c5 z4
  have z5 : w3.heap.size < w5.heap.size := Nat.lt_of_lt_of_le z4 c5.size
  clear c5 o4 I
  go_wp2_with fail
  refine (TN _ b5).mono ?_
  rintro e w7 ⟨rfl, c7, z7, o7⟩
  have b7 := b5.trans (c7.mono b5.size)
  have o67 := o5.below c7 z5
  clear c7 o5
  go_wp2_with fail
  refine (EN _ _ _ o67 o7).mono ?_
  rintro e w8 ⟨rfl, c8⟩
  have b8 := b7.trans (c8.mono b7.size)
  clear c8 o67 o7
  go_wp2
  go_ret
  exact ⟨rfl, b8⟩

set_option maxRecDepth 100000 in
theorem lifted (os : Os) (started : os.Started) (H : Type) (enc : TypeId × Value → H) :
    ReturnsInHanded {} Try.checked os 4 .any (Rows.fnExactLineAtSpec.pre6 enc Try.prog Try.f4 Rows.fnExactLineAtRow.domain false) (Rows.fnExactLineAtSpec.post enc Try.prog Try.f4 false true false false) := by
  refine returnsInHanded_of_change (C := Try.checked) own started (by kernel_rfl) Try.func4
    (ChangeSpec.witness6 (enc := enc) (C := Try.checked) false ⟨#[], #[.slice none 0 0, .int .i64 0], []⟩ 8 (by kernel_rfl) (by kernel_rfl) (by kernel_rfl) (by kernel_rfl)) ?_
  intro W base args ds gs before hval0 hW hcnd _
  have hval : ∀ (j : Nat) t v, Try.f4.params[j]? = some t → args[j]? = some v → Value.okWide Try.prog W .any base t v := hval0
  have hW' := hW
  obtain ⟨p, q, hA0, hV, rfl, hfz, hnd⟩ := hW
  have hA : DataW.TrodAll enc Try.prog W 0 (fun _ => true) true Try.f4.params.toList args.toList ds p := hA0
  rw [Try.params4] at hA hval
  obtain ⟨v0, vs0, d0, ds0, p0, q0, hargs, rfl, rfl, h0, r0⟩ := trodAll_cons hA
  obtain ⟨v1, vs1, d1, ds1, p1, q1, rfl, rfl, rfl, h1, r1⟩ := trodAll_cons r0
  obtain ⟨rfl, rfl, rfl⟩ := trodAll_nil r1
  obtain rfl : args = #[v0, v1] := by cases args; simp_all
  obtain ⟨rfl, rfl⟩ := trodVars_none hV
  obtain ⟨a0, cap0, ns0, rfl, r0r, l0r, s0r⟩ := open_lines (hval 0 35 v0 rfl rfl) h0
  have lt0 : ∀ x ∈ p0, x.block < W.heap.size := by obtain ⟨m, hm⟩ := h0; exact DataW.trod_lt m _ _ _ hm
  obtain ⟨a1, rfl, rfl, rfl, w1⟩ := open_int Try.underlying3 (hval 1 3 v1 rfl rfl) h1
  clear hA0 hval0
  refine (walk a0 cap0 ns0 a1 W r0r l0r s0r).mono fun e W' ⟨he, bel⟩ => ?_
  subst he
  exact ⟨_, rfl, _, _, _, [], _, [], hW', trodAll_mk1 (shut_bool Try.underlying4 _), (trodAll_cons_mk (Below.trod laidOut (by kernel_rfl) (of_decide_eq_true (by kernel_rfl)) h0 bel lt0) (trodAll_cons_mk (shut_int Try.underlying3 w1) trodAll_mk0)), rfl, bel.frame _, fun h => by cases h⟩

theorem said : Rows.FnExactLineAtSaid :=
  OpenClaim.holds_of_wide 4 Try.f4 rfl rfl rfl rfl rfl rfl rfl ⟨rfl, rfl, rfl, rfl, rfl⟩ rfl rfl rfl rfl rfl (by kernel_rfl) Try.func4 (by kernel_rfl)
    (of_decide_eq_true (by kernel_rfl)) (by unfold Func.isWrapper; first | (rw [if_pos (by decide +kernel)]; kernel_rfl) | (rw [if_neg (by decide +kernel)]; exact ⟨rfl, rfl⟩))
    (fun os started H enc _ => lifted os started H enc)
end Go.Proofs.Ytdkfjdjgfmabgaa.fnExactLineAt
namespace Go.Proofs.Ytdkfjdjgfmabgaa
open Go
/-- The given statement. -/
theorem fnExactLineAt_holds : Rows.FnExactLineAtSaid := fnExactLineAt.said
#print axioms fnExactLineAt_holds
end Go.Proofs.Ytdkfjdjgfmabgaa
