/-
  What the listed variables give: a table of strings that is laid holds its strings, cell for cell; and so for the tables that this seat's row lists.
-/
import Derived.Test.YtojdmcennpgndaaGreatDoorRows
import Derived.WalkKit
import Derived.ProofKit
import Derived.OpenShut
import Derived.Lib.LaidTab
import Derived.Lib.ItoaMem
import Derived.LaidSub
import Derived.LaidLaws
import Derived.MakeChecks
import Derived.Test.YtojdmcennpgndaaGreatDoorMRr
import Derived.Stop.LaidErr
namespace Go.Proofs.YtojdmcennpgndaaGreatDoor
open Go.ChangeShapes Go.WideShapes Go.ChangeAt Go.RowKit

/-- The datum of a table of strings. -/
def strData {H : Type} (ss : List (List UInt8)) : DataW H := .agg (ss.map fun s => .lit (.string s))
theorem cells_of_strs {H : Type} {enc : TypeId × Value → H} {P : Program} {w : World} {base : Nat} {sp : Nat → Bool} {held : Bool} {fuel : Nat} {t e : TypeId} {n : Nat} {cs : List Value} {ss : List (List UInt8)} {p : List MemPlace}
    (ht : P.underlying t = some (.array n e)) (he : P.underlying e = some .string) (hce : P.cellsOf e = 1) (hct : P.cellsOf t = n)
    (h : DataW.trod enc P w base sp held fuel t cs = some (strData ss, p)) : cs = ss.map fun s => Value.string ⟨s.toArray⟩ := by
  cases fuel with
  | zero => simp [DataW.trod] at h
  | succ fuel =>
    simp only [DataW.trod, ht, hce, hct, Nat.mul_one] at h
    split at h
    · rename_i hl
      obtain ⟨xs, hm, hx⟩ := Option.map_eq_some_iff.1 h
      have hxs : xs.map (·.1) = ss.map fun s => (DataW.lit (.string s) : DataW H) := by
        have := congrArg Prod.fst hx
        simpa [strData] using this
      have hxl : xs.length = n := by simpa using Lib.mapM_length hm
      have hzl : ss.length = n := by
        have := congrArg List.length hxs
        simp at this
        omega
      apply List.ext_getElem?
      intro i
      by_cases hi : i < n
      · obtain ⟨b, hb, hf⟩ := Lib.mapM_at hm i i (by simp [hi])
        obtain ⟨z, hc, rfl, _⟩ := DataW.trod_string he hf
        have h1 : cs[i]? = some (.string z) := by
          have := congrArg (·[0]?) hc
          simpa [List.getElem?_take, List.getElem?_drop] using this
        have h2 : (xs.map (·.1))[i]? = some (DataW.lit (.string z.data.toList) : DataW H) := by simp [hb]
        rw [hxs] at h2
        simp only [List.getElem?_map, Option.map_eq_some_iff, DataW.lit.injEq, Lit.string.injEq] at h2
        obtain ⟨z', hz', e⟩ := h2
        rw [h1, List.getElem?_map, hz', e]
        rfl
      · rw [List.getElem?_eq_none (by omega), List.getElem?_eq_none (by simp; omega)]
    · cases h
theorem strs_of_head {P : Program} {W : World} {name : String} {ss : List (List UInt8)} {rest : List (String × DataW Unit)} {g : Nat} {t e : TypeId} {n : Nat}
    (hg : P.globalNamed name = some g) (hty : (P.globals[g]?).map (·.type) = some t) (ht : P.underlying t = some (.array n e)) (he : P.underlying e = some .string) (hce : P.cellsOf e = 1) (hct : P.cellsOf t = n)
    (h : laidMet P ((name, strData ss) :: rest) W) : W.var? P name = some (ss.map fun s => Value.string ⟨s.toArray⟩).toArray := by
  obtain ⟨ps, ⟨g', t', cs, fuel, p, q, hg', ht', hvar, hd, _, _⟩, _⟩ := h
  obtain rfl := Option.some.inj (hg.symm.trans hg')
  obtain rfl := Option.some.inj (hty.symm.trans ht')
  rw [hvar, ← cells_of_strs ht he hce hct hd]

theorem lPow : Tryz.prog.globalNamed "internal/strconv.uint64pow10" = some 7 := by kernel_rfl
theorem lPowType : (Tryz.prog.globals[7]?).map (·.type) = some 158 := by kernel_rfl
theorem cellsPow : Tryz.prog.cellsOf 158 = 20 := by kernel_rfl
theorem cellsU64 : Tryz.prog.cellsOf 49 = 1 := by kernel_rfl
theorem gQuar : Tryz.prog.globalNamed "loop.example/g00164/impl.quarterTexts" = some 4 := by kernel_rfl
theorem gQuarType : (Tryz.prog.globals[4]?).map (·.type) = some 118 := by kernel_rfl
theorem cellsQuar : Tryz.prog.cellsOf 118 = 4 := by kernel_rfl
theorem cellsStr : Tryz.prog.cellsOf 9 = 1 := by kernel_rfl

theorem gUne : Tryz.prog.globalNamed "loop.example/g00164/impl.errUneven" = some 3 := by kernel_rfl
theorem gUneType : (Tryz.prog.globals[3]?).map (·.type) = some 36 := by kernel_rfl
theorem gBeyn : Tryz.prog.globalNamed "loop.example/g00164/impl.errBeyond" = some 2 := by kernel_rfl
theorem gBeynType : (Tryz.prog.globals[2]?).map (·.type) = some 36 := by kernel_rfl
set_option maxRecDepth 100000 in
theorem sentinel_cell {W : World} {name nm : String} {g : Nat} {d : DataW Unit} (hg : Tryz.prog.globalNamed name = some g) (ht : (Tryz.prog.globals[g]?).map (·.type) = some 36) (h : laidMet Tryz.prog [(name, .iface nm d)] W) :
    ∃ et ev, W.cell? ⟨g, 0, none⟩ = some (.iface et ev) := by
  obtain ⟨ps, ⟨g0, t0, cs0, f0, p0, q0, hg0, ht0, hv0, hd0, hq0, e0⟩, hnd, hrows⟩ := h
  obtain rfl := Option.some.inj (hg.symm.trans hg0)
  obtain rfl := Option.some.inj (ht.symm.trans ht0)
  obtain ⟨l0⟩ := cs0
  obtain ⟨f1, u, v, rfl, hn, h1⟩ := iface_of_trod Tryz.underlying36 hd0
  exact ⟨_, _, (World.var?_cell hg0 hv0 0).trans rfl⟩
set_option maxRecDepth 100000 in
theorem env_of {W : World} (h : laidMetH Tryz.prog Rows.fnStylesRow.laid W) : Env W := by
  refine ⟨?_, ?_, ?_, ?_⟩
  · have h1 := laidMetH.filter (fun x => x.1 == "loop.example/g00164/impl.quarterTexts") h
    have e : Rows.fnStylesRow.laid.filter (fun x => x.1 == "loop.example/g00164/impl.quarterTexts") = [("loop.example/g00164/impl.quarterTexts", strData [[], [46, 50, 53], [46, 53], [46, 55, 53]])] := by kernel_rfl
    rw [e] at h1
    have hv := strs_of_head (rest := []) gQuar gQuarType Tryz.underlying118 Tryz.underlying9 cellsStr cellsQuar h1
    have c : ∀ j, j < 4 → W.cell? ⟨4, j, none⟩ = some (.string (quarter j)) := by
      intro j hj
      have := World.var?_cell gQuar hv j
      rw [this]
      have : j = 0 ∨ j = 1 ∨ j = 2 ∨ j = 3 := by omega
      rcases this with rfl | rfl | rfl | rfl <;> rfl
    exact ⟨cell_lt (c 0 (by omega)), c⟩
  · have h1 := laidMetH.filter (fun x => x.1 == "internal/strconv.uint64pow10") h
    have e : Rows.fnStylesRow.laid.filter (fun x => x.1 == "internal/strconv.uint64pow10") = [("internal/strconv.uint64pow10", Lib.tabData .u64 Lib.pow10Tab)] := by kernel_rfl
    rw [e] at h1
    exact Lib.tabIs_of_head (rest := []) lPow lPowType Tryz.underlying158 Tryz.underlying49 cellsU64 cellsPow h1
  · have h1 := laidMetH.filter (fun x => x.1 == "loop.example/g00164/impl.errUneven") h
    have e : Rows.fnStylesRow.laid.filter (fun x => x.1 == "loop.example/g00164/impl.errUneven") = [("loop.example/g00164/impl.errUneven", Rows.laid_loop_example_g00164_impl_errUneven)] := by kernel_rfl
    rw [e, MakeChecks.laidMetH_plain _ _ _ (by kernel_rfl)] at h1
    exact sentinel_cell gUne gUneType h1
  · have h1 := laidMetH.filter (fun x => x.1 == "loop.example/g00164/impl.errBeyond") h
    have e : Rows.fnStylesRow.laid.filter (fun x => x.1 == "loop.example/g00164/impl.errBeyond") = [("loop.example/g00164/impl.errBeyond", Rows.laid_loop_example_g00164_impl_errBeyond)] := by kernel_rfl
    rw [e, MakeChecks.laidMetH_plain _ _ _ (by kernel_rfl)] at h1
    exact sentinel_cell gBeyn gBeynType h1

/-! ### The sentinels with their rows -/
theorem starES : "*" ++ "errors.errorString" = "*errors.errorString" := by decide
theorem rowES (u : TypeId) (h : Tryz.prog.typeName? 3 u = some "*errors.errorString") : u = 164 :=
  typeName_ptr_named (nm := "errors.errorString") (by rw [starES]; kernel_rfl) (by kernel_rfl) (by decide) u (by rw [starES]; exact h)
theorem cellsES : Tryz.prog.cellsOf 182 = 1 := by kernel_rfl
theorem gUns : Tryz.prog.globalNamed "loop.example/g00164/impl.errUnsaid" = some 0 := by kernel_rfl
theorem gUnsType : (Tryz.prog.globals[0]?).map (·.type) = some 36 := by kernel_rfl
theorem gUnl : Tryz.prog.globalNamed "loop.example/g00164/impl.errUnlike" = some 1 := by kernel_rfl
theorem gUnlType : (Tryz.prog.globals[1]?).map (·.type) = some 36 := by kernel_rfl
set_option maxRecDepth 100000 in
theorem sent_one {W : World} {name : String} {g : Nat} {text : List UInt8} (hg : Tryz.prog.globalNamed name = some g) (ht : (Tryz.prog.globals[g]?).map (·.type) = some 36) (h : laidMet Tryz.prog [(name, .iface "*errors.errorString" (.ptr (.agg [.lit (.string text)])))] W) :
    ∃ (a : Addr) (s : ByteArray), W.cell? ⟨g, 0, none⟩ = some (.iface 164 (.pointer (some a))) ∧ W.cell? a = some (.string s) ∧ s.data.toList = text ∧ ∃ c t, W.heap[a.block]? = some (.cells c t (0, 0)) := by
  obtain ⟨ps, ⟨g0, t0, cs0, f0, p0, q0, hg0, ht0, hv0, hd0, hq0, e0⟩, _, hrows⟩ := h
  obtain rfl := Option.some.inj (hg.symm.trans hg0)
  obtain rfl := Option.some.inj (ht.symm.trans ht0)
  subst e0
  obtain ⟨l0⟩ := cs0
  have ok0 : ∀ u v, l0 = [.iface u v] → Value.okWide Tryz.prog W .any 0 u v := fun u v e => by
    subst e
    exact (hrows g 0 (by simp [MemPlace.row])).2 u v (by simpa using World.var?_cell hg0 hv0 0)
  obtain ⟨a0, s0, rfl, hc0, hs0, hz0, rfl⟩ := errorString_of_trod Tryz.underlying36 rowES Tryz.underlying164 Tryz.underlying182 rfl rfl Tryz.underlying9 cellsES cellsStr hd0 ok0
  exact ⟨a0, s0, (World.var?_cell hg0 hv0 0).trans rfl, hc0, hs0, (hrows a0.block a0.off (by simp [MemPlace.row])).1⟩
set_option maxRecDepth 100000 in
theorem sent_of {W : World} (h : laidMetH Tryz.prog Rows.fnStylesRow.laid W) : ∃ au ab, Sent W au ab := by
  have h1 := laidMetH.filter (fun x => x.1 == "loop.example/g00164/impl.errUnsaid") h
  have e1 : Rows.fnStylesRow.laid.filter (fun x => x.1 == "loop.example/g00164/impl.errUnsaid") = [("loop.example/g00164/impl.errUnsaid", Rows.laid_loop_example_g00164_impl_errUnsaid)] := by kernel_rfl
  rw [e1, MakeChecks.laidMetH_plain _ _ _ (by kernel_rfl)] at h1
  have h2 := laidMetH.filter (fun x => x.1 == "loop.example/g00164/impl.errBeyond") h
  have e2 : Rows.fnStylesRow.laid.filter (fun x => x.1 == "loop.example/g00164/impl.errBeyond") = [("loop.example/g00164/impl.errBeyond", Rows.laid_loop_example_g00164_impl_errBeyond)] := by kernel_rfl
  rw [e2, MakeChecks.laidMetH_plain _ _ _ (by kernel_rfl)] at h2
  obtain ⟨au, su, u1, u2, u3, u4⟩ := sent_one gUns gUnsType h1
  obtain ⟨ab, sb, b1, b2, b3, b4⟩ := sent_one gBeyn gBeynType h2
  refine ⟨au, ab, u1, b1, ?_, u4, b4⟩
  rintro rfl
  rw [u2] at b2
  obtain rfl := Value.string.inj (Option.some.inj b2)
  rw [u3] at b3
  exact absurd b3 (by decide)
set_option maxRecDepth 100000 in
theorem unlike_of {W : World} (h : laidMetH Tryz.prog Rows.fnStylesRow.laid W) : ∃ et ev, W.cell? ⟨1, 0, none⟩ = some (.iface et ev) := by
  have h1 := laidMetH.filter (fun x => x.1 == "loop.example/g00164/impl.errUnlike") h
  have e : Rows.fnStylesRow.laid.filter (fun x => x.1 == "loop.example/g00164/impl.errUnlike") = [("loop.example/g00164/impl.errUnlike", Rows.laid_loop_example_g00164_impl_errUnlike)] := by kernel_rfl
  rw [e, MakeChecks.laidMetH_plain _ _ _ (by kernel_rfl)] at h1
  exact sentinel_cell gUnl gUnlType h1
theorem gErrT : Tryz.prog.globalNamed "errors.errorType" = some 6 := by kernel_rfl
theorem named_error : ((List.range Tryz.prog.types.size).all fun ty => !Tryz.prog.rowNamed ty [101, 114, 114, 111, 114] || ty == 36) = true := by kernel_rfl
set_option maxRecDepth 100000 in
theorem errT_of {W : World} (h : laidMetH Tryz.prog Rows.fnStylesRow.laid W) : ErrT W := by
  have h1 := laidMetH.filter (fun x => x.1 == "errors.errorType") h
  have e : Rows.fnStylesRow.laid.filter (fun x => x.1 == "errors.errorType") = [("errors.errorType", Rows.laid_errors_errorType)] := by kernel_rfl
  rw [e] at h1
  obtain ⟨_, h2⟩ := h1
  obtain ⟨name, u, ty, n1, n2, n3, n4, n5⟩ := h2 _ (List.mem_singleton.2 rfl)
  have e1 : name = [101, 114, 114, 111, 114] := by
    have : (Rows.laid_errors_errorType : DataW Unit).handleName? = some [101, 114, 114, 111, 114] := by kernel_rfl
    exact Option.some.inj (n1.symm.trans this)
  subst e1
  have e2 : u = 107 := by
    have : (Tryz.prog.cutTypes.find? (·.1 == "internal/reflectlite.rtype")).map (·.2) = some 107 := by kernel_rfl
    exact Option.some.inj (n2.symm.trans this)
  subst e2
  have e3 : ty = 36 := by
    have := List.all_eq_true.1 named_error ty (List.mem_range.2 n3)
    rw [n4] at this
    simpa using this
  subst e3
  have e4 : typeHandle Tryz.prog 36 = .pointer (some ⟨10, 36, none⟩) := by kernel_rfl
  rw [e4] at n5
  exact (World.var?_cell gErrT n5 0).trans rfl
open Go.ChangeShapes Go.RowKit in
/-- Three named variables, opened. -/
theorem trodVars_three {H : Type} {enc : TypeId × Value → H} {P : Program} {w : World} {spare : Nat → Bool} {n0 n1 n2 : String} {gs : List (DataW H)} {ps : List MemPlace} (h : DataW.TrodVars enc P w spare [n0, n1, n2] gs ps) : ∃ d0 d1 d2, gs = [d0, d1, d2] := by
  cases gs with
  | nil => simp [DataW.TrodVars] at h
  | cons d ds =>
    obtain ⟨g0, t0, cs0, f0, p0, q0, h1, h2, h3, h4, hs, e⟩ := h
    obtain ⟨_, _, _, _, d1, _, _, _, _, _, d2, _, rfl, _⟩ := trodVars_two hs
    exact ⟨d, d1, d2, rfl⟩
open Go.ChangeShapes Go.RowKit in
/-- Five named variables, opened. -/
theorem trodVars_five {H : Type} {enc : TypeId × Value → H} {P : Program} {w : World} {spare : Nat → Bool} {n0 n1 n2 n3 n4 : String} {gs : List (DataW H)} {ps : List MemPlace} (h : DataW.TrodVars enc P w spare [n0, n1, n2, n3, n4] gs ps) : ∃ d0 d1 d2 d3 d4, gs = [d0, d1, d2, d3, d4] := by
  cases gs with
  | nil => simp [DataW.TrodVars] at h
  | cons d ds =>
    obtain ⟨g0, t0, cs0, f0, p0, q0, h1, h2, h3, h4, hs, e⟩ := h
    cases ds with
    | nil => simp [DataW.TrodVars] at hs
    | cons d' ds =>
      obtain ⟨g0, t0, cs0, f0, p0, q0, h1, h2, h3, h4, hs, e⟩ := hs
      obtain ⟨d2, d3, d4, rfl⟩ := trodVars_three hs
      exact ⟨d, d', d2, d3, d4, rfl⟩
end Go.Proofs.YtojdmcennpgndaaGreatDoor
