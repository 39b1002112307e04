/-
  What the listed variables give: a table of strings that is laid holds its strings, cell for cell; and so for the tables that this seat's row lists.
-/
import Derived.Test.YtddnphgpdnedbaaDoorRows
import Derived.WalkKit
import Derived.ProofKit
import Derived.OpenShut
import Derived.Lib.LaidTab
import Derived.Lib.ItoaMem
import Derived.LaidSub
import Derived.LaidLaws
import Derived.MakeChecks
import Derived.Test.YtddnphgpdnedbaaDoorTell
namespace Go.Proofs.YtddnphgpdnedbaaDoor
open Go.ChangeShapes Go.WideShapes Go.ChangeAt Go.RowKit

/-- The datum of a table of strings. -/
def strData {H : Type} (ss : List (List UInt8)) : DataW H := .agg (ss.map fun s => .lit (.string s))
theorem cells_of_strs {H : Type} {enc : TypeId × Value → H} {P : Program} {w : World} {base : Nat} {sp : Nat → Bool} {held : Bool} {fuel : Nat} {t e : TypeId} {n : Nat} {cs : List Value} {ss : List (List UInt8)} {p : List MemPlace}
    (ht : P.underlying t = some (.array n e)) (he : P.underlying e = some .string) (hce : P.cellsOf e = 1) (hct : P.cellsOf t = n)
    (h : DataW.trod enc P w base sp held fuel t cs = some (strData ss, p)) : cs = ss.map fun s => Value.string ⟨s.toArray⟩ := by
  cases fuel with
  | zero => simp [DataW.trod] at h
  | succ fuel =>
    simp only [DataW.trod, ht, hce, hct, Nat.mul_one] at h
    split at h
    · rename_i hl
      obtain ⟨xs, hm, hx⟩ := Option.map_eq_some_iff.1 h
      have hxs : xs.map (·.1) = ss.map fun s => (DataW.lit (.string s) : DataW H) := by
        have := congrArg Prod.fst hx
        simpa [strData] using this
      have hxl : xs.length = n := by simpa using Lib.mapM_length hm
      have hzl : ss.length = n := by
        have := congrArg List.length hxs
        simp at this
        omega
      apply List.ext_getElem?
      intro i
      by_cases hi : i < n
      · obtain ⟨b, hb, hf⟩ := Lib.mapM_at hm i i (by simp [hi])
        obtain ⟨z, hc, rfl, _⟩ := DataW.trod_string he hf
        have h1 : cs[i]? = some (.string z) := by
          have := congrArg (·[0]?) hc
          simpa [List.getElem?_take, List.getElem?_drop] using this
        have h2 : (xs.map (·.1))[i]? = some (DataW.lit (.string z.data.toList) : DataW H) := by simp [hb]
        rw [hxs] at h2
        simp only [List.getElem?_map, Option.map_eq_some_iff, DataW.lit.injEq, Lit.string.injEq] at h2
        obtain ⟨z', hz', e⟩ := h2
        rw [h1, List.getElem?_map, hz', e]
        rfl
      · rw [List.getElem?_eq_none (by omega), List.getElem?_eq_none (by simp; omega)]
    · cases h
theorem strs_of_head {P : Program} {W : World} {name : String} {ss : List (List UInt8)} {rest : List (String × DataW Unit)} {g : Nat} {t e : TypeId} {n : Nat}
    (hg : P.globalNamed name = some g) (hty : (P.globals[g]?).map (·.type) = some t) (ht : P.underlying t = some (.array n e)) (he : P.underlying e = some .string) (hce : P.cellsOf e = 1) (hct : P.cellsOf t = n)
    (h : laidMet P ((name, strData ss) :: rest) W) : W.var? P name = some (ss.map fun s => Value.string ⟨s.toArray⟩).toArray := by
  obtain ⟨ps, ⟨g', t', cs, fuel, p, q, hg', ht', hvar, hd, _, _⟩, _⟩ := h
  obtain rfl := Option.some.inj (hg.symm.trans hg')
  obtain rfl := Option.some.inj (hty.symm.trans ht')
  rw [hvar, ← cells_of_strs ht he hce hct hd]

theorem lPow : Tryd.prog.globalNamed "internal/strconv.uint64pow10" = some 4 := by kernel_rfl
theorem lPowType : (Tryd.prog.globals[4]?).map (·.type) = some 134 := by kernel_rfl
theorem cellsPow : Tryd.prog.cellsOf 134 = 20 := by kernel_rfl
theorem cellsU64 : Tryd.prog.cellsOf 96 = 1 := by kernel_rfl
theorem gQuar : Tryd.prog.globalNamed "loop.example/g00164/impl.quarterTexts" = some 3 := by kernel_rfl
theorem gQuarType : (Tryd.prog.globals[3]?).map (·.type) = some 125 := by kernel_rfl
theorem cellsQuar : Tryd.prog.cellsOf 125 = 4 := by kernel_rfl
theorem cellsStr : Tryd.prog.cellsOf 9 = 1 := by kernel_rfl

theorem gUne : Tryd.prog.globalNamed "loop.example/g00164/impl.errUneven" = some 2 := by kernel_rfl
theorem gUneType : (Tryd.prog.globals[2]?).map (·.type) = some 55 := by kernel_rfl
theorem gBeyn : Tryd.prog.globalNamed "loop.example/g00164/impl.errBeyond" = some 0 := by kernel_rfl
theorem gBeynType : (Tryd.prog.globals[0]?).map (·.type) = some 55 := by kernel_rfl
set_option maxRecDepth 100000 in
theorem sentinel_cell {W : World} {name nm : String} {g : Nat} {d : DataW Unit} (hg : Tryd.prog.globalNamed name = some g) (ht : (Tryd.prog.globals[g]?).map (·.type) = some 55) (h : laidMet Tryd.prog [(name, .iface nm d)] W) :
    ∃ et ev, W.cell? ⟨g, 0, none⟩ = some (.iface et ev) := by
  obtain ⟨ps, ⟨g0, t0, cs0, f0, p0, q0, hg0, ht0, hv0, hd0, hq0, e0⟩, hnd, hrows⟩ := h
  obtain rfl := Option.some.inj (hg.symm.trans hg0)
  obtain rfl := Option.some.inj (ht.symm.trans ht0)
  obtain ⟨l0⟩ := cs0
  obtain ⟨f1, u, v, rfl, hn, h1⟩ := iface_of_trod Tryd.underlying55 hd0
  exact ⟨_, _, (World.var?_cell hg0 hv0 0).trans rfl⟩
set_option maxRecDepth 100000 in
theorem env_of {W : World} (h : laidMetH Tryd.prog Rows.fnExactTreeTextRow.laid W) : Env W := by
  refine ⟨?_, ?_, ?_, ?_⟩
  · have h1 := laidMetH.filter (fun x => x.1 == "loop.example/g00164/impl.quarterTexts") h
    have e : Rows.fnExactTreeTextRow.laid.filter (fun x => x.1 == "loop.example/g00164/impl.quarterTexts") = [("loop.example/g00164/impl.quarterTexts", strData [[], [46, 50, 53], [46, 53], [46, 55, 53]])] := by kernel_rfl
    rw [e] at h1
    have hv := strs_of_head (rest := []) gQuar gQuarType Tryd.underlying125 Tryd.underlying9 cellsStr cellsQuar h1
    have c : ∀ j, j < 4 → W.cell? ⟨3, j, none⟩ = some (.string (quarter j)) := by
      intro j hj
      have := World.var?_cell gQuar hv j
      rw [this]
      have : j = 0 ∨ j = 1 ∨ j = 2 ∨ j = 3 := by omega
      rcases this with rfl | rfl | rfl | rfl <;> rfl
    exact ⟨cell_lt (c 0 (by omega)), c⟩
  · have h1 := laidMetH.filter (fun x => x.1 == "internal/strconv.uint64pow10") h
    have e : Rows.fnExactTreeTextRow.laid.filter (fun x => x.1 == "internal/strconv.uint64pow10") = [("internal/strconv.uint64pow10", Lib.tabData .u64 Lib.pow10Tab)] := by kernel_rfl
    rw [e] at h1
    exact Lib.tabIs_of_head (rest := []) lPow lPowType Tryd.underlying134 Tryd.underlying96 cellsU64 cellsPow h1
  · have h1 := laidMetH.filter (fun x => x.1 == "loop.example/g00164/impl.errUneven") h
    have e : Rows.fnExactTreeTextRow.laid.filter (fun x => x.1 == "loop.example/g00164/impl.errUneven") = [("loop.example/g00164/impl.errUneven", Rows.laid_loop_example_g00164_impl_errUneven)] := by kernel_rfl
    rw [e, MakeChecks.laidMetH_plain _ _ _ (by kernel_rfl)] at h1
    exact sentinel_cell gUne gUneType h1
  · have h1 := laidMetH.filter (fun x => x.1 == "loop.example/g00164/impl.errBeyond") h
    have e : Rows.fnExactTreeTextRow.laid.filter (fun x => x.1 == "loop.example/g00164/impl.errBeyond") = [("loop.example/g00164/impl.errBeyond", Rows.laid_loop_example_g00164_impl_errBeyond)] := by kernel_rfl
    rw [e, MakeChecks.laidMetH_plain _ _ _ (by kernel_rfl)] at h1
    exact sentinel_cell gBeyn gBeynType h1
open Go.ChangeShapes Go.RowKit in
/-- Three named variables, opened. -/
theorem trodVars_three {H : Type} {enc : TypeId × Value → H} {P : Program} {w : World} {spare : Nat → Bool} {n0 n1 n2 : String} {gs : List (DataW H)} {ps : List MemPlace} (h : DataW.TrodVars enc P w spare [n0, n1, n2] gs ps) : ∃ d0 d1 d2, gs = [d0, d1, d2] := by
  cases gs with
  | nil => simp [DataW.TrodVars] at h
  | cons d ds =>
    obtain ⟨g0, t0, cs0, f0, p0, q0, h1, h2, h3, h4, hs, e⟩ := h
    obtain ⟨_, _, _, _, d1, _, _, _, _, _, d2, _, rfl, _⟩ := trodVars_two hs
    exact ⟨d, d1, d2, rfl⟩
end Go.Proofs.YtddnphgpdnedbaaDoor
