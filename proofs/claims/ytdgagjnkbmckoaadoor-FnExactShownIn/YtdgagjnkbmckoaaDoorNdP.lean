/-
  The model's GoodTree, for every row of nodes: it says just what treeB says.
-/
import Derived.Test.YtdgagjnkbmckoaaDoorNdU
namespace Go.Proofs.YtdgagjnkbmckoaaDoor
open Go.ChangeShapes Go.WideShapes Go.ChangeAt Go.RowKit
set_option linter.unusedVariables false

theorem chain_len (ns : List Nd) (k : Nat) : (chainL ns k).length ≤ k + 1 := by
  induction k using Nat.strongRecOn with
  | _ k ih =>
    rw [chainL]
    split
    · rename_i h
      have := ih _ h.2
      rw [List.length_append, List.length_singleton]
      omega
    · simp
theorem okUp_mk {ns : List Nd} {k u : Nat} (h0 : 0 < k) (hT0 : isT ns 0 = false) (hs : ∀ j, j < k → okUp ns j = true) (hu : u < k) (e : upL ns k = (u : Int)) (hc : (u : Int) ∈ chainL ns (k - 1)) (ht : isT ns u = false) (hd : (chainL ns u).length < 8) : okUp ns k = true := by
  have hin : upL ns k ∈ aroundL ns k := (around_in h0 hT0 (stands_of k hs) _).2 ⟨u, hu, e, hc, ht⟩
  rw [okUp, if_neg (by omega), decide_eq_true hin]
  have hin' := hin
  rw [e] at hin'
  have hl := congrArg List.length (around_take u hin')
  rw [List.length_take] at hl
  have := idx_lt hin'
  rw [e, decide_eq_true (by omega)]
  rfl
theorem okUp_un {ns : List Nd} {k : Nat} (h0 : 0 < k) (hs : ∀ j, j < k → okUp ns j = true) (h : okUp ns k = true) : ∃ u : Nat, u < k ∧ upL ns k = (u : Int) ∧ (u : Int) ∈ chainL ns (k - 1) ∧ isT ns u = false ∧ (chainL ns u).length < 8 := by
  have st := stands_of (k + 1) (snocB (f := okUp) hs h) k (by omega)
  obtain ⟨u, hu, e, hc, ht⟩ := st.ups h0
  have hd := st.deep h0
  rw [e] at hd
  exact ⟨u, hu, e, hc, ht, by simpa using hd⟩
theorem okUp_not {ns : List Nd} {k u : Nat} (h0 : 0 < k) (hs : ∀ j, j < k → okUp ns j = true) (e : upL ns k = (u : Int)) (h : ¬ ((u : Int) ∈ chainL ns (k - 1) ∧ isT ns u = false ∧ (chainL ns u).length < 8)) : okUp ns k = false := by
  cases hq : okUp ns k
  · rfl
  · obtain ⟨u', _, e', h1, h2, h3⟩ := okUp_un h0 hs hq
    have : u' = u := by omega
    subst this
    exact absurd ⟨h1, h2, h3⟩ h
theorem okUp_far {ns : List Nd} {k : Nat} (h0 : 0 < k) (hs : ∀ j, j < k → okUp ns j = true) (h : ¬ (0 ≤ upL ns k ∧ upL ns k < (k : Int))) : okUp ns k = false := by
  cases hq : okUp ns k
  · rfl
  · obtain ⟨u', h1, e', _⟩ := okUp_un h0 hs hq
    exact absurd ⟨by omega, by omega⟩ h
theorem tree_not_up {tB : ByteArray → Bool} {sB : St → Bool} {ns : List Nd} {k : Nat} (h : k < ns.length) (hk : okUp ns k = false) : treeB tB sB ns = false := treeB_no h (by rw [okAt, hk]; rfl)
theorem tree_not_node {tB : ByteArray → Bool} {sB : St → Bool} {ns : List Nd} {k : Nat} {x : Nd} (h : k < ns.length) (hx : ns.getD k nd0 = x) (hk : okN tB sB x = false) : treeB tB sB ns = false := treeB_no h (by rw [okAt, hx, hk, Bool.and_false])
theorem okAt_mk {tB : ByteArray → Bool} {sB : St → Bool} {ns : List Nd} {k : Nat} {x : Nd} (hu : okUp ns k = true) (hx : ns.getD k nd0 = x) (hk : okN tB sB x = true) : okAt tB sB ns k = true := by rw [okAt, hx, hk, hu]; rfl
/-- One step up a chain. -/
theorem chain_up {ns : List Nd} {v : Nat} {y : Int} (st : Stands ns v) (hne : y ≠ (v : Int)) : (upL ns v = -1 ∧ y ∉ chainL ns v) ∨ ∃ p : Nat, p < v ∧ upL ns v = (p : Int) ∧ (y ∈ chainL ns v ↔ y ∈ chainL ns p) := by
  by_cases h0 : v = 0
  · left
    have e := st.top h0
    refine ⟨e, ?_⟩
    rw [chain_top (by omega), List.mem_singleton]
    exact hne
  · right
    obtain ⟨p, hp, e, _⟩ := st.ups (by omega)
    refine ⟨p, hp, e, ?_⟩
    rw [chain_in e hp, List.mem_append, List.mem_singleton]
    exact ⟨fun h => h.resolve_right hne, .inl⟩
theorem chain_up_len {ns : List Nd} {v : Nat} (st : Stands ns v) : (upL ns v = -1 ∧ (chainL ns v).length = 1) ∨ ∃ p : Nat, p < v ∧ upL ns v = (p : Int) ∧ (chainL ns v).length = (chainL ns p).length + 1 := by
  by_cases h0 : v = 0
  · left
    have e := st.top h0
    exact ⟨e, by rw [chain_top (by omega)]; rfl⟩
  · right
    obtain ⟨p, hp, e, _⟩ := st.ups (by omega)
    exact ⟨p, hp, e, by rw [chain_in e hp, List.length_append, List.length_singleton]⟩
/-- What the first inner loop holds: z is where it stands, q whether it has met u. -/
def metI (ns : List Nd) (k u : Nat) (q : Bool) (z : Int) : Prop :=
  (q = true ∧ (u : Int) ∈ chainL ns (k - 1) ∧ -1 ≤ z ∧ z < (k : Int)) ∨ (q = false ∧ z = -1 ∧ (u : Int) ∉ chainL ns (k - 1)) ∨ (q = false ∧ ∃ v : Nat, v < k ∧ z = (v : Int) ∧ ((u : Int) ∈ chainL ns (k - 1) ↔ (u : Int) ∈ chainL ns v))
theorem metI_hit {ns : List Nd} {k u : Nat} {z : Int} (h : (u : Int) ∈ chainL ns (k - 1) ↔ (u : Int) ∈ chainL ns u) (h1 : -1 ≤ z) (h2 : z < (k : Int)) : metI ns k u true z := .inl ⟨rfl, h.2 (chain_last ns u), h1, h2⟩
theorem metI_step {ns : List Nd} {k u v : Nat} (hv : v < k) (st : Stands ns v) (h : (u : Int) ∈ chainL ns (k - 1) ↔ (u : Int) ∈ chainL ns v) (hne : u ≠ v) : metI ns k u false (upL ns v) := by
  rcases chain_up st (y := (u : Int)) (by omega) with ⟨e, hn⟩ | ⟨p, hp, e, hi⟩
  · exact .inr (.inl ⟨rfl, e, fun hh => hn (h.1 hh)⟩)
  · exact .inr (.inr ⟨rfl, p, by omega, e, h.trans hi⟩)
/-- What the second one holds: d nodes are counted, z is where it stands. -/
def cntI (ns : List Nd) (k u : Nat) (d z : Int) : Prop :=
  (z = -1 ∧ d = 1 + ((chainL ns u).length : Int)) ∨ ∃ v : Nat, v < k ∧ z = (v : Int) ∧ 1 ≤ d ∧ d + ((chainL ns v).length : Int) = 1 + ((chainL ns u).length : Int)
theorem cntI_step {ns : List Nd} {k u v : Nat} {d : Int} (hv : v < k) (st : Stands ns v) (hd : 1 ≤ d) (h : d + ((chainL ns v).length : Int) = 1 + ((chainL ns u).length : Int)) : cntI ns k u (d + 1) (upL ns v) := by
  rcases chain_up_len st with ⟨e, hl⟩ | ⟨p, hp, e, hl⟩
  · exact .inl ⟨e, by omega⟩
  · exact .inr ⟨p, by omega, e, by omega, by omega⟩
theorem up_bound {ns : List Nd} {v : Nat} (st : Stands ns v) : -1 ≤ upL ns v ∧ upL ns v < (v : Int) := by
  by_cases h0 : v = 0
  · have := st.top h0; omega
  · obtain ⟨p, hp, e, _⟩ := st.ups (by omega); omega
end Go.Proofs.YtdgagjnkbmckoaaDoor
