/-
  The program's readNodes: the lines of a text, one behind the other.
-/
import Derived.Test.YtddnphgpdnedbaaGreatDoorMRt
import Derived.Deep.AppendLies
import Derived.Test.YtddnphgpdnedbaaGreatDoorMTr
import Derived.Maps.AppendAt
namespace Go.Proofs.YtddnphgpdnedbaaGreatDoor
open Go.ChangeShapes Go.WideShapes Go.ChangeAt Go.RowKit Go.Shelf
set_option linter.unusedVariables false
attribute [local go_sem] Oper.semAt_some

/-- What a round of the reader holds. -/
structure RtSt (s : ByteArray) (w : World) (k : Nat) (ns : List Nd) (au : List Int) (rest : ByteArray) (vl va : Value) (W : World) : Prop where
  kk : k + rest.size ≤ s.size
  kn : ns.length = k
  al : au.length ≤ k
  ol : OwnN W w.heap.size vl ns
  oa : OwnI W w.heap.size va au
  gh : GhT s k ns au rest
  tx : ∀ x ∈ ns, x.tx.size ≤ 1048576
  bel : Below w.heap.size w W
/-- What lies between two rounds. -/
def RtI (s : ByteArray) (w : World) (r : ByteArray) (W : World) : Prop := ∃ k ns au vl va, RtSt s w k ns au r vl va W ∧ W.heap[w.heap.size]? = some (.cells #[.slice none 0 0] 22 (0, 0)) ∧ W.heap[w.heap.size + 1]? = some (.cells #[.bool false] 4 (0, 0)) ∧ W.heap[w.heap.size + 1 + 1]? = some (.cells #[vl] 22 (0, 0)) ∧ W.heap[w.heap.size + 1 + 1 + 1]? = some (.cells #[va] 28 (0, 0))
/-- The reader has given up. -/
def RtX (s : ByteArray) (w : World) (W : World) : Prop := (¬ ∃ X, RelT s X) ∧ W.heap[w.heap.size]? = some (.cells #[.slice none 0 0] 22 (0, 0)) ∧ W.heap[w.heap.size + 1]? = some (.cells #[.bool false] 4 (0, 0)) ∧ Below w.heap.size w W
theorem rtI_abides (s : ByteArray) (w : World) (B : Nat) (hB : w.heap.size ≤ B) (r : ByteArray) : AbB B (RtI s w r) := by
  rintro W W' row ⟨k, ns, au, vl, va, h, h2, h3, h4, h5⟩ hg hr
  have hr' : ∀ r, row = some r → ∃ o : Obj, W.heap[r]? = some o ∧ o.isCells = false := fun r e => (hr r e).2
  exact ⟨k, ns, au, vl, va, ⟨h.kk, h.kn, h.al, own_abides h.ol hg hr', own_abides h.oa hg hr', h.gh, h.tx, h.bel.grown hg h.bel.size (fun j e => Nat.le_trans hB (hr j e).1)⟩, lies_abides h2 hg hr', lies_abides h3 hg hr', lies_abides h4 hg hr', lies_abides h5 hg hr'⟩
theorem rtX_abides (s : ByteArray) (w : World) (B : Nat) (hB : w.heap.size ≤ B) : AbB B (RtX s w) := by
  rintro W W' row ⟨h, h2, h3, hb⟩ hg hr
  have hr' : ∀ r, row = some r → ∃ o : Obj, W.heap[r]? = some o ∧ o.isCells = false := fun r e => (hr r e).2
  exact ⟨h, lies_abides h2 hg hr', lies_abides h3 hg hr', hb.grown hg hb.size (fun j e => Nat.le_trans hB (hr j e).1)⟩
theorem rtI_put (s : ByteArray) (w : World) (q : Nat) (hq : w.heap.size + 1 + 1 + 1 < q) (r x : ByteArray) (W W2 : World) (h : RtI s w r W) (hx : QAt q x W) (hp : Put q W W2) : RtI s w r W2 := by
  obtain ⟨k, ns, au, vl, va, h, h2, h3, h4, h5⟩ := h
  exact ⟨k, ns, au, vl, va, ⟨h.kk, h.kn, h.al, nOwn_put h.ol hp (nOwn_ne h.ol hx (by decide)), nOwn_put h.oa hp (nOwn_ne h.oa hx (by decide)), h.gh, h.tx, hp.below h.bel (by omega)⟩, hp.lies h2 (by omega), hp.lies h3 (by omega), hp.lies h4 (by omega), hp.lies h5 (by omega)⟩
theorem lines_any (s : ByteArray) (w : World) :
    Calls Tryz.prog 24 #[.string s] w fun e w' => e = .returned (.func (.func 46) #[] #[.pointer (some ⟨w.heap.size, 0, none⟩)]) ∧ w' = w.alloc (.cells #[.string s] 9) := by
  go_enter Tryz.func24, Tryz.ntmps24
  go_wp2
  go_ret
  exact ⟨rfl, rfl⟩
theorem results_cell2 {fn : Func} {p u : Tmp} {ty ty' : TypeId} {a b : Addr} {x y : Value} (h : fn.results = #[.cell p ty, .cell u ty']) (tmps : Array Value) (P : Program) (w : World)
    (hp : tmps.getD p undef = .pointer (some a)) (hu : tmps.getD u undef = .pointer (some b)) (h1 : (loadVar ty a).run P w = .ok x w) (h2 : (loadVar ty' b).run P w = .ok y w) : (results fn tmps).run P w = .ok (.tuple #[x, y]) w := by
  have hp' : tmps[p]?.getD undef = .pointer (some a) := by simpa using hp
  have hu' : tmps[u]?.getD undef = .pointer (some b) := by simpa using hu
  simp [results, h, hp', hu', asAddr, h1, h2]
theorem load_plain {P : Program} {w : World} {ty : TypeId} {d : TypeDesc} {a : Addr} {v : Value} (hu : P.underlying ty = some d) (h : w.cell? a = some v) (hd : (match d with | .struct _ | .array _ _ => true | _ => false) = false := by rfl) : (loadVar ty a).run P w = .ok v w := by
  have ha : (isAgg ty).run P w = .ok false w := run_isAgg_plain hu hd w
  simp [loadVar, Sem.run_bind, ha, Result.andThen, h]
theorem rt_fix {w W : World} {D : Nat} (g2 : W.heap[w.heap.size]? = some (.cells #[.slice none 0 0] 22 (0, 0))) (g3 : W.heap[w.heap.size + 1]? = some (.cells #[.bool false] 4 (0, 0))) (hb : Below w.heap.size w W) (hD : w.heap.size + 1 < D) (hKd : W.heap[D]? = some (.deferred (some []))) :
    (W.putObj D (.deferred none)).cell? ⟨w.heap.size, 0, none⟩ = some (.slice none 0 0) ∧ (W.putObj D (.deferred none)).cell? ⟨w.heap.size + 1, 0, none⟩ = some (.bool false) ∧ Below w.heap.size w (W.putObj D (.deferred none)) :=
  have hg := grownBy_putObj' W D (.deferred none)
  have hr : ∀ r, some D = some r → ∃ o : Obj, W.heap[r]? = some o ∧ o.isCells = false := fun r e => by cases e; exact ⟨_, hKd, rfl⟩
  ⟨(lies_cell (lies_abides g2 hg hr) 0).trans rfl, (lies_cell (lies_abides g3 hg hr) 0).trans rfl, hb.grown hg hb.size (fun j e => by cases e; omega)⟩
theorem rt_fin {w W : World} {D : Nat} {v : Value} {b : Bool} {ns : List Nd} (g2 : W.heap[w.heap.size]? = some (.cells #[.slice none 0 0] 22 (0, 0))) (g3 : W.heap[w.heap.size + 1]? = some (.cells #[.bool false] 4 (0, 0))) (ho : OwnN W w.heap.size v ns) (hb : Below w.heap.size w W) (hD : w.heap.size + 1 < D) (hKd : W.heap[D]? = some (.deferred (some []))) :
    ((W.setCell ⟨w.heap.size, 0, none⟩ v).setCell ⟨w.heap.size + 1, 0, none⟩ (.bool b)).heap[D]? = some (.deferred (some [])) ∧ (((W.setCell ⟨w.heap.size, 0, none⟩ v).setCell ⟨w.heap.size + 1, 0, none⟩ (.bool b)).putObj D (.deferred none)).cell? ⟨w.heap.size, 0, none⟩ = some v ∧ (((W.setCell ⟨w.heap.size, 0, none⟩ v).setCell ⟨w.heap.size + 1, 0, none⟩ (.bool b)).putObj D (.deferred none)).cell? ⟨w.heap.size + 1, 0, none⟩ = some (.bool b) ∧ OwnN (((W.setCell ⟨w.heap.size, 0, none⟩ v).setCell ⟨w.heap.size + 1, 0, none⟩ (.bool b)).putObj D (.deferred none)) w.heap.size v ns ∧ Below w.heap.size w (((W.setCell ⟨w.heap.size, 0, none⟩ v).setCell ⟨w.heap.size + 1, 0, none⟩ (.bool b)).putObj D (.deferred none)) := by
  have p1 := put_cell W w.heap.size 0 v
  have e1 : (W.setCell ⟨w.heap.size, 0, none⟩ v).heap[w.heap.size]? = some (.cells #[v] 22 (0, 0)) := by rw [heap_setCell_same _ _ _ _ _ _ g2]; rfl
  have e2 := p1.lies g3 (by omega)
  have e3 := p1.lies hKd (by omega)
  have o1 := nOwn_put ho p1 (nOwn_ne ho g2 (by decide))
  have b1 := p1.below hb (Nat.le_refl _)
  generalize W.setCell ⟨w.heap.size, 0, none⟩ v = W1 at e1 e2 e3 o1 b1
  have p2 := put_cell W1 (w.heap.size + 1) 0 (.bool b)
  have d2 : (W1.setCell ⟨w.heap.size + 1, 0, none⟩ (.bool b)).heap[w.heap.size + 1]? = some (.cells #[.bool b] 4 (0, 0)) := by rw [heap_setCell_same _ _ _ _ _ _ e2]; rfl
  have d1 := p2.lies e1 (by omega)
  have d3 := p2.lies e3 (by omega)
  have o2 := nOwn_put o1 p2 (nOwn_ne o1 e2 (by decide))
  have b2 := p2.below b1 (by omega)
  generalize W1.setCell ⟨w.heap.size + 1, 0, none⟩ (.bool b) = W2 at d1 d2 d3 o2 b2
  have hg := grownBy_putObj' W2 D (.deferred none)
  have hr : ∀ r, some D = some r → ∃ o : Obj, W2.heap[r]? = some o ∧ o.isCells = false := fun r e => by cases e; exact ⟨_, d3, rfl⟩
  exact ⟨d3, (lies_cell (lies_abides d1 hg hr) 0).trans rfl, (lies_cell (lies_abides d2 hg hr) 0).trans rfl, own_abides o2 hg hr, b2.grown hg b2.size (fun j e => by cases e; omega)⟩
theorem rtX_make {s : ByteArray} {w W : World} (h : ¬ ∃ X, RelT s X) (g2 : W.heap[w.heap.size]? = some (.cells #[.slice none 0 0] 22 (0, 0))) (g3 : W.heap[w.heap.size + 1]? = some (.cells #[.bool false] 4 (0, 0))) (hb : Below w.heap.size w W) :
    RtX s w ((W.setCell ⟨w.heap.size, 0, none⟩ (.slice none 0 0)).setCell ⟨w.heap.size + 1, 0, none⟩ (.bool false)) := by
  refine ⟨h, ?_, ?_, (hb.setCell (p := ⟨w.heap.size, 0, none⟩) (Nat.le_refl _) _).setCell (p := ⟨w.heap.size + 1, 0, none⟩) (by show w.heap.size ≤ w.heap.size + 1; omega) _⟩
  · refine (Below.heap_setCell _ _ _ _ (by simp)).trans ?_
    rw [heap_setCell_same _ _ _ _ _ _ g2]
    rfl
  · rw [heap_setCell_same _ _ _ _ _ _ ((Below.heap_setCell _ ⟨w.heap.size, 0, none⟩ _ _ (by simp)).trans g3)]
    rfl
theorem lnOf_size (r : ByteArray) : (lnOf r).size ≤ r.size := by
  unfold lnOf
  split
  · rw [ByteArray.size_extract]
    omega
  · exact Nat.le_refl _
theorem RtC.cut {w Ws W : World} {q nb : Nat} {x : ByteArray} {cn : Array Value} {vl ul ua : Value} {ns : List Nd} {au : List Int} {aa : Option Addr} {m ca d : Nat} (h : RtC w q x Ws nb cn vl (.slice aa m ca) ul ua ns au W) (hd : d ≤ m) (hm : m = au.length) : RtC w q x Ws nb cn vl (.slice aa d ca) ul ua ns (au.take d) W :=
  ⟨h.ko, h.hq, h.g2, h.g3, h.g4, h.g5, h.nn, h.ol, OwnI.cut h.oa d hd hm, h.nl, h.bel, h.q5, h.qn⟩
/-- How readNodes ends. -/
def NodesEnd (s : ByteArray) (w : World) (e : Ending) (w' : World) : Prop :=
  ((∃ v ns, e = .returned (.tuple #[v, .bool true]) ∧ OwnN w' w.heap.size v ns ∧ (∃ k au rest, rest.size = 0 ∧ GhT s k ns au rest) ∧ ns.length ≤ s.size ∧ ∀ x ∈ ns, x.tx.size ≤ 1048576) ∨ (e = .returned (.tuple #[.slice none 0 0, .bool false]) ∧ ¬ ∃ X, RelT s X)) ∧ Below w.heap.size w w'
set_option maxRecDepth 100000 in
set_option maxHeartbeats 5000000 in
theorem readNodes_any (s : ByteArray) (w : World) (hs : s.size ≤ 3000) (E : EnvZ w) :
    Calls Tryz.prog 12 #[.string s] w fun e w' => NodesEnd s w e w' := by
  have HE : Hid (EnvZ w) := E
  clear E
  have LN := fun W => lines_any s W
  obtain ⟨i0, hi, hz0, hz1, hz2⟩ := info_parts Tryz.infoInt
  obtain ⟨j0, hj, hy0, hy1, hy2⟩ := nodeInfo
  have h2 : ((((w.alloc (.cells #[.slice none 0 0] 22)).alloc (.cells #[.bool false] 4)).alloc (.cells #[.slice none 0 0] 22)).alloc (.cells #[.slice none 0 0] 28)).heap[w.heap.size]? = some (.cells #[.slice none 0 0] 22 (0, 0)) := heap_in (heap_in (heap_in (heap_at _ _ _ rfl)))
  have h3 : ((((w.alloc (.cells #[.slice none 0 0] 22)).alloc (.cells #[.bool false] 4)).alloc (.cells #[.slice none 0 0] 22)).alloc (.cells #[.slice none 0 0] 28)).heap[w.heap.size + 1]? = some (.cells #[.bool false] 4 (0, 0)) := heap_in (heap_in (heap_at _ _ _ (by simp)))
  have h4 : ((((w.alloc (.cells #[.slice none 0 0] 22)).alloc (.cells #[.bool false] 4)).alloc (.cells #[.slice none 0 0] 22)).alloc (.cells #[.slice none 0 0] 28)).heap[w.heap.size + 1 + 1]? = some (.cells #[.slice none 0 0] 22 (0, 0)) := heap_in (heap_at _ _ _ (by simp))
  have h5 : ((((w.alloc (.cells #[.slice none 0 0] 22)).alloc (.cells #[.bool false] 4)).alloc (.cells #[.slice none 0 0] 22)).alloc (.cells #[.slice none 0 0] 28)).heap[w.heap.size + 1 + 1 + 1]? = some (.cells #[.slice none 0 0] 28 (0, 0)) := heap_at _ _ _ (by simp)
  have b0 : Below w.heap.size w ((((w.alloc (.cells #[.slice none 0 0] 22)).alloc (.cells #[.bool false] 4)).alloc (.cells #[.slice none 0 0] 22)).alloc (.cells #[.slice none 0 0] 28)) := ((((Below.refl _ _).alloc (Nat.le_refl _) _).alloc (by simp) _).alloc (by simp; omega) _).alloc (by simp; omega) _
  have hz : ((((w.alloc (.cells #[.slice none 0 0] 22)).alloc (.cells #[.bool false] 4)).alloc (.cells #[.slice none 0 0] 22)).alloc (.cells #[.slice none 0 0] 28)).heap.size = w.heap.size + 1 + 1 + 1 + 1 := by simp
  refine (callsIn_wide (n := 3)).1 ?_
  refine callsIn_of_wp_marks Tryz.func12 rfl trivial ?_ rfl
  simp only [Tryz.ntmps12, List.size_toArray, List.length_cons, List.length_nil, Nat.reduceAdd, Nat.reduceSub, Array.replicate_succ, Array.replicate_zero, List.push_toArray, List.append_toArray, List.nil_append, List.cons_append]
  gi_wp2_with fail
  refine ⟨trivial, ?_⟩
  refine (callsIn_wide.2 (LN _)).mono ?_
  rintro e w1 ⟨rfl, rfl⟩
  generalize (((w.alloc (.cells #[.slice none 0 0] 22)).alloc (.cells #[.bool false] 4)).alloc (.cells #[.slice none 0 0] 22)).alloc (.cells #[.slice none 0 0] 28) = W0 at h2 h3 h4 h5 b0 hz ⊢
  clear LN
  have HZ0 : Hid (W0.heap.size = w.heap.size + 1 + 1 + 1 + 1) := hz
  have hq0 : QAt W0.heap.size s (W0.alloc (.cells #[.string s] 9)) := heap_at _ _ _ rfl
  have hI0 : RtI s w s (W0.alloc (.cells #[.string s] 9)) := ⟨0, [], [], .slice none 0 0, .slice none 0 0, ⟨by omega, rfl, Nat.le_refl _, ownN_nil _ _, ownI_nil _ _, ghT_start s, fun x hx => by simp at hx, b0.alloc b0.size _⟩, heap_in h2, heap_in h3, heap_in h4, heap_in h5⟩
  have hsz : w.heap.size ≤ (W0.alloc (.cells #[.string s] 9)).heap.size := by have := b0.size; simp; omega
  have hqs : w.heap.size + 1 + 1 + 1 < W0.heap.size := by omega
  have HI0 : Hid (RtI s w s (W0.alloc (.cells #[.string s] 9))) := hI0
  have HB0 : Hid (Below w.heap.size w W0) := b0
  clear hz h2 h3 h4 h5 hI0 b0
  gi_wp2
  refine wpIn_lines s (by omega) rfl rfl hq0 (RtI s w) (RtX s w) (fun r => rtI_abides s w _ hsz r) (rtX_abides s w _ hsz) (fun r x W W2 => rtI_put s w _ hqs r x W W2) HI0.out (fun x => { tmps := #[.string s, undef, .pointer (some ⟨w.heap.size, 0, none⟩), .pointer (some ⟨w.heap.size + 1, 0, none⟩), .pointer (some ⟨w.heap.size + 1 + 1, 0, none⟩), .pointer (some ⟨w.heap.size + 1 + 1 + 1, 0, none⟩), .string x, undef, undef, undef, undef, .string s, .func (.func 46) #[] #[.pointer (some ⟨W0.heap.size, 0, none⟩)], .string x, undef, undef, undef, undef, undef, undef, undef, undef, undef, undef, undef, undef, undef, undef, undef, undef, undef, undef, undef, undef, undef, undef, undef, undef, undef, undef, undef, undef, undef, undef, undef, undef, undef, undef, undef, undef, undef, undef, undef, undef, undef, undef, undef, undef, undef, undef, undef], defers := [] }) ?assign ?body ?done ?stop
  case assign =>
    intro l x W K hK
    gi_wp2
    exact hK
  case body =>
    clear HI0 hq0
    rintro l r W ⟨k, ns, au, vl, va, hst, g2, g3, g4, g5⟩ hrz hrs hqW
    obtain ⟨al, cl, rfl, hrow⟩ := hst.ol.row
    obtain ⟨aa, ca, rfl, hint⟩ := hst.oa.row
    obtain ⟨d, hd, htl⟩ := lead_of (n_wholeOf r)
    have hcap : au.length ≤ ca := own_cap (show W.ownsRow w.heap.size 3 1 (.slice aa au.length ca) au.length (au.map (Value.int .i64)) from hst.oa)
    have hdl := hd.le
    have zw := n_whole_size r
    have zp := n_part_lt hrz
    have hkk := hst.kk
    have TS : ∀ W : World, Calls Tryz.prog 25 #[.string (lnOf r), .string ⟨#[10]⟩] W fun e w' => e = .returned (.string (n_wholeOf r)) ∧ w' = W := fun W => by
      have h := Tryz.strings_TrimSuffix (lnOf r) ⟨#[10]⟩ W (by have := lnOf_size r; omega)
      rw [← whole_line r]
      exact h
    have TL : ∀ W : World, Calls Tryz.prog 26 #[.string (n_wholeOf r), .string ⟨#[32]⟩] W fun e w' => e = .returned (.string ((n_wholeOf r).extract d (n_wholeOf r).size)) ∧ w' = W := fun W => by
      have h := Tryz.strings_TrimLeft_one (n_wholeOf r) 32 (by decide) W
      rw [htl] at h
      exact h
    have RN := fun W E => readNode_any ((n_wholeOf r).extract d (n_wholeOf r).size) W (by rw [ByteArray.size_extract]; omega) E
    have htw : ((n_wholeOf r).extract d (n_wholeOf r).size).size = (n_wholeOf r).size - d := by rw [ByteArray.size_extract]; omega
    have HT : Hid (cpB ((n_wholeOf r).extract d (n_wholeOf r).size) 124 = true → GhT s (k + 1) (ns ++ [⟨upD au d, cpT ((n_wholeOf r).extract d (n_wholeOf r).size) 124, z0⟩]) (au.take d) (n_partOf r)) := fun h => rt_text hst.gh hrz hd h
    have HEL : Hid (∀ Y, cpB ((n_wholeOf r).extract d (n_wholeOf r).size) 60 = true → (∀ Z, Rel (cpT ((n_wholeOf r).extract d (n_wholeOf r).size) 60) Z → Z = Y) → GhT s (k + 1) (ns ++ [⟨upD au d, ByteArray.empty, Y⟩]) (au.take d ++ [(k : Int)]) (n_partOf r)) := fun Y h hY => rt_elem hst.gh hrz hd h hY
    have HNN : Hid (cpB ((n_wholeOf r).extract d (n_wholeOf r).size) 124 = false → (cpB ((n_wholeOf r).extract d (n_wholeOf r).size) 60 = true → ¬ ∃ X, Rel (cpT ((n_wholeOf r).extract d (n_wholeOf r).size) 60) X) → ¬ ∃ X, RelT s X) := fun h1 h2 => rt_none hst.gh hrz hd h1 h2
    have HMD : Hid (au.length < d → ¬ ∃ X, RelT s X) := fun h => ghT_none hst.gh hrz hd (.inr (.inl h))
    have HCS : Hid (∀ c, (cpT ((n_wholeOf r).extract d (n_wholeOf r).size) c).size ≤ 1048576) := fun c => by have := cpT_size ((n_wholeOf r).extract d (n_wholeOf r).size) c; omega
    have HPS : Hid (k + 1 + (n_partOf r).size ≤ s.size) := by show _ ≤ _; omega
    have HTX : Hid (∀ x ∈ ns, x.tx.size ≤ 1048576) := hst.tx
    have HQW : Hid (QAt W0.heap.size (n_partOf r) W) := hqW
    have hkn1 := hst.kn
    have hal := hst.al
    have HST : Hid (OwnN W w.heap.size (.slice al ns.length cl) ns ∧ OwnI W w.heap.size (.slice aa au.length ca) au ∧ Below w.heap.size w W) := ⟨hst.ol, hst.oa, hst.bel⟩
    obtain ⟨n, hn⟩ : ∃ n, n = ns.length := ⟨_, rfl⟩
    obtain ⟨m, hm⟩ : ∃ m, m = au.length := ⟨_, rfl⟩
    have HN : Hid (n = ns.length) := hn
    have HM : Hid (m = au.length) := hm
    have hnk : n ≤ k := by omega
    have hkn : k ≤ n := by omega
    have HK : Hid (k = n) := by show k = n; omega
    rw [← hn] at g4 HST
    rw [← hm] at g5 HST hcap HMD hal
    have HG45 : Hid (W.heap[w.heap.size]? = some (.cells #[.slice none 0 0] 22 (0, 0)) ∧ W.heap[w.heap.size + 1]? = some (.cells #[.bool false] 4 (0, 0)) ∧ W.heap[w.heap.size + 1 + 1]? = some (.cells #[.slice al n cl] 22 (0, 0)) ∧ W.heap[w.heap.size + 1 + 1 + 1]? = some (.cells #[.slice aa m ca] 28 (0, 0))) := ⟨g2, g3, g4, g5⟩
    have hk3 : k ≤ 3000 := by omega
    clear hst hrow hint hd htl hqW hkn1 g2 g3 g4 g5 hn hm hkk
    generalize (n_wholeOf r).extract d (n_wholeOf r).size = tw at TL RN htw HT HEL HNN HCS
    generalize n_wholeOf r = wl at TS TL zw hdl htw
    generalize lnOf r = ln at TS
    generalize n_partOf r = pt at HT HEL HPS HQW zp ⊢
    have hdd : (wl.size : Int) - (tw.size : Int) = (d : Int) := by omega
    have hwd : wrap64 (d : Int) = (d : Int) := by unfold wrap64; omega
    clear zp hrz hrs htw
    gi_wp2_with fail
    refine ⟨trivial, ?_⟩
    refine (CallsIn.inRound l (callsIn_wide.2 (TS _))).mono ?_
    rintro e w1 ⟨rfl, hw⟩
    have hw := hw.symm
    subst hw
    clear TS
    gi_wp2_with fail
    refine ⟨trivial, ?_⟩
    refine (CallsIn.inRound l (callsIn_wide.2 (TL _))).mono ?_
    rintro e w1 ⟨rfl, hw⟩
    have hw := hw.symm
    subst hw
    clear TL
    gi_wp2_with fail
    rw [hwd]
    clear hdd hwd
    refine ⟨trivial, ?_⟩
    refine (CallsIn.inRound l (callsIn_wide.2 (RN _ (HE.out.below HST.out.2.2 (Nat.le_refl _))))).mono ?_
    rintro e w1 ⟨⟨y, b, rfl, hRN⟩, c⟩
    clear RN
    have HRN : Hid (RdN tw y b) := hRN
    clear hRN
    gi_wp2_with ((with_reducible show wpListIn _ _ _ _ _ (⟨none, Op.store 36 (Operand.tmp 9) _, _, _, _, _⟩ :: _) _ _); refine in_op rfl (by intro c hc; cases hc) (wpList_store_box rfl 36 _ _ rfl rfl (#[.int .i64 y.up, .string y.tx, .int .i64 y.st.sh, .int .i64 y.st.fl, .int .i64 y.st.cl, .bool y.st.w.a, .bool y.st.w.p, .int .i64 y.st.w.n, .bool y.st.h.a, .bool y.st.h.p, .int .i64 y.st.h.n, .int .i64 y.st.mn, .int .i64 y.st.mx, .int .i64 y.st.mt, .bool y.st.mr.a, .bool y.st.mr.p, .int .i64 y.st.mr.n, .int .i64 y.st.mb, .bool y.st.ml.a, .bool y.st.ml.p, .int .i64 y.st.ml.n, .int .i64 y.st.bo, .int .i64 y.st.pa, .int .i64 y.st.wh, .int .i64 y.st.al, .int .i64 y.st.lh, .int .i64 y.st.ri, .int .i64 y.st.dn]) rfl rfl (by kernel_rfl) rfl (by kernel_rfl) ?_); intro W4 bel4 l4 n4; refine in_nil ?_; refine stay ?_)
    have c4 : Below W.heap.size W W4 := c.trans (bel4.mono c.size)
    have rc : RtC w W0.heap.size pt W w1.heap.size (#[.int .i64 y.up, .string y.tx, .int .i64 y.st.sh, .int .i64 y.st.fl, .int .i64 y.st.cl, .bool y.st.w.a, .bool y.st.w.p, .int .i64 y.st.w.n, .bool y.st.h.a, .bool y.st.h.p, .int .i64 y.st.h.n, .int .i64 y.st.mn, .int .i64 y.st.mx, .int .i64 y.st.mt, .bool y.st.mr.a, .bool y.st.mr.p, .int .i64 y.st.mr.n, .int .i64 y.st.mb, .bool y.st.ml.a, .bool y.st.ml.p, .int .i64 y.st.ml.n, .int .i64 y.st.bo, .int .i64 y.st.pa, .int .i64 y.st.wh, .int .i64 y.st.al, .int .i64 y.st.lh, .int .i64 y.st.ri, .int .i64 y.st.dn]) (.slice al n cl) (.slice aa m ca) (.slice al n cl) (.slice aa m ca) ns au W4 :=
      ⟨ko_below c4, below_lies c4 HQW.out (lies_lt HQW.out), below_lies c4 HG45.out.1 (lies_lt HG45.out.1), below_lies c4 HG45.out.2.1 (lies_lt HG45.out.2.1), below_lies c4 HG45.out.2.2.1 (lies_lt HG45.out.2.2.1), below_lies c4 HG45.out.2.2.2 (lies_lt HG45.out.2.2.2), l4, nOwn_keep HST.out.1 c4, nOwn_keep HST.out.2.1 c4, fun e => by have := (World.ownsRow.lt HST.out.1 _ e).2; have := c.size; omega, HST.out.2.2.trans (c4.mono HST.out.2.2.size), hqs, by have := lies_lt HQW.out; have := c.size; omega⟩
    unfold Stay
    clear c bel4 l4 n4 c4 HG45
    generalize w1.heap.size = nb at rc ⊢
    cases b
    · have HNo : Hid (¬ ∃ X, RelT s X) := by
        rcases HRN.out with ⟨_, h, _⟩ | ⟨h1, ⟨_, h, _⟩ | ⟨_, h⟩⟩
        · cases h
        · cases h
        · exact HNN.out h1 h
      have RX : Hid (KeepsOthers W (((W4.setCell ⟨w.heap.size, 0, none⟩ (.slice none 0 0)).setCell ⟨w.heap.size + 1, 0, none⟩ (.bool false))) ∧ RtX s w ((W4.setCell ⟨w.heap.size, 0, none⟩ (.slice none 0 0)).setCell ⟨w.heap.size + 1, 0, none⟩ (.bool false))) :=
        ⟨(rc.ko.trans (KeepsOthers.setCell _ _ _)).trans (KeepsOthers.setCell _ _ _), rtX_make HNo.out rc.g2 rc.g3 rc.bel⟩
      have k2 : W4.cell? ⟨w.heap.size, 0, none⟩ = some (.slice none 0 0) := (lies_cell rc.g2 0).trans rfl
      have f2 : W4.frozen? ⟨w.heap.size, 0, none⟩ = false := Lib.frozen_of_heap rc.g2 0
      have k3 : W4.cell? ⟨w.heap.size + 1, 0, none⟩ = some (.bool false) := (lies_cell rc.g3 0).trans rfl
      have f3 : W4.frozen? ⟨w.heap.size + 1, 0, none⟩ = false := Lib.frozen_of_heap rc.g3 0
      clear rc
      gi_wp2
      exact RX.out
    by_cases hmd : m < d
    · have HNo : Hid (¬ ∃ X, RelT s X) := HMD.out hmd
      have hmd' : (m : Int) < (d : Int) := by omega
      have k5 : W4.cell? ⟨w.heap.size + 1 + 1 + 1, 0, none⟩ = some (.slice aa m ca) := (lies_cell rc.g5 0).trans rfl
      have RX : Hid (KeepsOthers W (((W4.setCell ⟨w.heap.size, 0, none⟩ (.slice none 0 0)).setCell ⟨w.heap.size + 1, 0, none⟩ (.bool false))) ∧ RtX s w ((W4.setCell ⟨w.heap.size, 0, none⟩ (.slice none 0 0)).setCell ⟨w.heap.size + 1, 0, none⟩ (.bool false))) :=
        ⟨(rc.ko.trans (KeepsOthers.setCell _ _ _)).trans (KeepsOthers.setCell _ _ _), rtX_make HNo.out rc.g2 rc.g3 rc.bel⟩
      have k2 : W4.cell? ⟨w.heap.size, 0, none⟩ = some (.slice none 0 0) := (lies_cell rc.g2 0).trans rfl
      have f2 : W4.frozen? ⟨w.heap.size, 0, none⟩ = false := Lib.frozen_of_heap rc.g2 0
      have k3 : W4.cell? ⟨w.heap.size + 1, 0, none⟩ = some (.bool false) := (lies_cell rc.g3 0).trans rfl
      have f3 : W4.frozen? ⟨w.heap.size + 1, 0, none⟩ = false := Lib.frozen_of_heap rc.g3 0
      clear rc
      gi_wp2
      exact RX.out
    have hmd' : ¬ ((m : Int) < (d : Int)) := by omega
    have hdm : d ≤ m := by omega
    rcases HRN.out with ⟨h124, _, hy⟩ | ⟨_, ⟨h60, _, hR, hU, hy⟩ | ⟨h, _⟩⟩
    rotate_left
    rotate_left
    · cases h
    · have HZS : Hid (zeroS y.st = true) := by show zeroS y.st = true; rw [hy]; rfl
      have HTY : Hid (y.tx.size ≤ 1048576) := by show y.tx.size ≤ 1048576; rw [hy]; exact HCS.out 124
      have HGt : Hid (GhT s (k + 1) (ns ++ [⟨upD au d, y.tx, y.st⟩]) (au.take d) pt) := by
        show GhT _ _ _ _ _
        have h := HT.out h124
        rw [hy]
        exact h
      clear HRN HT HEL HNN h124 hy
      have k5 : W4.cell? ⟨w.heap.size + 1 + 1 + 1, 0, none⟩ = some (.slice aa m ca) := (lies_cell rc.g5 0).trans rfl
      have g5 := rc.g5
      have hdc : (d : Int) ≤ (ca : Int) := by omega
      have hd0 : (0 : Int) ≤ (d : Int) := by omega
      gi_wp2_with ((with_reducible show wpListIn _ _ _ _ _ (⟨none, Op.store 28 (Operand.tmp 5) _, _, _, _, _⟩ :: _) _ _); refine in_op rfl (by intro c hc; cases hc) (wpList_putA rfl _ _ _ rfl rfl (w.heap.size + 1 + 1 + 1) 0 1 [.slice aa d ca] _ _ rfl rfl g5 rfl (by kernel_rfl) (by kernel_rfl) (by kernel_rfl) ?_); intro W5 p9 l9 n9; refine in_nil ?_; refine stay ?_)
      have rc5 : RtC w W0.heap.size pt W nb (#[.int .i64 y.up, .string y.tx, .int .i64 y.st.sh, .int .i64 y.st.fl, .int .i64 y.st.cl, .bool y.st.w.a, .bool y.st.w.p, .int .i64 y.st.w.n, .bool y.st.h.a, .bool y.st.h.p, .int .i64 y.st.h.n, .int .i64 y.st.mn, .int .i64 y.st.mx, .int .i64 y.st.mt, .bool y.st.mr.a, .bool y.st.mr.p, .int .i64 y.st.mr.n, .int .i64 y.st.mb, .bool y.st.ml.a, .bool y.st.ml.p, .int .i64 y.st.ml.n, .int .i64 y.st.bo, .int .i64 y.st.pa, .int .i64 y.st.wh, .int .i64 y.st.al, .int .i64 y.st.lh, .int .i64 y.st.ri, .int .i64 y.st.dn]) (.slice al n cl) (.slice aa d ca) (.slice al n cl) (.slice aa d ca) ns (au.take d) W5 := (rc.put5 p9 (u := .slice aa d ca) (l9.trans rfl)).cut hdm HM.out
      replace rc := rc5
      unfold Stay
      clear p9 l9 n9 g5 k5 rc5
      have nn := rc.nn
      gi_wp2_with ((with_reducible show wpListIn _ _ _ _ _ (⟨none, Op.store 3 (Operand.tmp 39) _, _, _, _, _⟩ :: _) _ _); refine in_op rfl (by intro c hc; cases hc) (wpList_putA rfl _ _ _ rfl rfl nb 0 28 [.int .i64 (-1)] _ _ rfl rfl nn rfl (by kernel_rfl) (by kernel_rfl) (by kernel_rfl) ?_); intro W6 p9 l9 n9; refine in_nil ?_; refine stay ?_)
      replace rc := rc.putn p9 (cn' := #[.int .i64 (-1), .string y.tx, .int .i64 y.st.sh, .int .i64 y.st.fl, .int .i64 y.st.cl, .bool y.st.w.a, .bool y.st.w.p, .int .i64 y.st.w.n, .bool y.st.h.a, .bool y.st.h.p, .int .i64 y.st.h.n, .int .i64 y.st.mn, .int .i64 y.st.mx, .int .i64 y.st.mt, .bool y.st.mr.a, .bool y.st.mr.p, .int .i64 y.st.mr.n, .int .i64 y.st.mb, .bool y.st.ml.a, .bool y.st.ml.p, .int .i64 y.st.ml.n, .int .i64 y.st.bo, .int .i64 y.st.pa, .int .i64 y.st.wh, .int .i64 y.st.al, .int .i64 y.st.lh, .int .i64 y.st.ri, .int .i64 y.st.dn]) (l9.trans (congrArg (fun c => some (Obj.cells c 36 (0, 0))) (show _ = (#[.int .i64 (-1), .string y.tx, .int .i64 y.st.sh, .int .i64 y.st.fl, .int .i64 y.st.cl, .bool y.st.w.a, .bool y.st.w.p, .int .i64 y.st.w.n, .bool y.st.h.a, .bool y.st.h.p, .int .i64 y.st.h.n, .int .i64 y.st.mn, .int .i64 y.st.mx, .int .i64 y.st.mt, .bool y.st.mr.a, .bool y.st.mr.p, .int .i64 y.st.mr.n, .int .i64 y.st.mb, .bool y.st.ml.a, .bool y.st.ml.p, .int .i64 y.st.ml.n, .int .i64 y.st.bo, .int .i64 y.st.pa, .int .i64 y.st.wh, .int .i64 y.st.al, .int .i64 y.st.lh, .int .i64 y.st.ri, .int .i64 y.st.dn] : Array Value) from rfl)))
      unfold Stay
      clear p9 l9 n9 nn
      cases d with
      | zero =>
        have HG : Hid _ := HGt.out
        clear HGt
        have RNn : Hid (W6.rangeAt nb 0 (ndL ⟨(-1), y.tx, y.st⟩)) := show W6.rangeAt nb 0 (#[.int .i64 (-1), .string y.tx, .int .i64 y.st.sh, .int .i64 y.st.fl, .int .i64 y.st.cl, .bool y.st.w.a, .bool y.st.w.p, .int .i64 y.st.w.n, .bool y.st.h.a, .bool y.st.h.p, .int .i64 y.st.h.n, .int .i64 y.st.mn, .int .i64 y.st.mx, .int .i64 y.st.mt, .bool y.st.mr.a, .bool y.st.mr.p, .int .i64 y.st.mr.n, .int .i64 y.st.mb, .bool y.st.ml.a, .bool y.st.ml.p, .int .i64 y.st.ml.n, .int .i64 y.st.bo, .int .i64 y.st.pa, .int .i64 y.st.wh, .int .i64 y.st.al, .int .i64 y.st.lh, .int .i64 y.st.ri, .int .i64 y.st.dn] : Array Value).toList from fun j v hj => (lies_cell rc.nn (0 + j)).trans (by rw [← hj, Nat.zero_add]; simp)
        gi_wp2_with ((with_reducible show wpListIn _ _ _ _ _ (⟨some 48, Op.load 36 _, _, _, _, _⟩ :: _) _ _); refine in_op rfl (by intro c hc; cases hc) (wpList_load_mid rfl 36 _ rfl nb 0 rfl (ndL ⟨(-1), y.tx, y.st⟩) _ RNn.out Tryz.underlying36 rfl (by kernel_rfl) ?_); refine in_nil ?_)
        refine ⟨trivial, ?_⟩
        refine (CallsIn.inRound l (callsIn_wide.2 (implIsText_any ⟨(-1), y.tx, y.st⟩ _))).mono ?_
        rintro e W8 ⟨rfl, c⟩
        replace rc := rc.below c
        clear c RNn

        have hzs : zeroS (⟨(-1), y.tx, y.st⟩ : Nd).st = true := HZS.out
        rw [hzs]
        clear hzs

        have HGN : Hid (GhT s (k + 1) (ns ++ [⟨(-1), y.tx, y.st⟩]) (au.take 0) pt) := HG.out
        have RNn : Hid (W8.rangeAt nb 0 (#[.int .i64 (-1), .string y.tx, .int .i64 y.st.sh, .int .i64 y.st.fl, .int .i64 y.st.cl, .bool y.st.w.a, .bool y.st.w.p, .int .i64 y.st.w.n, .bool y.st.h.a, .bool y.st.h.p, .int .i64 y.st.h.n, .int .i64 y.st.mn, .int .i64 y.st.mx, .int .i64 y.st.mt, .bool y.st.mr.a, .bool y.st.mr.p, .int .i64 y.st.mr.n, .int .i64 y.st.mb, .bool y.st.ml.a, .bool y.st.ml.p, .int .i64 y.st.ml.n, .int .i64 y.st.bo, .int .i64 y.st.pa, .int .i64 y.st.wh, .int .i64 y.st.al, .int .i64 y.st.lh, .int .i64 y.st.ri, .int .i64 y.st.dn] : Array Value).toList) := fun j v hj => (lies_cell rc.nn (0 + j)).trans (by rw [← hj, Nat.zero_add]; simp)
        have k4 : W8.cell? ⟨w.heap.size + 1 + 1, 0, none⟩ = some (.slice al n cl) := (lies_cell rc.g4 0).trans rfl
        have HOL : Hid (W8.ownsRow w.heap.size 36 28 (.slice al n cl) n (flatN ns)) := by show W8.ownsRow _ _ _ _ _ _; have h := rc.ol; unfold OwnN at h; rw [← HN.out] at h; exact h
        have hbs := rc.bel.size
        gi_wp2_with (first | ((with_reducible show wpListIn _ _ _ _ _ (⟨some 57, Op.load 36 _, _, _, _, _⟩ :: _) _ _); refine in_op rfl (by intro c hc; cases hc) (wpList_load_mid rfl 36 _ rfl nb 0 rfl (#[.int .i64 (-1), .string y.tx, .int .i64 y.st.sh, .int .i64 y.st.fl, .int .i64 y.st.cl, .bool y.st.w.a, .bool y.st.w.p, .int .i64 y.st.w.n, .bool y.st.h.a, .bool y.st.h.p, .int .i64 y.st.h.n, .int .i64 y.st.mn, .int .i64 y.st.mx, .int .i64 y.st.mt, .bool y.st.mr.a, .bool y.st.mr.p, .int .i64 y.st.mr.n, .int .i64 y.st.mb, .bool y.st.ml.a, .bool y.st.ml.p, .int .i64 y.st.ml.n, .int .i64 y.st.bo, .int .i64 y.st.pa, .int .i64 y.st.wh, .int .i64 y.st.al, .int .i64 y.st.lh, .int .i64 y.st.ri, .int .i64 y.st.dn] : Array Value).toList _ RNn.out Tryz.underlying36 rfl (by kernel_rfl) ?_); refine in_nil ?_) | (gi_at_builtin; refine wpListIn_append_own _ rfl (.tmp 56) (.tmp 58) 22 rfl w.heap.size 36 j0 _ 28 200 Tryz.underlying22 hj hy0 hy1 hy2 rfl (by decide) _ _ _ rfl (HOL.out.alloc _) ⟨W8.heap.size, 0, none⟩ 1 1 (#[.int .i64 (-1), .string y.tx, .int .i64 y.st.sh, .int .i64 y.st.fl, .int .i64 y.st.cl, .bool y.st.w.a, .bool y.st.w.p, .int .i64 y.st.w.n, .bool y.st.h.a, .bool y.st.h.p, .int .i64 y.st.h.n, .int .i64 y.st.mn, .int .i64 y.st.mx, .int .i64 y.st.mt, .bool y.st.mr.a, .bool y.st.mr.p, .int .i64 y.st.mr.n, .int .i64 y.st.mb, .bool y.st.ml.a, .bool y.st.ml.p, .int .i64 y.st.ml.n, .int .i64 y.st.bo, .int .i64 y.st.pa, .int .i64 y.st.wh, .int .i64 y.st.al, .int .i64 y.st.lh, .int .i64 y.st.ri, .int .i64 y.st.dn] : Array Value).toList rfl rfl (World.news_of_block (cs := #[.int .i64 (-1), .string y.tx, .int .i64 y.st.sh, .int .i64 y.st.fl, .int .i64 y.st.cl, .bool y.st.w.a, .bool y.st.w.p, .int .i64 y.st.w.n, .bool y.st.h.a, .bool y.st.h.p, .int .i64 y.st.h.n, .int .i64 y.st.mn, .int .i64 y.st.mx, .int .i64 y.st.mt, .bool y.st.mr.a, .bool y.st.mr.p, .int .i64 y.st.mr.n, .int .i64 y.st.mb, .bool y.st.ml.a, .bool y.st.ml.p, .int .i64 y.st.ml.n, .int .i64 y.st.bo, .int .i64 y.st.pa, .int .i64 y.st.wh, .int .i64 y.st.al, .int .i64 y.st.lh, .int .i64 y.st.ri, .int .i64 y.st.dn]) (heap_at _ _ _ rfl)) (one28 ⟨(-1), y.tx, y.st⟩) (by unfold maxLen; omega) (by omega) (by simp; omega) ?_; intro vb Wb hownb hgrowb _; refine stay ?_))
        have ob : OwnN Wb w.heap.size vb (ns ++ [⟨(-1), y.tx, y.st⟩]) := by unfold OwnN; rw [flatN_snoc, List.length_append, ← HN.out]; exact hownb
        obtain ⟨z1, z2, z3, z4, z5, z6, z7, z8, z9⟩ := rc.app4 hgrowb ob
        unfold Stay
        clear hownb hgrowb ob RNn k4 HOL hbs rc
        obtain ⟨lv, mv, dv, rfl⟩ : ∃ lv mv dv, vb = .slice lv mv dv := by
          obtain ⟨a', c', h'⟩ := nOwn_form z7
          exact ⟨_, _, _, h'⟩
        gi_wp2_with ((with_reducible show wpListIn _ _ _ _ _ (⟨none, Op.store 22 (Operand.tmp 4) _, _, _, _, _⟩ :: _) _ _); refine in_op rfl (by intro c hc; cases hc) (wpList_putA rfl _ _ _ rfl rfl (w.heap.size + 1 + 1) 0 1 [.slice lv mv dv] _ _ rfl rfl z5 rfl (by kernel_rfl) (by kernel_rfl) (by kernel_rfl) ?_); intro Wc p9 l9 n9; refine in_nil ?_; refine stay ?_)
        have RE : Hid (KeepsOthers W Wc ∧ Wc.heap[W0.heap.size]? = W.heap[W0.heap.size]? ∧ RtI s w pt Wc) :=
          ⟨z1.trans (ko_put p9 z5), (p9.lies z2 (by omega)).trans HQW.out.symm, k + 1, _, _, _, _, ⟨HPS.out, by rw [List.length_append, ← HN.out]; simp; omega, by (simp only [List.length_take]; omega), nOwn_put z7 p9 (nOwn_ne z7 z5 (by decide)), nOwn_put z8 p9 (nOwn_ne z8 z5 (by decide)), HGN.out, fun x hx => by rcases List.mem_append.1 hx with h | h; exact HTX.out x h; rw [List.mem_singleton.1 h]; exact HTY.out, p9.below z9 (by omega)⟩, p9.lies z3 (by omega), p9.lies z4 (by omega), l9.trans rfl, p9.lies z6 (by omega)⟩
        unfold Stay
        clear p9 l9 n9 z1 z2 z3 z4 z5 z6 z7 z8 z9
        gi_wp2
        exact RE.out
      | succ d =>
        have HG : Hid _ := HGt.out
        clear HGt
        have hlen : (au.take (d + 1)).length = d + 1 := by rw [List.length_take, ← HM.out]; omega
        obtain ⟨ga, cga, hga⟩ := nOwn_some (show W6.ownsRow w.heap.size 3 1 (.slice aa (d + 1) ca) (au.take (d + 1)).length ((au.take (d + 1)).map (Value.int .i64)) from rc.oa) (by omega)
        obtain ⟨rfl, hcg⟩ : aa = some ⟨ga, 0, none⟩ ∧ ca = cga := by
          simp only [Value.slice.injEq] at hga
          exact ⟨hga.1, hga.2.2⟩
        have kd : W6.cell? ⟨ga, d, none⟩ = some (.int .i64 (au.getD d 0)) := by
          have h0 : W6.ownsRow w.heap.size 3 1 (.slice (some ⟨ga, 0, none⟩) (d + 1) ca) (au.take (d + 1)).length ((au.take (d + 1)).map (Value.int .i64)) := rc.oa
          rw [hlen] at h0
          have h := World.ownsRow.cellAt h0 d (by omega)
          rw [h]
          have hdl : d < au.length := by rw [← HM.out]; omega
          simp [List.getD_eq_getElem?_getD, hdl]
        have k5 : W6.cell? ⟨w.heap.size + 1 + 1 + 1, 0, none⟩ = some (.slice (some ⟨ga, 0, none⟩) (d + 1) ca) := (lies_cell rc.g5 0).trans rfl
        have nn := rc.nn
        have hdp : (0 : Int) < ((d : Int) + 1) := by omega
        have hdq : ((d : Int) + 1) - 1 = (d : Int) := by omega
        clear hga hcg hlen
        gi_wp2_with ((with_reducible show wpListIn _ _ _ _ _ (⟨none, Op.store 3 (Operand.tmp 47) _, _, _, _, _⟩ :: _) _ _); refine in_op rfl (by intro c hc; cases hc) (wpList_putA rfl _ _ _ rfl rfl nb 0 28 [.int .i64 (au.getD d 0)] _ _ rfl rfl nn rfl (by kernel_rfl) (by kernel_rfl) (by kernel_rfl) ?_); intro W7 p9 l9 n9; refine in_nil ?_; refine stay ?_)
        replace rc := rc.putn p9 (cn' := #[.int .i64 (au.getD d 0), .string y.tx, .int .i64 y.st.sh, .int .i64 y.st.fl, .int .i64 y.st.cl, .bool y.st.w.a, .bool y.st.w.p, .int .i64 y.st.w.n, .bool y.st.h.a, .bool y.st.h.p, .int .i64 y.st.h.n, .int .i64 y.st.mn, .int .i64 y.st.mx, .int .i64 y.st.mt, .bool y.st.mr.a, .bool y.st.mr.p, .int .i64 y.st.mr.n, .int .i64 y.st.mb, .bool y.st.ml.a, .bool y.st.ml.p, .int .i64 y.st.ml.n, .int .i64 y.st.bo, .int .i64 y.st.pa, .int .i64 y.st.wh, .int .i64 y.st.al, .int .i64 y.st.lh, .int .i64 y.st.ri, .int .i64 y.st.dn]) (l9.trans (congrArg (fun c => some (Obj.cells c 36 (0, 0))) (show _ = (#[.int .i64 (au.getD d 0), .string y.tx, .int .i64 y.st.sh, .int .i64 y.st.fl, .int .i64 y.st.cl, .bool y.st.w.a, .bool y.st.w.p, .int .i64 y.st.w.n, .bool y.st.h.a, .bool y.st.h.p, .int .i64 y.st.h.n, .int .i64 y.st.mn, .int .i64 y.st.mx, .int .i64 y.st.mt, .bool y.st.mr.a, .bool y.st.mr.p, .int .i64 y.st.mr.n, .int .i64 y.st.mb, .bool y.st.ml.a, .bool y.st.ml.p, .int .i64 y.st.ml.n, .int .i64 y.st.bo, .int .i64 y.st.pa, .int .i64 y.st.wh, .int .i64 y.st.al, .int .i64 y.st.lh, .int .i64 y.st.ri, .int .i64 y.st.dn] : Array Value) from rfl)))
        unfold Stay
        clear p9 l9 n9 nn kd k5
        have RNn : Hid (W7.rangeAt nb 0 (ndL ⟨(au.getD d 0), y.tx, y.st⟩)) := show W7.rangeAt nb 0 (#[.int .i64 (au.getD d 0), .string y.tx, .int .i64 y.st.sh, .int .i64 y.st.fl, .int .i64 y.st.cl, .bool y.st.w.a, .bool y.st.w.p, .int .i64 y.st.w.n, .bool y.st.h.a, .bool y.st.h.p, .int .i64 y.st.h.n, .int .i64 y.st.mn, .int .i64 y.st.mx, .int .i64 y.st.mt, .bool y.st.mr.a, .bool y.st.mr.p, .int .i64 y.st.mr.n, .int .i64 y.st.mb, .bool y.st.ml.a, .bool y.st.ml.p, .int .i64 y.st.ml.n, .int .i64 y.st.bo, .int .i64 y.st.pa, .int .i64 y.st.wh, .int .i64 y.st.al, .int .i64 y.st.lh, .int .i64 y.st.ri, .int .i64 y.st.dn] : Array Value).toList from fun j v hj => (lies_cell rc.nn (0 + j)).trans (by rw [← hj, Nat.zero_add]; simp)
        gi_wp2_with ((with_reducible show wpListIn _ _ _ _ _ (⟨some 48, Op.load 36 _, _, _, _, _⟩ :: _) _ _); refine in_op rfl (by intro c hc; cases hc) (wpList_load_mid rfl 36 _ rfl nb 0 rfl (ndL ⟨(au.getD d 0), y.tx, y.st⟩) _ RNn.out Tryz.underlying36 rfl (by kernel_rfl) ?_); refine in_nil ?_)
        refine ⟨trivial, ?_⟩
        refine (CallsIn.inRound l (callsIn_wide.2 (implIsText_any ⟨(au.getD d 0), y.tx, y.st⟩ _))).mono ?_
        rintro e W8 ⟨rfl, c⟩
        replace rc := rc.below c
        clear c RNn

        have hzs : zeroS (⟨(au.getD d 0), y.tx, y.st⟩ : Nd).st = true := HZS.out
        rw [hzs]
        clear hzs

        have HGN : Hid (GhT s (k + 1) (ns ++ [⟨(au.getD d 0), y.tx, y.st⟩]) (au.take (d + 1)) pt) := HG.out
        have RNn : Hid (W8.rangeAt nb 0 (#[.int .i64 (au.getD d 0), .string y.tx, .int .i64 y.st.sh, .int .i64 y.st.fl, .int .i64 y.st.cl, .bool y.st.w.a, .bool y.st.w.p, .int .i64 y.st.w.n, .bool y.st.h.a, .bool y.st.h.p, .int .i64 y.st.h.n, .int .i64 y.st.mn, .int .i64 y.st.mx, .int .i64 y.st.mt, .bool y.st.mr.a, .bool y.st.mr.p, .int .i64 y.st.mr.n, .int .i64 y.st.mb, .bool y.st.ml.a, .bool y.st.ml.p, .int .i64 y.st.ml.n, .int .i64 y.st.bo, .int .i64 y.st.pa, .int .i64 y.st.wh, .int .i64 y.st.al, .int .i64 y.st.lh, .int .i64 y.st.ri, .int .i64 y.st.dn] : Array Value).toList) := fun j v hj => (lies_cell rc.nn (0 + j)).trans (by rw [← hj, Nat.zero_add]; simp)
        have k4 : W8.cell? ⟨w.heap.size + 1 + 1, 0, none⟩ = some (.slice al n cl) := (lies_cell rc.g4 0).trans rfl
        have HOL : Hid (W8.ownsRow w.heap.size 36 28 (.slice al n cl) n (flatN ns)) := by show W8.ownsRow _ _ _ _ _ _; have h := rc.ol; unfold OwnN at h; rw [← HN.out] at h; exact h
        have hbs := rc.bel.size
        gi_wp2_with (first | ((with_reducible show wpListIn _ _ _ _ _ (⟨some 57, Op.load 36 _, _, _, _, _⟩ :: _) _ _); refine in_op rfl (by intro c hc; cases hc) (wpList_load_mid rfl 36 _ rfl nb 0 rfl (#[.int .i64 (au.getD d 0), .string y.tx, .int .i64 y.st.sh, .int .i64 y.st.fl, .int .i64 y.st.cl, .bool y.st.w.a, .bool y.st.w.p, .int .i64 y.st.w.n, .bool y.st.h.a, .bool y.st.h.p, .int .i64 y.st.h.n, .int .i64 y.st.mn, .int .i64 y.st.mx, .int .i64 y.st.mt, .bool y.st.mr.a, .bool y.st.mr.p, .int .i64 y.st.mr.n, .int .i64 y.st.mb, .bool y.st.ml.a, .bool y.st.ml.p, .int .i64 y.st.ml.n, .int .i64 y.st.bo, .int .i64 y.st.pa, .int .i64 y.st.wh, .int .i64 y.st.al, .int .i64 y.st.lh, .int .i64 y.st.ri, .int .i64 y.st.dn] : Array Value).toList _ RNn.out Tryz.underlying36 rfl (by kernel_rfl) ?_); refine in_nil ?_) | (gi_at_builtin; refine wpListIn_append_own _ rfl (.tmp 56) (.tmp 58) 22 rfl w.heap.size 36 j0 _ 28 200 Tryz.underlying22 hj hy0 hy1 hy2 rfl (by decide) _ _ _ rfl (HOL.out.alloc _) ⟨W8.heap.size, 0, none⟩ 1 1 (#[.int .i64 (au.getD d 0), .string y.tx, .int .i64 y.st.sh, .int .i64 y.st.fl, .int .i64 y.st.cl, .bool y.st.w.a, .bool y.st.w.p, .int .i64 y.st.w.n, .bool y.st.h.a, .bool y.st.h.p, .int .i64 y.st.h.n, .int .i64 y.st.mn, .int .i64 y.st.mx, .int .i64 y.st.mt, .bool y.st.mr.a, .bool y.st.mr.p, .int .i64 y.st.mr.n, .int .i64 y.st.mb, .bool y.st.ml.a, .bool y.st.ml.p, .int .i64 y.st.ml.n, .int .i64 y.st.bo, .int .i64 y.st.pa, .int .i64 y.st.wh, .int .i64 y.st.al, .int .i64 y.st.lh, .int .i64 y.st.ri, .int .i64 y.st.dn] : Array Value).toList rfl rfl (World.news_of_block (cs := #[.int .i64 (au.getD d 0), .string y.tx, .int .i64 y.st.sh, .int .i64 y.st.fl, .int .i64 y.st.cl, .bool y.st.w.a, .bool y.st.w.p, .int .i64 y.st.w.n, .bool y.st.h.a, .bool y.st.h.p, .int .i64 y.st.h.n, .int .i64 y.st.mn, .int .i64 y.st.mx, .int .i64 y.st.mt, .bool y.st.mr.a, .bool y.st.mr.p, .int .i64 y.st.mr.n, .int .i64 y.st.mb, .bool y.st.ml.a, .bool y.st.ml.p, .int .i64 y.st.ml.n, .int .i64 y.st.bo, .int .i64 y.st.pa, .int .i64 y.st.wh, .int .i64 y.st.al, .int .i64 y.st.lh, .int .i64 y.st.ri, .int .i64 y.st.dn]) (heap_at _ _ _ rfl)) (one28 ⟨(au.getD d 0), y.tx, y.st⟩) (by unfold maxLen; omega) (by omega) (by simp; omega) ?_; intro vb Wb hownb hgrowb _; refine stay ?_))
        have ob : OwnN Wb w.heap.size vb (ns ++ [⟨(au.getD d 0), y.tx, y.st⟩]) := by unfold OwnN; rw [flatN_snoc, List.length_append, ← HN.out]; exact hownb
        obtain ⟨z1, z2, z3, z4, z5, z6, z7, z8, z9⟩ := rc.app4 hgrowb ob
        unfold Stay
        clear hownb hgrowb ob RNn k4 HOL hbs rc
        obtain ⟨lv, mv, dv, rfl⟩ : ∃ lv mv dv, vb = .slice lv mv dv := by
          obtain ⟨a', c', h'⟩ := nOwn_form z7
          exact ⟨_, _, _, h'⟩
        gi_wp2_with ((with_reducible show wpListIn _ _ _ _ _ (⟨none, Op.store 22 (Operand.tmp 4) _, _, _, _, _⟩ :: _) _ _); refine in_op rfl (by intro c hc; cases hc) (wpList_putA rfl _ _ _ rfl rfl (w.heap.size + 1 + 1) 0 1 [.slice lv mv dv] _ _ rfl rfl z5 rfl (by kernel_rfl) (by kernel_rfl) (by kernel_rfl) ?_); intro Wc p9 l9 n9; refine in_nil ?_; refine stay ?_)
        have RE : Hid (KeepsOthers W Wc ∧ Wc.heap[W0.heap.size]? = W.heap[W0.heap.size]? ∧ RtI s w pt Wc) :=
          ⟨z1.trans (ko_put p9 z5), (p9.lies z2 (by omega)).trans HQW.out.symm, k + 1, _, _, _, _, ⟨HPS.out, by rw [List.length_append, ← HN.out]; simp; omega, by (simp only [List.length_take]; omega), nOwn_put z7 p9 (nOwn_ne z7 z5 (by decide)), nOwn_put z8 p9 (nOwn_ne z8 z5 (by decide)), HGN.out, fun x hx => by rcases List.mem_append.1 hx with h | h; exact HTX.out x h; rw [List.mem_singleton.1 h]; exact HTY.out, p9.below z9 (by omega)⟩, p9.lies z3 (by omega), p9.lies z4 (by omega), l9.trans rfl, p9.lies z6 (by omega)⟩
        unfold Stay
        clear p9 l9 n9 z1 z2 z3 z4 z5 z6 z7 z8 z9
        gi_wp2
        exact RE.out
    · have HZS : Hid (zeroS y.st = false) := rel_elem hR
      have HTY : Hid (y.tx.size ≤ 1048576) := by show y.tx.size ≤ 1048576; rw [hy]; exact Nat.zero_le _
      have HGt : Hid (GhT s (k + 1) (ns ++ [⟨upD au d, y.tx, y.st⟩]) (au.take d ++ [(n : Int)]) pt) := by
        show GhT _ _ _ _ _
        have h := HEL.out y.st h60 hU
        rw [HK.out] at h
        rw [HK.out]
        have e : y.tx = ByteArray.empty := by rw [hy]
        rw [e]
        exact h
      clear HRN HT HEL HNN h60 hR hU hy
      have k5 : W4.cell? ⟨w.heap.size + 1 + 1 + 1, 0, none⟩ = some (.slice aa m ca) := (lies_cell rc.g5 0).trans rfl
      have g5 := rc.g5
      have hdc : (d : Int) ≤ (ca : Int) := by omega
      have hd0 : (0 : Int) ≤ (d : Int) := by omega
      gi_wp2_with ((with_reducible show wpListIn _ _ _ _ _ (⟨none, Op.store 28 (Operand.tmp 5) _, _, _, _, _⟩ :: _) _ _); refine in_op rfl (by intro c hc; cases hc) (wpList_putA rfl _ _ _ rfl rfl (w.heap.size + 1 + 1 + 1) 0 1 [.slice aa d ca] _ _ rfl rfl g5 rfl (by kernel_rfl) (by kernel_rfl) (by kernel_rfl) ?_); intro W5 p9 l9 n9; refine in_nil ?_; refine stay ?_)
      have rc5 : RtC w W0.heap.size pt W nb (#[.int .i64 y.up, .string y.tx, .int .i64 y.st.sh, .int .i64 y.st.fl, .int .i64 y.st.cl, .bool y.st.w.a, .bool y.st.w.p, .int .i64 y.st.w.n, .bool y.st.h.a, .bool y.st.h.p, .int .i64 y.st.h.n, .int .i64 y.st.mn, .int .i64 y.st.mx, .int .i64 y.st.mt, .bool y.st.mr.a, .bool y.st.mr.p, .int .i64 y.st.mr.n, .int .i64 y.st.mb, .bool y.st.ml.a, .bool y.st.ml.p, .int .i64 y.st.ml.n, .int .i64 y.st.bo, .int .i64 y.st.pa, .int .i64 y.st.wh, .int .i64 y.st.al, .int .i64 y.st.lh, .int .i64 y.st.ri, .int .i64 y.st.dn]) (.slice al n cl) (.slice aa d ca) (.slice al n cl) (.slice aa d ca) ns (au.take d) W5 := (rc.put5 p9 (u := .slice aa d ca) (l9.trans rfl)).cut hdm HM.out
      replace rc := rc5
      unfold Stay
      clear p9 l9 n9 g5 k5 rc5
      have nn := rc.nn
      gi_wp2_with ((with_reducible show wpListIn _ _ _ _ _ (⟨none, Op.store 3 (Operand.tmp 39) _, _, _, _, _⟩ :: _) _ _); refine in_op rfl (by intro c hc; cases hc) (wpList_putA rfl _ _ _ rfl rfl nb 0 28 [.int .i64 (-1)] _ _ rfl rfl nn rfl (by kernel_rfl) (by kernel_rfl) (by kernel_rfl) ?_); intro W6 p9 l9 n9; refine in_nil ?_; refine stay ?_)
      replace rc := rc.putn p9 (cn' := #[.int .i64 (-1), .string y.tx, .int .i64 y.st.sh, .int .i64 y.st.fl, .int .i64 y.st.cl, .bool y.st.w.a, .bool y.st.w.p, .int .i64 y.st.w.n, .bool y.st.h.a, .bool y.st.h.p, .int .i64 y.st.h.n, .int .i64 y.st.mn, .int .i64 y.st.mx, .int .i64 y.st.mt, .bool y.st.mr.a, .bool y.st.mr.p, .int .i64 y.st.mr.n, .int .i64 y.st.mb, .bool y.st.ml.a, .bool y.st.ml.p, .int .i64 y.st.ml.n, .int .i64 y.st.bo, .int .i64 y.st.pa, .int .i64 y.st.wh, .int .i64 y.st.al, .int .i64 y.st.lh, .int .i64 y.st.ri, .int .i64 y.st.dn]) (l9.trans (congrArg (fun c => some (Obj.cells c 36 (0, 0))) (show _ = (#[.int .i64 (-1), .string y.tx, .int .i64 y.st.sh, .int .i64 y.st.fl, .int .i64 y.st.cl, .bool y.st.w.a, .bool y.st.w.p, .int .i64 y.st.w.n, .bool y.st.h.a, .bool y.st.h.p, .int .i64 y.st.h.n, .int .i64 y.st.mn, .int .i64 y.st.mx, .int .i64 y.st.mt, .bool y.st.mr.a, .bool y.st.mr.p, .int .i64 y.st.mr.n, .int .i64 y.st.mb, .bool y.st.ml.a, .bool y.st.ml.p, .int .i64 y.st.ml.n, .int .i64 y.st.bo, .int .i64 y.st.pa, .int .i64 y.st.wh, .int .i64 y.st.al, .int .i64 y.st.lh, .int .i64 y.st.ri, .int .i64 y.st.dn] : Array Value) from rfl)))
      unfold Stay
      clear p9 l9 n9 nn
      cases d with
      | zero =>
        have HG : Hid _ := HGt.out
        clear HGt
        have RNn : Hid (W6.rangeAt nb 0 (ndL ⟨(-1), y.tx, y.st⟩)) := show W6.rangeAt nb 0 (#[.int .i64 (-1), .string y.tx, .int .i64 y.st.sh, .int .i64 y.st.fl, .int .i64 y.st.cl, .bool y.st.w.a, .bool y.st.w.p, .int .i64 y.st.w.n, .bool y.st.h.a, .bool y.st.h.p, .int .i64 y.st.h.n, .int .i64 y.st.mn, .int .i64 y.st.mx, .int .i64 y.st.mt, .bool y.st.mr.a, .bool y.st.mr.p, .int .i64 y.st.mr.n, .int .i64 y.st.mb, .bool y.st.ml.a, .bool y.st.ml.p, .int .i64 y.st.ml.n, .int .i64 y.st.bo, .int .i64 y.st.pa, .int .i64 y.st.wh, .int .i64 y.st.al, .int .i64 y.st.lh, .int .i64 y.st.ri, .int .i64 y.st.dn] : Array Value).toList from fun j v hj => (lies_cell rc.nn (0 + j)).trans (by rw [← hj, Nat.zero_add]; simp)
        gi_wp2_with ((with_reducible show wpListIn _ _ _ _ _ (⟨some 48, Op.load 36 _, _, _, _, _⟩ :: _) _ _); refine in_op rfl (by intro c hc; cases hc) (wpList_load_mid rfl 36 _ rfl nb 0 rfl (ndL ⟨(-1), y.tx, y.st⟩) _ RNn.out Tryz.underlying36 rfl (by kernel_rfl) ?_); refine in_nil ?_)
        refine ⟨trivial, ?_⟩
        refine (CallsIn.inRound l (callsIn_wide.2 (implIsText_any ⟨(-1), y.tx, y.st⟩ _))).mono ?_
        rintro e W8 ⟨rfl, c⟩
        replace rc := rc.below c
        clear c RNn

        have hzs : zeroS (⟨(-1), y.tx, y.st⟩ : Nd).st = false := HZS.out
        rw [hzs]
        clear hzs
        have k5 : W8.cell? ⟨w.heap.size + 1 + 1 + 1, 0, none⟩ = some (.slice aa 0 ca) := (lies_cell rc.g5 0).trans rfl
        have k4 : W8.cell? ⟨w.heap.size + 1 + 1, 0, none⟩ = some (.slice al n cl) := (lies_cell rc.g4 0).trans rfl
        have oa5 : W8.ownsRow w.heap.size 3 1 (.slice aa 0 ca) (au.take 0).length ((au.take 0).map (Value.int .i64)) := rc.oa
        have htl : (au.take 0).length ≤ 3000 := by rw [List.length_take]; omega
        have hbs := rc.bel.size
        gi_wp2_with (gi_at_builtin; refine wpListIn_append_own _ rfl (.tmp 51) (.tmp 54) 28 rfl w.heap.size 3 i0 (.int .i64 0) 1 8 Tryz.underlying28 hi hz0 hz1 hz2 rfl (by decide) _ _ _ rfl (oa5.alloc _) ⟨W8.heap.size, 0, none⟩ 1 1 [.int .i64 (n : Int)] rfl rfl (cell_one_new _ _ _) (one_i64 _) (by unfold maxLen; omega) (by omega) (by simp; omega) ?_; intro v9 W9 hown9 hgrow9 _; refine stay ?_)
        replace rc := rc.app5 hgrow9 (OwnI.snoc (z := (n : Int)) rfl hown9)
        unfold Stay
        clear hown9 hgrow9 oa5 k5 k4 hbs
        obtain ⟨av, nv, cv, rfl⟩ : ∃ av nv cv, v9 = .slice av nv cv := by
          obtain ⟨a', c', h'⟩ := nOwn_form rc.oa
          exact ⟨_, _, _, h'⟩
        have g5 := rc.g5
        gi_wp2_with ((with_reducible show wpListIn _ _ _ _ _ (⟨none, Op.store 28 (Operand.tmp 5) _, _, _, _, _⟩ :: _) _ _); refine in_op rfl (by intro c hc; cases hc) (wpList_putA rfl _ _ _ rfl rfl (w.heap.size + 1 + 1 + 1) 0 1 [.slice av nv cv] _ _ rfl rfl g5 rfl (by kernel_rfl) (by kernel_rfl) (by kernel_rfl) ?_); intro Wa p9 l9 n9; refine in_nil ?_; refine stay ?_)
        replace rc := rc.put5 p9 (u := .slice av nv cv) (l9.trans rfl)
        unfold Stay
        clear p9 l9 n9 g5

        have HGN : Hid (GhT s (k + 1) (ns ++ [⟨(-1), y.tx, y.st⟩]) (au.take 0 ++ [(n : Int)]) pt) := HG.out
        have RNn : Hid (Wa.rangeAt nb 0 (#[.int .i64 (-1), .string y.tx, .int .i64 y.st.sh, .int .i64 y.st.fl, .int .i64 y.st.cl, .bool y.st.w.a, .bool y.st.w.p, .int .i64 y.st.w.n, .bool y.st.h.a, .bool y.st.h.p, .int .i64 y.st.h.n, .int .i64 y.st.mn, .int .i64 y.st.mx, .int .i64 y.st.mt, .bool y.st.mr.a, .bool y.st.mr.p, .int .i64 y.st.mr.n, .int .i64 y.st.mb, .bool y.st.ml.a, .bool y.st.ml.p, .int .i64 y.st.ml.n, .int .i64 y.st.bo, .int .i64 y.st.pa, .int .i64 y.st.wh, .int .i64 y.st.al, .int .i64 y.st.lh, .int .i64 y.st.ri, .int .i64 y.st.dn] : Array Value).toList) := fun j v hj => (lies_cell rc.nn (0 + j)).trans (by rw [← hj, Nat.zero_add]; simp)
        have k4 : Wa.cell? ⟨w.heap.size + 1 + 1, 0, none⟩ = some (.slice al n cl) := (lies_cell rc.g4 0).trans rfl
        have HOL : Hid (Wa.ownsRow w.heap.size 36 28 (.slice al n cl) n (flatN ns)) := by show Wa.ownsRow _ _ _ _ _ _; have h := rc.ol; unfold OwnN at h; rw [← HN.out] at h; exact h
        have hbs := rc.bel.size
        gi_wp2_with (first | ((with_reducible show wpListIn _ _ _ _ _ (⟨some 57, Op.load 36 _, _, _, _, _⟩ :: _) _ _); refine in_op rfl (by intro c hc; cases hc) (wpList_load_mid rfl 36 _ rfl nb 0 rfl (#[.int .i64 (-1), .string y.tx, .int .i64 y.st.sh, .int .i64 y.st.fl, .int .i64 y.st.cl, .bool y.st.w.a, .bool y.st.w.p, .int .i64 y.st.w.n, .bool y.st.h.a, .bool y.st.h.p, .int .i64 y.st.h.n, .int .i64 y.st.mn, .int .i64 y.st.mx, .int .i64 y.st.mt, .bool y.st.mr.a, .bool y.st.mr.p, .int .i64 y.st.mr.n, .int .i64 y.st.mb, .bool y.st.ml.a, .bool y.st.ml.p, .int .i64 y.st.ml.n, .int .i64 y.st.bo, .int .i64 y.st.pa, .int .i64 y.st.wh, .int .i64 y.st.al, .int .i64 y.st.lh, .int .i64 y.st.ri, .int .i64 y.st.dn] : Array Value).toList _ RNn.out Tryz.underlying36 rfl (by kernel_rfl) ?_); refine in_nil ?_) | (gi_at_builtin; refine wpListIn_append_own _ rfl (.tmp 56) (.tmp 58) 22 rfl w.heap.size 36 j0 _ 28 200 Tryz.underlying22 hj hy0 hy1 hy2 rfl (by decide) _ _ _ rfl (HOL.out.alloc _) ⟨Wa.heap.size, 0, none⟩ 1 1 (#[.int .i64 (-1), .string y.tx, .int .i64 y.st.sh, .int .i64 y.st.fl, .int .i64 y.st.cl, .bool y.st.w.a, .bool y.st.w.p, .int .i64 y.st.w.n, .bool y.st.h.a, .bool y.st.h.p, .int .i64 y.st.h.n, .int .i64 y.st.mn, .int .i64 y.st.mx, .int .i64 y.st.mt, .bool y.st.mr.a, .bool y.st.mr.p, .int .i64 y.st.mr.n, .int .i64 y.st.mb, .bool y.st.ml.a, .bool y.st.ml.p, .int .i64 y.st.ml.n, .int .i64 y.st.bo, .int .i64 y.st.pa, .int .i64 y.st.wh, .int .i64 y.st.al, .int .i64 y.st.lh, .int .i64 y.st.ri, .int .i64 y.st.dn] : Array Value).toList rfl rfl (World.news_of_block (cs := #[.int .i64 (-1), .string y.tx, .int .i64 y.st.sh, .int .i64 y.st.fl, .int .i64 y.st.cl, .bool y.st.w.a, .bool y.st.w.p, .int .i64 y.st.w.n, .bool y.st.h.a, .bool y.st.h.p, .int .i64 y.st.h.n, .int .i64 y.st.mn, .int .i64 y.st.mx, .int .i64 y.st.mt, .bool y.st.mr.a, .bool y.st.mr.p, .int .i64 y.st.mr.n, .int .i64 y.st.mb, .bool y.st.ml.a, .bool y.st.ml.p, .int .i64 y.st.ml.n, .int .i64 y.st.bo, .int .i64 y.st.pa, .int .i64 y.st.wh, .int .i64 y.st.al, .int .i64 y.st.lh, .int .i64 y.st.ri, .int .i64 y.st.dn]) (heap_at _ _ _ rfl)) (one28 ⟨(-1), y.tx, y.st⟩) (by unfold maxLen; omega) (by omega) (by simp; omega) ?_; intro vb Wb hownb hgrowb _; refine stay ?_))
        have ob : OwnN Wb w.heap.size vb (ns ++ [⟨(-1), y.tx, y.st⟩]) := by unfold OwnN; rw [flatN_snoc, List.length_append, ← HN.out]; exact hownb
        obtain ⟨z1, z2, z3, z4, z5, z6, z7, z8, z9⟩ := rc.app4 hgrowb ob
        unfold Stay
        clear hownb hgrowb ob RNn k4 HOL hbs rc
        obtain ⟨lv, mv, dv, rfl⟩ : ∃ lv mv dv, vb = .slice lv mv dv := by
          obtain ⟨a', c', h'⟩ := nOwn_form z7
          exact ⟨_, _, _, h'⟩
        gi_wp2_with ((with_reducible show wpListIn _ _ _ _ _ (⟨none, Op.store 22 (Operand.tmp 4) _, _, _, _, _⟩ :: _) _ _); refine in_op rfl (by intro c hc; cases hc) (wpList_putA rfl _ _ _ rfl rfl (w.heap.size + 1 + 1) 0 1 [.slice lv mv dv] _ _ rfl rfl z5 rfl (by kernel_rfl) (by kernel_rfl) (by kernel_rfl) ?_); intro Wc p9 l9 n9; refine in_nil ?_; refine stay ?_)
        have RE : Hid (KeepsOthers W Wc ∧ Wc.heap[W0.heap.size]? = W.heap[W0.heap.size]? ∧ RtI s w pt Wc) :=
          ⟨z1.trans (ko_put p9 z5), (p9.lies z2 (by omega)).trans HQW.out.symm, k + 1, _, _, _, _, ⟨HPS.out, by rw [List.length_append, ← HN.out]; simp; omega, by (simp only [List.length_append, List.length_take, List.length_singleton]; omega), nOwn_put z7 p9 (nOwn_ne z7 z5 (by decide)), nOwn_put z8 p9 (nOwn_ne z8 z5 (by decide)), HGN.out, fun x hx => by rcases List.mem_append.1 hx with h | h; exact HTX.out x h; rw [List.mem_singleton.1 h]; exact HTY.out, p9.below z9 (by omega)⟩, p9.lies z3 (by omega), p9.lies z4 (by omega), l9.trans rfl, p9.lies z6 (by omega)⟩
        unfold Stay
        clear p9 l9 n9 z1 z2 z3 z4 z5 z6 z7 z8 z9
        gi_wp2
        exact RE.out
      | succ d =>
        have HG : Hid _ := HGt.out
        clear HGt
        have hlen : (au.take (d + 1)).length = d + 1 := by rw [List.length_take, ← HM.out]; omega
        obtain ⟨ga, cga, hga⟩ := nOwn_some (show W6.ownsRow w.heap.size 3 1 (.slice aa (d + 1) ca) (au.take (d + 1)).length ((au.take (d + 1)).map (Value.int .i64)) from rc.oa) (by omega)
        obtain ⟨rfl, hcg⟩ : aa = some ⟨ga, 0, none⟩ ∧ ca = cga := by
          simp only [Value.slice.injEq] at hga
          exact ⟨hga.1, hga.2.2⟩
        have kd : W6.cell? ⟨ga, d, none⟩ = some (.int .i64 (au.getD d 0)) := by
          have h0 : W6.ownsRow w.heap.size 3 1 (.slice (some ⟨ga, 0, none⟩) (d + 1) ca) (au.take (d + 1)).length ((au.take (d + 1)).map (Value.int .i64)) := rc.oa
          rw [hlen] at h0
          have h := World.ownsRow.cellAt h0 d (by omega)
          rw [h]
          have hdl : d < au.length := by rw [← HM.out]; omega
          simp [List.getD_eq_getElem?_getD, hdl]
        have k5 : W6.cell? ⟨w.heap.size + 1 + 1 + 1, 0, none⟩ = some (.slice (some ⟨ga, 0, none⟩) (d + 1) ca) := (lies_cell rc.g5 0).trans rfl
        have nn := rc.nn
        have hdp : (0 : Int) < ((d : Int) + 1) := by omega
        have hdq : ((d : Int) + 1) - 1 = (d : Int) := by omega
        clear hga hcg hlen
        gi_wp2_with ((with_reducible show wpListIn _ _ _ _ _ (⟨none, Op.store 3 (Operand.tmp 47) _, _, _, _, _⟩ :: _) _ _); refine in_op rfl (by intro c hc; cases hc) (wpList_putA rfl _ _ _ rfl rfl nb 0 28 [.int .i64 (au.getD d 0)] _ _ rfl rfl nn rfl (by kernel_rfl) (by kernel_rfl) (by kernel_rfl) ?_); intro W7 p9 l9 n9; refine in_nil ?_; refine stay ?_)
        replace rc := rc.putn p9 (cn' := #[.int .i64 (au.getD d 0), .string y.tx, .int .i64 y.st.sh, .int .i64 y.st.fl, .int .i64 y.st.cl, .bool y.st.w.a, .bool y.st.w.p, .int .i64 y.st.w.n, .bool y.st.h.a, .bool y.st.h.p, .int .i64 y.st.h.n, .int .i64 y.st.mn, .int .i64 y.st.mx, .int .i64 y.st.mt, .bool y.st.mr.a, .bool y.st.mr.p, .int .i64 y.st.mr.n, .int .i64 y.st.mb, .bool y.st.ml.a, .bool y.st.ml.p, .int .i64 y.st.ml.n, .int .i64 y.st.bo, .int .i64 y.st.pa, .int .i64 y.st.wh, .int .i64 y.st.al, .int .i64 y.st.lh, .int .i64 y.st.ri, .int .i64 y.st.dn]) (l9.trans (congrArg (fun c => some (Obj.cells c 36 (0, 0))) (show _ = (#[.int .i64 (au.getD d 0), .string y.tx, .int .i64 y.st.sh, .int .i64 y.st.fl, .int .i64 y.st.cl, .bool y.st.w.a, .bool y.st.w.p, .int .i64 y.st.w.n, .bool y.st.h.a, .bool y.st.h.p, .int .i64 y.st.h.n, .int .i64 y.st.mn, .int .i64 y.st.mx, .int .i64 y.st.mt, .bool y.st.mr.a, .bool y.st.mr.p, .int .i64 y.st.mr.n, .int .i64 y.st.mb, .bool y.st.ml.a, .bool y.st.ml.p, .int .i64 y.st.ml.n, .int .i64 y.st.bo, .int .i64 y.st.pa, .int .i64 y.st.wh, .int .i64 y.st.al, .int .i64 y.st.lh, .int .i64 y.st.ri, .int .i64 y.st.dn] : Array Value) from rfl)))
        unfold Stay
        clear p9 l9 n9 nn kd k5
        have RNn : Hid (W7.rangeAt nb 0 (ndL ⟨(au.getD d 0), y.tx, y.st⟩)) := show W7.rangeAt nb 0 (#[.int .i64 (au.getD d 0), .string y.tx, .int .i64 y.st.sh, .int .i64 y.st.fl, .int .i64 y.st.cl, .bool y.st.w.a, .bool y.st.w.p, .int .i64 y.st.w.n, .bool y.st.h.a, .bool y.st.h.p, .int .i64 y.st.h.n, .int .i64 y.st.mn, .int .i64 y.st.mx, .int .i64 y.st.mt, .bool y.st.mr.a, .bool y.st.mr.p, .int .i64 y.st.mr.n, .int .i64 y.st.mb, .bool y.st.ml.a, .bool y.st.ml.p, .int .i64 y.st.ml.n, .int .i64 y.st.bo, .int .i64 y.st.pa, .int .i64 y.st.wh, .int .i64 y.st.al, .int .i64 y.st.lh, .int .i64 y.st.ri, .int .i64 y.st.dn] : Array Value).toList from fun j v hj => (lies_cell rc.nn (0 + j)).trans (by rw [← hj, Nat.zero_add]; simp)
        gi_wp2_with ((with_reducible show wpListIn _ _ _ _ _ (⟨some 48, Op.load 36 _, _, _, _, _⟩ :: _) _ _); refine in_op rfl (by intro c hc; cases hc) (wpList_load_mid rfl 36 _ rfl nb 0 rfl (ndL ⟨(au.getD d 0), y.tx, y.st⟩) _ RNn.out Tryz.underlying36 rfl (by kernel_rfl) ?_); refine in_nil ?_)
        refine ⟨trivial, ?_⟩
        refine (CallsIn.inRound l (callsIn_wide.2 (implIsText_any ⟨(au.getD d 0), y.tx, y.st⟩ _))).mono ?_
        rintro e W8 ⟨rfl, c⟩
        replace rc := rc.below c
        clear c RNn

        have hzs : zeroS (⟨(au.getD d 0), y.tx, y.st⟩ : Nd).st = false := HZS.out
        rw [hzs]
        clear hzs
        have k5 : W8.cell? ⟨w.heap.size + 1 + 1 + 1, 0, none⟩ = some (.slice (some ⟨ga, 0, none⟩) (d + 1) ca) := (lies_cell rc.g5 0).trans rfl
        have k4 : W8.cell? ⟨w.heap.size + 1 + 1, 0, none⟩ = some (.slice al n cl) := (lies_cell rc.g4 0).trans rfl
        have oa5 : W8.ownsRow w.heap.size 3 1 (.slice (some ⟨ga, 0, none⟩) (d + 1) ca) (au.take (d + 1)).length ((au.take (d + 1)).map (Value.int .i64)) := rc.oa
        have htl : (au.take (d + 1)).length ≤ 3000 := by rw [List.length_take]; omega
        have hbs := rc.bel.size
        gi_wp2_with (gi_at_builtin; refine wpListIn_append_own _ rfl (.tmp 51) (.tmp 54) 28 rfl w.heap.size 3 i0 (.int .i64 0) 1 8 Tryz.underlying28 hi hz0 hz1 hz2 rfl (by decide) _ _ _ rfl (oa5.alloc _) ⟨W8.heap.size, 0, none⟩ 1 1 [.int .i64 (n : Int)] rfl rfl (cell_one_new _ _ _) (one_i64 _) (by unfold maxLen; omega) (by omega) (by simp; omega) ?_; intro v9 W9 hown9 hgrow9 _; refine stay ?_)
        replace rc := rc.app5 hgrow9 (OwnI.snoc (z := (n : Int)) rfl hown9)
        unfold Stay
        clear hown9 hgrow9 oa5 k5 k4 hbs
        obtain ⟨av, nv, cv, rfl⟩ : ∃ av nv cv, v9 = .slice av nv cv := by
          obtain ⟨a', c', h'⟩ := nOwn_form rc.oa
          exact ⟨_, _, _, h'⟩
        have g5 := rc.g5
        gi_wp2_with ((with_reducible show wpListIn _ _ _ _ _ (⟨none, Op.store 28 (Operand.tmp 5) _, _, _, _, _⟩ :: _) _ _); refine in_op rfl (by intro c hc; cases hc) (wpList_putA rfl _ _ _ rfl rfl (w.heap.size + 1 + 1 + 1) 0 1 [.slice av nv cv] _ _ rfl rfl g5 rfl (by kernel_rfl) (by kernel_rfl) (by kernel_rfl) ?_); intro Wa p9 l9 n9; refine in_nil ?_; refine stay ?_)
        replace rc := rc.put5 p9 (u := .slice av nv cv) (l9.trans rfl)
        unfold Stay
        clear p9 l9 n9 g5

        have HGN : Hid (GhT s (k + 1) (ns ++ [⟨(au.getD d 0), y.tx, y.st⟩]) (au.take (d + 1) ++ [(n : Int)]) pt) := HG.out
        have RNn : Hid (Wa.rangeAt nb 0 (#[.int .i64 (au.getD d 0), .string y.tx, .int .i64 y.st.sh, .int .i64 y.st.fl, .int .i64 y.st.cl, .bool y.st.w.a, .bool y.st.w.p, .int .i64 y.st.w.n, .bool y.st.h.a, .bool y.st.h.p, .int .i64 y.st.h.n, .int .i64 y.st.mn, .int .i64 y.st.mx, .int .i64 y.st.mt, .bool y.st.mr.a, .bool y.st.mr.p, .int .i64 y.st.mr.n, .int .i64 y.st.mb, .bool y.st.ml.a, .bool y.st.ml.p, .int .i64 y.st.ml.n, .int .i64 y.st.bo, .int .i64 y.st.pa, .int .i64 y.st.wh, .int .i64 y.st.al, .int .i64 y.st.lh, .int .i64 y.st.ri, .int .i64 y.st.dn] : Array Value).toList) := fun j v hj => (lies_cell rc.nn (0 + j)).trans (by rw [← hj, Nat.zero_add]; simp)
        have k4 : Wa.cell? ⟨w.heap.size + 1 + 1, 0, none⟩ = some (.slice al n cl) := (lies_cell rc.g4 0).trans rfl
        have HOL : Hid (Wa.ownsRow w.heap.size 36 28 (.slice al n cl) n (flatN ns)) := by show Wa.ownsRow _ _ _ _ _ _; have h := rc.ol; unfold OwnN at h; rw [← HN.out] at h; exact h
        have hbs := rc.bel.size
        gi_wp2_with (first | ((with_reducible show wpListIn _ _ _ _ _ (⟨some 57, Op.load 36 _, _, _, _, _⟩ :: _) _ _); refine in_op rfl (by intro c hc; cases hc) (wpList_load_mid rfl 36 _ rfl nb 0 rfl (#[.int .i64 (au.getD d 0), .string y.tx, .int .i64 y.st.sh, .int .i64 y.st.fl, .int .i64 y.st.cl, .bool y.st.w.a, .bool y.st.w.p, .int .i64 y.st.w.n, .bool y.st.h.a, .bool y.st.h.p, .int .i64 y.st.h.n, .int .i64 y.st.mn, .int .i64 y.st.mx, .int .i64 y.st.mt, .bool y.st.mr.a, .bool y.st.mr.p, .int .i64 y.st.mr.n, .int .i64 y.st.mb, .bool y.st.ml.a, .bool y.st.ml.p, .int .i64 y.st.ml.n, .int .i64 y.st.bo, .int .i64 y.st.pa, .int .i64 y.st.wh, .int .i64 y.st.al, .int .i64 y.st.lh, .int .i64 y.st.ri, .int .i64 y.st.dn] : Array Value).toList _ RNn.out Tryz.underlying36 rfl (by kernel_rfl) ?_); refine in_nil ?_) | (gi_at_builtin; refine wpListIn_append_own _ rfl (.tmp 56) (.tmp 58) 22 rfl w.heap.size 36 j0 _ 28 200 Tryz.underlying22 hj hy0 hy1 hy2 rfl (by decide) _ _ _ rfl (HOL.out.alloc _) ⟨Wa.heap.size, 0, none⟩ 1 1 (#[.int .i64 (au.getD d 0), .string y.tx, .int .i64 y.st.sh, .int .i64 y.st.fl, .int .i64 y.st.cl, .bool y.st.w.a, .bool y.st.w.p, .int .i64 y.st.w.n, .bool y.st.h.a, .bool y.st.h.p, .int .i64 y.st.h.n, .int .i64 y.st.mn, .int .i64 y.st.mx, .int .i64 y.st.mt, .bool y.st.mr.a, .bool y.st.mr.p, .int .i64 y.st.mr.n, .int .i64 y.st.mb, .bool y.st.ml.a, .bool y.st.ml.p, .int .i64 y.st.ml.n, .int .i64 y.st.bo, .int .i64 y.st.pa, .int .i64 y.st.wh, .int .i64 y.st.al, .int .i64 y.st.lh, .int .i64 y.st.ri, .int .i64 y.st.dn] : Array Value).toList rfl rfl (World.news_of_block (cs := #[.int .i64 (au.getD d 0), .string y.tx, .int .i64 y.st.sh, .int .i64 y.st.fl, .int .i64 y.st.cl, .bool y.st.w.a, .bool y.st.w.p, .int .i64 y.st.w.n, .bool y.st.h.a, .bool y.st.h.p, .int .i64 y.st.h.n, .int .i64 y.st.mn, .int .i64 y.st.mx, .int .i64 y.st.mt, .bool y.st.mr.a, .bool y.st.mr.p, .int .i64 y.st.mr.n, .int .i64 y.st.mb, .bool y.st.ml.a, .bool y.st.ml.p, .int .i64 y.st.ml.n, .int .i64 y.st.bo, .int .i64 y.st.pa, .int .i64 y.st.wh, .int .i64 y.st.al, .int .i64 y.st.lh, .int .i64 y.st.ri, .int .i64 y.st.dn]) (heap_at _ _ _ rfl)) (one28 ⟨(au.getD d 0), y.tx, y.st⟩) (by unfold maxLen; omega) (by omega) (by simp; omega) ?_; intro vb Wb hownb hgrowb _; refine stay ?_))
        have ob : OwnN Wb w.heap.size vb (ns ++ [⟨(au.getD d 0), y.tx, y.st⟩]) := by unfold OwnN; rw [flatN_snoc, List.length_append, ← HN.out]; exact hownb
        obtain ⟨z1, z2, z3, z4, z5, z6, z7, z8, z9⟩ := rc.app4 hgrowb ob
        unfold Stay
        clear hownb hgrowb ob RNn k4 HOL hbs rc
        obtain ⟨lv, mv, dv, rfl⟩ : ∃ lv mv dv, vb = .slice lv mv dv := by
          obtain ⟨a', c', h'⟩ := nOwn_form z7
          exact ⟨_, _, _, h'⟩
        gi_wp2_with ((with_reducible show wpListIn _ _ _ _ _ (⟨none, Op.store 22 (Operand.tmp 4) _, _, _, _, _⟩ :: _) _ _); refine in_op rfl (by intro c hc; cases hc) (wpList_putA rfl _ _ _ rfl rfl (w.heap.size + 1 + 1) 0 1 [.slice lv mv dv] _ _ rfl rfl z5 rfl (by kernel_rfl) (by kernel_rfl) (by kernel_rfl) ?_); intro Wc p9 l9 n9; refine in_nil ?_; refine stay ?_)
        have RE : Hid (KeepsOthers W Wc ∧ Wc.heap[W0.heap.size]? = W.heap[W0.heap.size]? ∧ RtI s w pt Wc) :=
          ⟨z1.trans (ko_put p9 z5), (p9.lies z2 (by omega)).trans HQW.out.symm, k + 1, _, _, _, _, ⟨HPS.out, by rw [List.length_append, ← HN.out]; simp; omega, by (simp only [List.length_append, List.length_take, List.length_singleton]; omega), nOwn_put z7 p9 (nOwn_ne z7 z5 (by decide)), nOwn_put z8 p9 (nOwn_ne z8 z5 (by decide)), HGN.out, fun x hx => by rcases List.mem_append.1 hx with h | h; exact HTX.out x h; rw [List.mem_singleton.1 h]; exact HTY.out, p9.below z9 (by omega)⟩, p9.lies z3 (by omega), p9.lies z4 (by omega), l9.trans rfl, p9.lies z6 (by omega)⟩
        unfold Stay
        clear p9 l9 n9 z1 z2 z3 z4 z5 z6 z7 z8 z9
        gi_wp2
        exact RE.out
  case done =>
    clear HI0 hq0
    rintro D r W hD hr0 ⟨k, ns, au, vl, va, hst, g2, g3, g4, g5⟩ hKd
    obtain ⟨al, cl, rfl, hrow⟩ := hst.ol.row
    have HFI : Hid ((∃ k au rest, rest.size = 0 ∧ GhT s k ns au rest) ∧ ns.length ≤ s.size ∧ ∀ x ∈ ns, x.tx.size ≤ 1048576) := ⟨⟨k, au, r, hr0, hst.gh⟩, by have := hst.kk; have := hst.kn; omega, hst.tx⟩
    obtain ⟨n, hn⟩ : ∃ n, n = ns.length := ⟨_, rfl⟩
    rw [← hn] at g4
    have hD2 : w.heap.size + 1 < D := by simp at hD; omega
    have ho : OwnN W w.heap.size (.slice al n cl) ns := by have h := hst.ol; rw [← hn] at h; exact h
    have k4 : W.cell? ⟨w.heap.size + 1 + 1, 0, none⟩ = some (.slice al n cl) := (lies_cell g4 0).trans rfl
    have k2 : W.cell? ⟨w.heap.size, 0, none⟩ = some (.slice none 0 0) := (lies_cell g2 0).trans rfl
    have f2 : W.frozen? ⟨w.heap.size, 0, none⟩ = false := Lib.frozen_of_heap g2 0
    have k3 : W.cell? ⟨w.heap.size + 1, 0, none⟩ = some (.bool false) := (lies_cell g3 0).trans rfl
    have f3 : W.frozen? ⟨w.heap.size + 1, 0, none⟩ = false := Lib.frozen_of_heap g3 0
    have FIN : Hid _ := rt_fin (v := .slice al n cl) (b := true) g2 g3 ho hst.bel hD2 hKd
    clear hst hrow hn g2 g3 g4 g5 ho
    gi_wp2
    refine ⟨by simp, .inl ⟨_, _, rfl, run_takeDeferred FIN.out.1, ?_⟩⟩
    exact ⟨_, results_cell2 rfl _ _ _ rfl rfl (load_plain Tryz.underlying22 FIN.out.2.1) (load_plain Tryz.underlying4 FIN.out.2.2.1), .inl ⟨_, ns, rfl, FIN.out.2.2.2.1, HFI.out.1, HFI.out.2.1, HFI.out.2.2⟩, FIN.out.2.2.2.2⟩
  case stop =>
    clear HI0 hq0
    rintro D W hD ⟨hNo, g2, g3, hb⟩ hKd
    have hD2 : w.heap.size + 1 < D := by simp at hD; omega
    have FIX : Hid _ := rt_fix g2 g3 hb hD2 hKd
    have HNo : Hid (¬ ∃ X, RelT s X) := hNo
    clear hNo g2 g3 hb
    gi_wp2
    refine ⟨by simp, .inl ⟨_, _, rfl, run_takeDeferred hKd, ?_⟩⟩
    exact ⟨_, results_cell2 rfl _ _ _ rfl rfl (load_plain Tryz.underlying22 FIX.out.1) (load_plain Tryz.underlying4 FIX.out.2.1), .inr ⟨rfl, HNo.out⟩, FIX.out.2.2⟩
end Go.Proofs.YtddnphgpdnedbaaGreatDoor
