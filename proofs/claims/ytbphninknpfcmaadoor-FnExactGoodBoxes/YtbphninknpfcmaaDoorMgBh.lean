/-
  The model's gathering of boxes in memory, and its end of a text.
  The model's run along the nodes in an element, against the pass.
  The model's BoxesOf, for every row of nodes.
  Rows of boxes that a call made: read, marked, and held.
-/
import Derived.Test.YtbphninknpfcmaaDoorMgBg
import Derived.Test.YtbphninknpfcmaaDoorMgBt
import Derived.Test.YtbphninknpfcmaaDoorMgBx
namespace Go.Proofs.YtbphninknpfcmaaDoor
open Go.ChangeShapes Go.WideShapes Go.ChangeAt Go.RowKit
set_option linter.unusedVariables false

/-- The model's gathering, at block q. -/
structure Ls (w : World) (B q : Nat) (ls : Value) (out : List Bx) (ok : Bool) (vo : Value) : Prop where
  hp : B ≤ q
  lies : w.heap[q]? = some (.cells #[ls, vo, .bool ok] 98 (0, 0))
  oo : w.ownsRow B 76 4 vo out.length (flatB out)
theorem Ls.keep {w w' : World} {B q : Nat} {ls : Value} {out : List Bx} {ok : Bool} {vo : Value} (h : Ls w B q ls out ok vo) (hb : Below w.heap.size w w') : Ls w' B q ls out ok vo :=
  ⟨h.hp, below_lies hb h.lies (lies_lt h.lies), own_keep h.oo hb⟩
theorem Ls.putB {w w3 : World} {B q : Nat} {ls : Value} {out : List Bx} {ok : Bool} {vo vo' : Value} {out' : List Bx} (h : Ls w B q ls out ok vo) (hg : w.grownBy w3 vo.ownBlock) (ho : w3.ownsRow B 76 4 vo' out'.length (flatB out')) : Ls (w3.setCell ⟨q, 1, none⟩ vo') B q ls out' ok vo' := by
  have l3 : w3.heap[q]? = _ := (hg.block q (lies_lt h.lies) (fun e => own_ne h.oo h.lies (by decide) e.symm)).trans h.lies
  exact ⟨h.hp, lies_set l3, own_set ho _ (own_ne ho l3 (by decide))⟩
theorem Ls.putO {w : World} {B q : Nat} {ls : Value} {out : List Bx} {ok : Bool} {vo : Value} (h : Ls w B q ls out ok vo) (o : Bool) : Ls (w.setCell ⟨q, 2, none⟩ (.bool o)) B q ls out o vo :=
  ⟨h.hp, lies_set h.lies, own_set h.oo _ (own_ne h.oo h.lies (by decide))⟩
theorem bhInfo : ∃ i0, Tryd.prog.info? 76 = some i0 ∧ i0.zero = some (.agg #[.int .i64 0, .int .i64 0, .int .i64 0, .string ByteArray.empty]) ∧ i0.size = 4 ∧ i0.bytes = 40 := info_parts infoBox

/-- Rows that are no boxes, and not at q, stand. -/
def Stand (q : Nat) (w w' : World) : Prop := ∀ (g : Nat) (c : Array Value) (t : TypeId) (fr : Nat × Nat), g ≠ q → t ≠ 76 → w.heap[g]? = some (.cells c t fr) → w'.heap[g]? = some (.cells c t fr)
theorem Stand.trans {q : Nat} {w w' w'' : World} (h : Stand q w w') (h' : Stand q w' w'') : Stand q w w'' := fun g c t fr hg ht hh => h' g c t fr hg ht (h g c t fr hg ht hh)
theorem stand_below {q : Nat} {w w' : World} (h : Below w.heap.size w w') : Stand q w w' := fun g c t fr _ _ hh => below_lies h hh (lies_lt hh)
theorem stand_alloc {q : Nat} (w : World) (o : Obj) : Stand q w (w.alloc o) := fun g c t fr _ _ hh => heap_in hh
theorem stand_set {q i : Nat} (w : World) (v : Value) : Stand q w (w.setCell ⟨q, i, none⟩ v) := fun g c t fr hg _ hh => ((bxn_grown_set w q i v).block g (lies_lt hh) (fun e => hg (Option.some.inj e))).trans hh
theorem stand_grown {q B : Nat} {w w' : World} {v : Value} {n : Nat} {xs : List Value} (h : w.grownBy w' v.ownBlock) (ho : w.ownsRow B 76 4 v n xs) : Stand q w w' := fun g c t fr _ ht hh => (h.block g (lies_lt hh) (fun e => own_ne ho hh ht e.symm)).trans hh

set_option maxRecDepth 100000 in
set_option maxHeartbeats 4000000 in
theorem flush_any (B q b off n cap box node : Nat) (ns : List Nd) (out : List Bx) (ok : Bool) (vo : Value) (t : ByteArray) (w : World) (hls : Ls w B q (.slice (some ⟨b, off, none⟩) n cap) out ok vo) (hnd : NdAt w B b off n ns) (hwh : WhOk ns) (hno : node < n) (hnT : isT ns node = false) (hbx : box ≤ 1000) (ho : out.length ≤ 1000) (ht : t.size ≤ 8000) :
    Calls Tryd.prog 84 #[.pointer (some ⟨q, 0, none⟩), .int .i64 (box : Int), .int .i64 (node : Int), .string t] w fun e w' => e = .returned (.tuple #[]) ∧ (∃ vo', Ls w' B q (.slice (some ⟨b, off, none⟩) n cap) (flB ns box node out t) (flO ok t) vo') ∧ Below B w w' ∧ Stand q w w' := by
  have lp := lies_lt hls.lies
  have hBs : B ≤ w.heap.size := Nat.le_trans hls.hp (Nat.le_of_lt lp)
  by_cases h2 : t.size ≤ 200
  rotate_left
  · have h2' : (200 : Int) < (t.size : Int) := by omega
    have e1 : flB ns box node out t = out := by unfold flB; rw [if_neg h2]
    have e2 : flO ok t = false := by unfold flO; simp [h2]
    rw [e1, e2]
    have c2 : w.cell? ⟨q, 2, none⟩ = some (.bool ok) := (lies_cell hls.lies 2).trans rfl
    have f2 : w.frozen? ⟨q, 2, none⟩ = false := Lib.frozen_of_heap hls.lies 2
    have R := hls.putO false
    have RB := (Below.refl B w).setCell (p := ⟨q, 2, none⟩) hls.hp (.bool false)
    have HR : Hid (_ ∧ _) := And.intro R RB
    clear R RB hls hnd e1 e2
    go_enter Tryd.func84, Tryd.ntmps84
    go_wp2
    refine bodyPost_ret (results_none Tryd.results84 _ _ _) rfl ?_
    exact ⟨rfl, ⟨_, HR.out.1⟩, HR.out.2, stand_set _ _⟩
  have h2' : ¬ ((200 : Int) < (t.size : Int)) := by omega
  have hin : node < ns.length := by rw [← hnd.len]; exact hno
  obtain ⟨y, hy⟩ : ∃ y, ns[node]? = some y := ⟨_, List.getElem?_eq_getElem hin⟩
  have gD : ns.getD node nd0 = y := getD_of hy
  have hwy := inB_yes (by rw [← gD]; exact hwh node hin hnT : inB 1 5 y.st.wh = true)
  have qy : w.cell? ⟨b, off + node * 28 + 2 + 21, none⟩ = some (.int .i64 y.st.wh) := by have := hnd.rows node y hy 23 (.int .i64 y.st.wh) rfl; rwa [Nat.add_assoc (off + node * 28) 2 21]
  have KP : ∀ W, Calls Tryd.prog 95 #[.int .i64 y.st.wh, .string t] W fun e w' => e = .returned (.string (keepT y.st.wh t)) ∧ Below W.heap.size W w' := fun W => specKeepL_any y.st.wh t W hwy.1 hwy.2 h2
  have c0 : w.cell? ⟨q, 0, none⟩ = some (.slice (some ⟨b, off, none⟩) n cap) := (lies_cell hls.lies 0).trans rfl
  have e2 : flO ok t = ok := by unfold flO; simp [h2]
  have eL : lineOf ns (node : Int) (box : Int) t = if (keepT y.st.wh t).size = 0 then [] else [⟨2, (node : Int), (box : Int), keepT y.st.wh t⟩] := by unfold lineOf; rw [show ((node : Int)).toNat = node by simp, gD]
  have e1 : flB ns box node out t = out ++ lineOf ns (node : Int) (box : Int) t := by unfold flB; rw [if_pos h2]
  rw [e1, e2, eL]
  have hn40 := hnd.le
  generalize keepT y.st.wh t = kt at KP ⊢
  generalize y.st.wh = wh at qy KP hwy
  clear e1 e2 eL hnd hwh hy gD
  obtain ⟨ao, co, hvo⟩ := own_form hls.oo
  subst hvo
  have HL : Hid (Ls w B q (.slice (some ⟨b, off, none⟩) n cap) out ok (.slice ao out.length co)) := hls
  obtain ⟨m, hm⟩ : ∃ m, m = out.length := ⟨_, rfl⟩
  rw [← hm] at HL ho
  have HM : Hid (m = out.length) := hm
  clear hls hm
  obtain ⟨i0, hi, hz0, hz1, hz2⟩ := bhInfo
  by_cases h0 : kt.size = 0
  · rw [if_pos h0, List.append_nil]
    obtain rfl := size_zero h0
    go_enter Tryd.func84, Tryd.ntmps84
    go_wp2_with fail
    refine (KP _).mono ?_
    rintro e w2 ⟨rfl, hb2⟩
    have L2 := HL.out.keep hb2
    have B2 : Below B w w2 := hb2.mono hBs
    have D2 : Hid (Stand q w w2) := stand_below hb2
    have hke : ByteArray.empty.toList.isEmpty = true := by rw [ByteArray.toList_eq]; rfl
    clear hb2 KP c0 qy HL
    go_wp2
    go_end0
    exact ⟨rfl, ⟨_, L2⟩, B2, D2.out⟩
  · rw [if_neg h0]
    have hke : kt.toList.isEmpty = false := by rw [← Bool.not_eq_true, ByteArray.toList_eq, List.isEmpty_iff_length_eq_zero]; simpa using h0
    go_enter Tryd.func84, Tryd.ntmps84
    go_wp2_with fail
    refine (KP _).mono ?_
    rintro e w2 ⟨rfl, hb2⟩
    have L2 := HL.out.keep hb2
    have B2 : Below B w w2 := hb2.mono hBs
    have D2 : Hid (Stand q w w2) := stand_below hb2
    have hB2 : B ≤ w2.heap.size := Nat.le_trans hBs hb2.size
    have c1 : w2.cell? ⟨q, 1, none⟩ = some (.slice ao m co) := (lies_cell L2.lies 1).trans rfl
    have o2 : w2.ownsRow B 76 4 (.slice ao m co) m (flatB out) := by have h := L2.oo; rw [← HM.out] at h; exact h
    have HL2 : Hid (Ls w2 B q (.slice (some ⟨b, off, none⟩) n cap) out ok (.slice ao m co)) := L2
    have HB2 : Hid (Below B w w2) := B2
    clear hb2 KP c0 qy HL L2 B2
    go_wp2_with (at_builtin; refine wpList_append_own_at _ rfl (.tmp 32) (.tmp 37) 24 rfl B 76 i0 _ 4 40 Tryd.underlying24 hi hz0 hz1 hz2 rfl (by decide) _ _ _ rfl (o2.alloc _) ⟨w2.heap.size, 0, none⟩ 1 1 [.int .i64 2, .int .i64 (node : Int), .int .i64 (box : Int), .string kt] rfl rfl (World.news_of_block (cs := #[.int .i64 2, .int .i64 (node : Int), .int .i64 (box : Int), .string kt]) (heap_at _ _ _ rfl)) (one4 _ _ _ _) (by unfold maxLen; omega) (by omega) (by simp; omega) ?_)
    intro v' w3 hown3 hgrow3 _ _
    obtain ⟨a3, k3, rfl⟩ := own_form hown3
    have GA := HL2.out.keep ((Below.refl _ _).alloc (Nat.le_refl _) (.cells #[.int .i64 2, .int .i64 (node : Int), .int .i64 (box : Int), .string kt] 76))
    have l3 : w3.heap[q]? = _ := (hgrow3.block q (lies_lt GA.lies) (fun e => own_ne GA.oo GA.lies (by decide) e.symm)).trans GA.lies
    have d1 : w3.cell? ⟨q, 1, none⟩ = some (.slice ao m co) := (lies_cell l3 1).trans rfl
    have g1 : w3.frozen? ⟨q, 1, none⟩ = false := Lib.frozen_of_heap l3 1
    have R := GA.putB (out' := out ++ [⟨2, (node : Int), (box : Int), kt⟩]) hgrow3 (by rw [flatB_snoc, List.length_append, ← HM.out]; exact hown3)
    have RB := ((HB2.out.alloc hB2 _).grown hgrow3 (by simp; omega) (fun k hk => (GA.oo.lt k hk).1)).setCell (p := ⟨q, 1, none⟩) GA.hp (.slice a3 (m + 1) k3)
    have RS := ((D2.out.trans (stand_alloc w2 (.cells #[.int .i64 2, .int .i64 (node : Int), .int .i64 (box : Int), .string kt] 76))).trans (stand_grown hgrow3 GA.oo)).trans (stand_set (q := q) (i := 1) w3 (.slice a3 (m + 1) k3))
    have HR : Hid (_ ∧ _ ∧ _) := And.intro R (And.intro RB RS)
    clear RS R RB GA l3 hown3 hgrow3 o2 HL2 HB2 c1
    go_wp2
    go_end0
    exact ⟨rfl, ⟨_, HR.out.1⟩, HR.out.2.1, HR.out.2.2⟩
end Go.Proofs.YtbphninknpfcmaaDoor

namespace Go.Proofs.YtbphninknpfcmaaDoor
open Go.ChangeShapes Go.WideShapes Go.ChangeAt Go.RowKit
set_option linter.unusedVariables false

/-- What run leaves. -/
def RunEnd (B q b off n cap : Nat) (ns : List Nd) (e box : Nat) (w : World) (ev : Ending) (w' : World) : Prop :=
  ∃ (t' : ByteArray) (out' : List Bx) (ok' : Bool) (vo' : Value), ev = .returned (.string t') ∧ Ls w' B q (.slice (some ⟨b, off, none⟩) n cap) out' ok' vo' ∧ Mt ns (passP ns e) box out' ok' t' ∧ Below B w w'
theorem runEnd {B q b off n cap : Nat} {ns : List Nd} {e box : Nat} {w w' : World} {ev : Ending} (t' : ByteArray) (out' : List Bx) (ok' : Bool) (vo' : Value) (h1 : ev = .returned (.string t')) (h2 : Ls w' B q (.slice (some ⟨b, off, none⟩) n cap) out' ok' vo') (h3 : Mt ns (passP ns e) box out' ok' t') (h4 : Below B w w') : RunEnd B q b off n cap ns e box w ev w' := ⟨t', out', ok', vo', h1, h2, h3, h4⟩
/-- What run does from node k on. -/
def RunOk (B q b off n cap : Nat) (ns : List Nd) (k : Nat) : Prop :=
  ∀ (e box node : Nat) (out : List Bx) (ok : Bool) (vo : Value) (t : ByteArray) (x : Bx) (w : World), IsEnd ns k e → innF ns k = (box : Int) → (passP ns (k + 1)).bs[box]? = some x → x.nd = (node : Int) → isT ns node = false → node < n →
    Ls w B q (.slice (some ⟨b, off, none⟩) n cap) out ok vo → Mt ns (passP ns (k + 1)) box out ok t → NdAt w B b off n ns →
    Calls Tryd.prog 83 #[.pointer (some ⟨q, 0, none⟩), .int .i64 (box : Int), .int .i64 (node : Int), .int .i64 (k : Int), .string t] w (RunEnd B q b off n cap ns e box w)
theorem mt_len {ns : List Nd} {k p box : Nat} {x : Bx} (hns : NsOk ns) (hp : p ≤ ns.length) (hk : k ≤ p) (hx : (passP ns k).bs[box]? = some x) : box < p := by
  have h1 := box_stays hk hx
  have h2 := (List.getElem?_eq_some_iff.1 h1).1
  have h3 := (pass_ok hns p hp).many
  omega
set_option maxRecDepth 100000 in
set_option maxHeartbeats 4000000 in
theorem inside_of (B q b off n cap k : Nat) (ns : List Nd) (hns : NsOk ns) (hwh : WhOk ns) (hR : RunOk B q b off n cap ns k) (e at_ : Nat) (out : List Bx) (ok : Bool) (vo : Value) (x : Bx) (w : World) (he : IsEnd ns k e) (hin : innF ns k = (at_ : Int)) (hbx : (passP ns (k + 1)).bs[at_]? = some x) (hxn : x.nd = (k : Int)) (hT : isT ns k = false) (hk : k < n)
    (hls : Ls w B q (.slice (some ⟨b, off, none⟩) n cap) out ok vo) (hmt : Mt ns (passP ns (k + 1)) at_ out ok ByteArray.empty) (hnd : NdAt w B b off n ns) :
    Calls Tryd.prog 64 #[.pointer (some ⟨q, 0, none⟩), .int .i64 (at_ : Int), .int .i64 (k : Int)] w fun ev w' => ev = .returned (.tuple #[]) ∧ (∃ (t' : ByteArray) (out' : List Bx) (ok' : Bool) (vo' : Value), Ls w' B q (.slice (some ⟨b, off, none⟩) n cap) (flB ns at_ k out' t') (flO ok' t') vo' ∧ Mt ns (passP ns e) at_ out' ok' t') ∧ Below B w w' := by
  have R := hR e at_ k out ok vo ByteArray.empty x w he hin hbx hxn hT hk hls hmt hnd
  have hel : e ≤ ns.length := he.le
  have hPe := pass_ok hns e hel
  have h40 := hnd.le
  have hlen := hnd.len
  have hat := mt_len hns hel he.gt hbx
  clear hR hls hmt
  have HND : Hid (NdAt w B b off n ns) := hnd
  clear hnd
  go_enter Tryd.func64, Tryd.ntmps64
  go_wp2_with fail
  refine R.mono ?_
  rintro ev w1 ⟨t', out', ok', vo', rfl, hl1, hm1, hb1⟩
  have hbd := mt_bounds hPe hm1
  have F := flush_any B q b off n cap at_ k ns out' ok' vo' t' w1 hl1 (HND.out.below hb1) hwh hk hT (by omega) (by omega) (by omega)
  clear R hl1
  go_wp2_with fail
  refine F.mono ?_
  rintro ev w2 ⟨rfl, ⟨vo2, hl2⟩, hb2, _⟩
  have HR : Hid (_ ∧ _) := And.intro hl2 (hb1.trans hb2)
  clear hl2 hb1 hb2 F
  go_wp2
  go_end0
  exact ⟨rfl, ⟨_, _, _, _, HR.out.1, hm1⟩, HR.out.2⟩
theorem fix_none {s : St} (h : s.sh = 3) : (fixSt s).sh = 3 := by unfold fixSt; rw [if_pos h]; exact h
theorem fix_inline {s : St} (h : ¬ s.sh = 3) (hk : kindS s = 0) (hs : inB 1 3 s.sh = true) : (fixSt s).sh = 2 := by
  have hb := inB_yes hs
  unfold kindS at hk
  unfold fixSt
  rw [if_neg h] at hk ⊢
  by_cases hf : s.fl ≠ 0
  · rw [if_pos hf] at hk; omega
  · rw [if_neg hf] at hk ⊢
    by_cases h1 : s.sh = 1
    · rw [if_pos h1] at hk; omega
    · rw [if_pos (by omega)]
theorem fix_block {s : St} (h : ¬ s.sh = 3) (hk : ¬ kindS s = 0) : (fixSt s).sh = 1 ∧ (fixSt s).fl = s.fl ∧ kindS s = if s.fl = 0 then 1 else 3 := by
  unfold kindS at hk ⊢
  unfold fixSt
  rw [if_neg h] at hk ⊢
  by_cases hf : s.fl ≠ 0
  · rw [if_pos hf] at hk ⊢
    rw [if_neg h, if_pos hf, if_neg hf]
    exact ⟨rfl, rfl, rfl⟩
  · rw [if_neg hf] at hk ⊢
    by_cases h1 : s.sh = 1
    · rw [if_pos h1, if_neg h, if_neg hf, if_neg (by omega), if_pos (by simpa using hf)]
      exact ⟨h1, rfl, rfl⟩
    · rw [if_neg h1] at hk; omega
theorem end_le {ns : List Nd} (hst : ∀ j, j < ns.length → Stands ns j) {k e i e' : Nat} (he : IsEnd ns k e) (hki : k < i) (hi : i < ns.length) (hu : upL ns i = (k : Int)) (he' : IsEnd ns i e') : e' ≤ e := (at_next hst he hki hi hu he').le

set_option maxRecDepth 100000 in
set_option maxHeartbeats 16000000 in
theorem run_step (B q b off n cap : Nat) (ns : List Nd) (hns : NsOk ns) (hwh : WhOk ns) (hsh : ∀ j, j < ns.length → isT ns j = false → inB 1 3 (ns.getD j nd0).st.sh = true) (k : Nat) (hk : k < n) (R : ∀ j, k < j → j < n → RunOk B q b off n cap ns j) : RunOk B q b off n cap ns k := by
  intro e box node out ok vo t x w he hin hbx hxn hnT hno hls hmt hnd
  have hlen := hnd.len
  have h40 := hnd.le
  have hBs : B ≤ w.heap.size := Nat.le_trans hls.hp (Nat.le_of_lt (lies_lt hls.lies))
  have HR : Hid (∀ j, k < j → j < n → RunOk B q b off n cap ns j) := R
  have HNS : Hid (NsOk ns) := hns
  have HWH : Hid (WhOk ns) := hwh
  have HSH : Hid (∀ j, j < ns.length → isT ns j = false → inB 1 3 (ns.getD j nd0).st.sh = true) := hsh
  have HE : Hid (IsEnd ns k e) := he
  have HIN : Hid (innF ns k = (box : Int)) := hin
  have HBX : Hid ((passP ns (k + 1)).bs[box]? = some x) := hbx
  have HXN : Hid (x.nd = (node : Int)) := hxn
  have HNT : Hid (isT ns node = false) := hnT
  have HND : Hid (NdAt w B b off n ns) := hnd
  have HLE : Hid (n = ns.length) := hlen
  have HS0 : Hid (Ls w B q (.slice (some ⟨b, off, none⟩) n cap) out ok vo) := hls
  have HM0 : Hid (Mt ns (passP ns (k + 1)) box out ok t) := hmt
  have hb40 : box < 40 := by
    have h := mt_len hns (p := k + 1) (by omega) (Nat.le_refl _) hbx
    omega
  clear R hns hwh hsh he hin hbx hxn hnT hnd hlen hls hmt
  go_enter Tryd.func83, Tryd.ntmps83
  go_wp2
  go_loopw [4, 11] (fun tv iv wr => ∃ (j p : Nat) (t : ByteArray) (out : List Bx) (ok : Bool) (vo : Value), k < j ∧ j ≤ n ∧ iv = .int .i64 (j : Int) ∧ tv = .string t ∧ AtP ns k e j p ∧ Mt ns (passP ns p) box out ok t ∧ Ls wr B q (.slice (some ⟨b, off, none⟩) n cap) out ok vo ∧ Below B w wr) (fun _ iv _ => n - (intOf iv).toNat)
  case atStart => exact ⟨k + 1, k + 1, t, out, ok, vo, by omega, by omega, by go_num, rfl, at_start HNS.out.stands HE.out, HM0.out, HS0.out, Below.refl _ _⟩
  case round =>
    clear HS0 HM0 t out ok vo
    obtain ⟨j, p, t, out, ok, vo, hkj, hjn, rfl, rfl, hat, hmt, hls, hbw⟩ := hrel
    have HAT : Hid (AtP ns k e j p) := hat
    have HMT : Hid (Mt ns (passP ns p) box out ok t) := hmt
    have HLS : Hid (Ls wr B q (.slice (some ⟨b, off, none⟩) n cap) out ok vo) := hls
    have c0 : wr.cell? ⟨q, 0, none⟩ = some (.slice (some ⟨b, off, none⟩) n cap) := (lies_cell hls.lies 0).trans rfl
    have hq : q < wr.heap.size := lies_lt hls.lies
    have hBw : B ≤ wr.heap.size := Nat.le_trans hBs hbw.size
    clear hat hmt hls
    by_cases hlt : j < n
    rotate_left
    · have hnl : ¬ ((j : Int) < (n : Int)) := by omega
      have HRT : Hid (p = e) := at_end HE.out HAT.out (by rw [← HLE.out]; omega)
      go_wp2
      go_ret
      exact runEnd t out ok vo rfl HLS.out (by rw [← HRT.out]; exact HMT.out) hbw
    have hlt' : (j : Int) < (n : Int) := by omega
    have HJ : Hid (j < ns.length) := by show _ < _; rw [← HLE.out]; exact hlt
    obtain ⟨y, hy⟩ : ∃ y, ns[j]? = some y := ⟨_, List.getElem?_eq_getElem HJ.out⟩
    obtain ⟨gU, gT, gD⟩ := getI hy
    have hr := (HND.out.below hbw).rows j y hy
    have HY : Hid (ns[j]? = some y) := hy
    have HU : Hid (upL ns j = y.up) := gU
    have HT0 : Hid (isT ns j = zeroS y.st) := gT
    have HD0 : Hid (ns.getD j nd0 = y) := gD
    clear hy gU gT gD
    go_wp2_with (first
      | (with_reducible show wpList _ _ _ (⟨some 33, Op.load 65 _, _, _, _, _⟩ :: _) _ _; refine wpList_load_mid rfl 65 _ rfl b (off + j * 28) rfl (ndL y) _ hr Tryd.underlying65 rfl (by kernel_rfl) ?_)
      | (with_reducible show wpList _ _ _ (⟨none, Op.store 65 _ _, _, _, _, _⟩ :: _) _ _; refine wpList_store_box rfl 65 _ _ rfl rfl (#[.int .i64 y.up, .string y.tx, .int .i64 y.st.sh, .int .i64 y.st.fl, .int .i64 y.st.cl, .bool y.st.w.a, .bool y.st.w.p, .int .i64 y.st.w.n, .bool y.st.h.a, .bool y.st.h.p, .int .i64 y.st.h.n, .int .i64 y.st.mn, .int .i64 y.st.mx, .int .i64 y.st.mt, .bool y.st.mr.a, .bool y.st.mr.p, .int .i64 y.st.mr.n, .int .i64 y.st.mb, .bool y.st.ml.a, .bool y.st.ml.p, .int .i64 y.st.ml.n, .int .i64 y.st.bo, .int .i64 y.st.pa, .int .i64 y.st.wh, .int .i64 y.st.al, .int .i64 y.st.lh, .int .i64 y.st.ri, .int .i64 y.st.dn]) rfl rfl (by kernel_rfl) rfl (by kernel_rfl) ?_; intro W bel l0 hsz; refine stay ?_)
      | fail)
    unfold Stay
    have HL0 : Hid (W.heap[wr.heap.size]? = some (.cells (#[.int .i64 y.up, .string y.tx, .int .i64 y.st.sh, .int .i64 y.st.fl, .int .i64 y.st.cl, .bool y.st.w.a, .bool y.st.w.p, .int .i64 y.st.w.n, .bool y.st.h.a, .bool y.st.h.p, .int .i64 y.st.h.n, .int .i64 y.st.mn, .int .i64 y.st.mx, .int .i64 y.st.mt, .bool y.st.mr.a, .bool y.st.mr.p, .int .i64 y.st.mr.n, .int .i64 y.st.mb, .bool y.st.ml.a, .bool y.st.ml.p, .int .i64 y.st.ml.n, .int .i64 y.st.bo, .int .i64 y.st.pa, .int .i64 y.st.wh, .int .i64 y.st.al, .int .i64 y.st.lh, .int .i64 y.st.ri, .int .i64 y.st.dn]) 65 (0, 0))) := l0
    have HLW : Hid (Ls W B q (.slice (some ⟨b, off, none⟩) n cap) out ok vo) := HLS.out.keep bel
    have HBW : Hid (Below B w W) := hbw.trans (bel.mono hBw)
    clear hr c0 HLS
    by_cases hu : y.up = (k : Int)
    rotate_left
    · have cu : W.cell? ⟨wr.heap.size, 0, none⟩ = some (.int .i64 y.up) := (lies_cell l0 0).trans rfl
      have hub : (y.up == (k : Int)) = false := by simpa using hu
      have HSK : Hid (AtP ns k e (j + 1) p) := at_skip HAT.out (by rw [HU.out]; exact hu)
      clear l0
      go_wp2
      go_roundw
      case rel => exact ⟨j + 1, p, t, out, ok, vo, by omega, by omega, by go_num, rfl, HSK.out, HMT.out, HLW.out, HBW.out⟩
      case measure => simp [intOf]; omega
    have cu : W.cell? ⟨wr.heap.size, 0, none⟩ = some (.int .i64 (k : Int)) := (lies_cell l0 0).trans (by rw [← hu]; rfl)
    have HUK : Hid (upL ns j = (k : Int)) := HU.out.trans hu
    have hpj : p = j := at_kid HNS.out.stands HE.out HAT.out hkj HJ.out HUK.out
    subst hpj
    have HAR : Hid (arP ns (passP ns p) p = (box : Int)) := (ar_at HUK.out hkj).trans HIN.out
    have hbd := mt_bounds (pass_ok HNS.out p (Nat.le_of_lt HJ.out)) HMT.out
    obtain ⟨e', he'⟩ := end_some HJ.out
    have HE' : Hid (IsEnd ns p e') := he'
    have HNX : Hid (AtP ns k e (p + 1) e') := at_next HNS.out.stands HE.out hkj HJ.out HUK.out he'
    clear he' hu HAT
    have TX := fun W => specIsText_any y W
    have FX := fun W => l4Fix_any y.st W
    cases hT : zeroS y.st
    rotate_left
    · rw [hT] at TX
      have HTX : Hid (isT ns p = true) := HT0.out.trans hT
      have HKT : Hid (Mt ns (passP ns (p + 1)) box out ok (t ++ y.tx)) := by
        have h := kid_text HMT.out HAR.out HTX.out
        rw [HD0.out] at h
        exact h
      have HE2 : Hid (e' = p + 1) := end_text HNS.out.stands HJ.out HTX.out HE'.out
      have htx := (HNS.out.texts p HJ.out HTX.out).1
      rw [HD0.out] at htx
      have hsz2 := (okB_yes htx).1
      clear htx hT
      go_wp2_with (with_reducible show wpList _ _ _ (⟨some 38, Op.load 65 _, _, _, _, _⟩ :: _) _ _; refine wpList_load_row rfl 65 _ rfl wr.heap.size rfl _ (#[.int .i64 y.up, .string y.tx, .int .i64 y.st.sh, .int .i64 y.st.fl, .int .i64 y.st.cl, .bool y.st.w.a, .bool y.st.w.p, .int .i64 y.st.w.n, .bool y.st.h.a, .bool y.st.h.p, .int .i64 y.st.h.n, .int .i64 y.st.mn, .int .i64 y.st.mx, .int .i64 y.st.mt, .bool y.st.mr.a, .bool y.st.mr.p, .int .i64 y.st.mr.n, .int .i64 y.st.mb, .bool y.st.ml.a, .bool y.st.ml.p, .int .i64 y.st.ml.n, .int .i64 y.st.bo, .int .i64 y.st.pa, .int .i64 y.st.wh, .int .i64 y.st.al, .int .i64 y.st.lh, .int .i64 y.st.ri, .int .i64 y.st.dn]) _ _ l0 Tryd.underlying65 rfl (by kernel_rfl) ?_)
      refine (TX _).mono ?_
      rintro ev w2 ⟨rfl, hb2⟩
      have c1 : w2.cell? ⟨wr.heap.size, 1, none⟩ = some (.string y.tx) := (lies_cell (below_lies hb2 l0 (lies_lt l0)) 1).trans rfl
      have HL2 : Hid (Ls w2 B q (.slice (some ⟨b, off, none⟩) n cap) out ok vo) := HLW.out.keep hb2
      have HB2 : Hid (Below B w w2) := HBW.out.trans (hb2.mono (Nat.le_trans hBs HBW.out.size))
      have hmx : t.size + y.tx.size ≤ maxLen := by unfold maxLen; omega
      clear hb2 TX FX cu l0 bel hsz
      go_wp2
      go_roundw
      case rel => exact ⟨p + 1, p + 1, t ++ y.tx, out, ok, vo, by omega, by omega, by go_num, rfl, by have h := HNX.out; rw [HE2.out] at h; exact h, HKT.out, HL2.out, HB2.out⟩
      case measure => simp [intOf]; omega
    rw [hT] at TX
    have HTF : Hid (isT ns p = false) := HT0.out.trans hT
    clear hT
    go_wp2_with (with_reducible show wpList _ _ _ (⟨some 38, Op.load 65 _, _, _, _, _⟩ :: _) _ _; refine wpList_load_row rfl 65 _ rfl wr.heap.size rfl _ (#[.int .i64 y.up, .string y.tx, .int .i64 y.st.sh, .int .i64 y.st.fl, .int .i64 y.st.cl, .bool y.st.w.a, .bool y.st.w.p, .int .i64 y.st.w.n, .bool y.st.h.a, .bool y.st.h.p, .int .i64 y.st.h.n, .int .i64 y.st.mn, .int .i64 y.st.mx, .int .i64 y.st.mt, .bool y.st.mr.a, .bool y.st.mr.p, .int .i64 y.st.mr.n, .int .i64 y.st.mb, .bool y.st.ml.a, .bool y.st.ml.p, .int .i64 y.st.ml.n, .int .i64 y.st.bo, .int .i64 y.st.pa, .int .i64 y.st.wh, .int .i64 y.st.al, .int .i64 y.st.lh, .int .i64 y.st.ri, .int .i64 y.st.dn]) _ _ l0 Tryd.underlying65 rfl (by kernel_rfl) ?_)
    refine (TX _).mono ?_
    rintro ev w2 ⟨rfl, hb2⟩
    have l2 := below_lies hb2 l0 (lies_lt l0)
    have HL2 : Hid (Ls w2 B q (.slice (some ⟨b, off, none⟩) n cap) out ok vo) := HLW.out.keep hb2
    have HB2 : Hid (Below B w w2) := HBW.out.trans (hb2.mono (Nat.le_trans hBs HBW.out.size))
    have RS : w2.rangeAt wr.heap.size 2 (stCells y.st).toList := fun i v hi => (lies_cell l2 (2 + i)).trans (by rw [← hi, show (stCells y.st).toList = (#[.int .i64 y.up, .string y.tx, .int .i64 y.st.sh, .int .i64 y.st.fl, .int .i64 y.st.cl, .bool y.st.w.a, .bool y.st.w.p, .int .i64 y.st.w.n, .bool y.st.h.a, .bool y.st.h.p, .int .i64 y.st.h.n, .int .i64 y.st.mn, .int .i64 y.st.mx, .int .i64 y.st.mt, .bool y.st.mr.a, .bool y.st.mr.p, .int .i64 y.st.mr.n, .int .i64 y.st.mb, .bool y.st.ml.a, .bool y.st.ml.p, .int .i64 y.st.ml.n, .int .i64 y.st.bo, .int .i64 y.st.pa, .int .i64 y.st.wh, .int .i64 y.st.al, .int .i64 y.st.lh, .int .i64 y.st.ri, .int .i64 y.st.dn] : Array Value).toList.drop 2 from rfl, List.getElem?_drop]; simp)
    clear hb2 TX cu l0 bel hsz HL0 HLW HBW
    go_wp2_with (with_reducible show wpList _ _ _ (⟨some 45, Op.load 49 _, _, _, _, _⟩ :: _) _ _; refine wpList_load_mid rfl 49 _ rfl wr.heap.size 2 rfl (stCells y.st).toList _ RS Tryd.underlying49 rfl (by kernel_rfl) ?_)
    refine (FX _).mono ?_
    rintro ev w3 ⟨rfl, hb3⟩
    have HL3 : Hid (Ls w3 B q (.slice (some ⟨b, off, none⟩) n cap) out ok vo) := HL2.out.keep hb3
    have HB3 : Hid (Below B w w3) := HB2.out.trans (hb3.mono (Nat.le_trans hBs HB2.out.size))
    clear hb3 FX RS l2 HL2 HB2
    go_wp2_with (first
      | (with_reducible show wpList _ _ _ (⟨none, Op.store 49 _ _, _, _, _, _⟩ :: _) _ _; refine wpList_store_box rfl 49 _ _ rfl rfl (stCells (fixSt y.st)) rfl rfl (by kernel_rfl) rfl (by kernel_rfl) ?_; intro W4 bel4 l4 hsz4; refine stay ?_)
      | fail)
    unfold Stay
    have HL4 : Hid (Ls W4 B q (.slice (some ⟨b, off, none⟩) n cap) out ok vo) := HL3.out.keep bel4
    have HB4 : Hid (Below B w W4) := HB3.out.trans (bel4.mono (Nat.le_trans hBs HB3.out.size))
    have hq3 : q < w3.heap.size := lies_lt HL3.out.lies
    clear HL3 HB3
    by_cases h3 : y.st.sh = 3
    · have s0 : W4.cell? ⟨w3.heap.size, 0, none⟩ = some (.int .i64 3) := (lies_cell l4 0).trans (by show some (Value.int .i64 (fixSt y.st).sh) = _; rw [fix_none h3])
      have HKG : Hid (Mt ns (passP ns e') box out ok t) := kid_gone HNS.out HJ.out (by omega) HE'.out (by rw [HD0.out]; exact h3) HMT.out
      clear l4 bel4 hsz4 h3
      go_wp2
      go_roundw
      case rel => exact ⟨p + 1, e', t, out, ok, vo, by omega, by omega, by go_num, rfl, HNX.out, HKG.out, HL4.out, HB4.out⟩
      case measure => simp [intOf]; omega
    have H3 : Hid (¬ (ns.getD p nd0).st.sh = 3) := by show ¬ _; rw [HD0.out]; exact h3
    by_cases hk0 : kindS y.st = 0
    · have s0 : W4.cell? ⟨w3.heap.size, 0, none⟩ = some (.int .i64 2) := (lies_cell l4 0).trans (by show some (Value.int .i64 (fixSt y.st).sh) = _; rw [fix_inline h3 hk0 (by have h := HSH.out p HJ.out HTF.out; rw [HD0.out] at h; exact h)])
      have KI := kid_inline HMT.out HAR.out HTF.out H3.out (by rw [HD0.out]; exact hk0)
      have RR := HR.out p hkj hlt e' box node out ok vo t x W4 HE'.out (innF_of KI.2) (box_stays (by omega) HBX.out) HXN.out HNT.out hno HL4.out KI.1 (HND.out.below HB4.out)
      clear l4 bel4 hsz4 h3 hk0 KI
      go_wp2_with fail
      refine RR.mono ?_
      rintro ev w5 ⟨t', out', ok', vo', rfl, hl5, hm5, hb5⟩
      have HL5 : Hid (_ ∧ _ ∧ _) := And.intro hl5 (And.intro hm5 (HB4.out.trans hb5))
      clear RR hl5 hm5 hb5
      go_wp2
      go_roundw
      case rel => exact ⟨p + 1, e', t', out', ok', vo', by omega, by omega, by go_num, rfl, HNX.out, HL5.out.2.1, HL5.out.1, HL5.out.2.2⟩
      case measure => simp [intOf]; omega
    obtain ⟨fb1, fb2, fb3⟩ := fix_block h3 hk0
    have HK0 : Hid (¬ kindS (ns.getD p nd0).st = 0) := by show ¬ _; rw [HD0.out]; exact hk0
    have s0 : W4.cell? ⟨w3.heap.size, 0, none⟩ = some (.int .i64 1) := (lies_cell l4 0).trans (by show some (Value.int .i64 (fixSt y.st).sh) = _; rw [fb1])
    have F := flush_any B q b off n cap box node ns out ok vo t W4 HL4.out (HND.out.below HB4.out) HWH.out hno HNT.out (by omega) (by omega) (by omega)
    obtain ⟨mf1, mf2⟩ := mt_flush HMT.out (box_stays (k := k + 1) (p := p) (by omega) HBX.out) HXN.out
    rw [mf1, mf2] at F
    have KB := kid_block (ns := ns) (S := passP ns p) HAR.out HTF.out H3.out HK0.out
    have hlE := (endB_ok (pass_ok HNS.out p (Nat.le_of_lt HJ.out)))
    have hbl : box < (endB ns (passP ns p)).length := Nat.lt_of_lt_of_le (List.getElem?_eq_some_iff.1 (box_stays (k := k + 1) (p := p) (by omega) HBX.out)).1 hlE.1
    have hm40 : (endB ns (passP ns p)).length ≤ 40 := Nat.le_trans hlE.2.1 (by omega)
    rw [show kindS (ns.getD p nd0).st = kindS y.st by rw [HD0.out]] at KB
    have HKB : Hid (_ ∧ _) := KB
    have HFL : Hid ((fixSt y.st).fl = y.st.fl ∧ kindS y.st = if y.st.fl = 0 then 1 else 3) := ⟨fb2, fb3⟩
    clear hlE KB mf1 mf2 fb1 fb2 fb3 h3 hk0 bel4 hsz4
    have HL4b : Hid (W4.heap[w3.heap.size]? = some (.cells (stCells (fixSt y.st)) 49 (0, 0))) := l4
    clear l4
    go_wp2_with fail
    refine F.mono ?_
    rintro ev w5 ⟨rfl, ⟨vo5, hl5⟩, hb5, hst5⟩
    have l5 := hst5 _ _ _ _ (by omega) (by decide) HL4b.out
    have s1 : w5.cell? ⟨w3.heap.size, 1, none⟩ = some (.int .i64 y.st.fl) := (lies_cell l5 1).trans (by show some (Value.int .i64 (fixSt y.st).fl) = _; rw [HFL.out.1])
    have HB5 : Hid (Below B w w5) := HB4.out.trans hb5
    clear s0 hst5 F l5 HL4b HB4 hb5 HL4
    generalize hES : endB ns (passP ns p) = es at hl5 HKB hbl hm40
    generalize hOS : ((passP ns p).ok && endO (passP ns p)) = os5 at hl5 HKB
    clear hES hOS
    obtain ⟨ao, co, hvo⟩ := own_form hl5.oo
    subst hvo
    obtain ⟨m, hm⟩ : ∃ m, m = es.length := ⟨_, rfl⟩
    rw [← hm] at hl5 HKB hbl hm40
    have HM : Hid (m = es.length) := hm
    have HL5 : Hid (Ls w5 B q (.slice (some ⟨b, off, none⟩) n cap) es os5 (.slice ao m co)) := hl5
    have c1 : w5.cell? ⟨q, 1, none⟩ = some (.slice ao m co) := (lies_cell hl5.lies 1).trans rfl
    have o2 : w5.ownsRow B 76 4 (.slice ao m co) m (flatB es) := by have h := hl5.oo; rw [← hm] at h; exact h
    have hB5 : B ≤ w5.heap.size := Nat.le_trans hBs HB5.out.size
    clear hm hl5
    obtain ⟨i0, hi, hz0, hz1, hz2⟩ := bhInfo
    by_cases hf : y.st.fl = 0
    · rw [hf] at s1
      have HKD : Hid (kindS y.st = 1) := by show _ = _; rw [HFL.out.2]; rw [if_pos hf]
      rw [HKD.out] at HKB
      clear HKD HFL
      go_wp2_with (at_builtin; refine wpList_append_own_at _ rfl (.tmp 66) (.tmp 71) 24 rfl B 76 i0 _ 4 40 Tryd.underlying24 hi hz0 hz1 hz2 rfl (by decide) _ _ _ rfl (o2.alloc _) ⟨w5.heap.size, 0, none⟩ 1 1 [.int .i64 1, .int .i64 (p : Int), .int .i64 (box : Int), .string ByteArray.empty] rfl rfl (World.news_of_block (cs := #[.int .i64 1, .int .i64 (p : Int), .int .i64 (box : Int), .string ByteArray.empty]) (heap_at _ _ _ rfl)) (one4 _ _ _ _) (by unfold maxLen; omega) (by omega) (by simp; omega) ?_)
      intro v' w6 hown6 hgrow6 _ _
      obtain ⟨a6, k6, rfl⟩ := own_form hown6
      have GA := HL5.out.keep ((Below.refl _ _).alloc (Nat.le_refl _) (.cells #[.int .i64 1, .int .i64 (p : Int), .int .i64 (box : Int), .string ByteArray.empty] 76))
      have l6 : w6.heap[q]? = _ := (hgrow6.block q (lies_lt GA.lies) (fun e => own_ne GA.oo GA.lies (by decide) e.symm)).trans GA.lies
      have d1 : w6.cell? ⟨q, 1, none⟩ = some (.slice ao m co) := (lies_cell l6 1).trans rfl
      have g1 : w6.frozen? ⟨q, 1, none⟩ = false := Lib.frozen_of_heap l6 1
      have R6 := GA.putB (out' := es ++ [(⟨1, (p : Int), (box : Int), ByteArray.empty⟩ : Bx)]) hgrow6 (by rw [flatB_snoc, List.length_append, ← HM.out]; exact hown6)
      have B6 := ((HB5.out.alloc hB5 _).grown hgrow6 (by simp; omega) (fun k hk => (GA.oo.lt k hk).1)).setCell (p := ⟨q, 1, none⟩) GA.hp (.slice a6 (m + 1) k6)
      have IN := inside_of B q b off n cap p ns HNS.out HWH.out (HR.out p hkj hlt) e' m (es ++ [(⟨1, (p : Int), (box : Int), ByteArray.empty⟩ : Bx)]) os5 _ (⟨1, (p : Int), (box : Int), ByteArray.empty⟩ : Bx) _ HE'.out (innF_of HKB.out.2.1) HKB.out.2.2 rfl HTF.out hlt R6 HKB.out.1 (HND.out.below B6)
      have HB6 : Hid (_) := B6
      clear R6 B6 GA l6 hown6 hgrow6 o2 HL5 HB5 c1 s1
      go_wp2_with fail
      refine IN.mono ?_
      rintro ev w7 ⟨rfl, ⟨t', out', ok', vo', hl7, hm7⟩, hb7⟩
      have AB := after_block hm7 hbl (box_stays (k := p + 1) (p := e') HE'.out.gt HKB.out.2.2) rfl
      have HF : Hid (_ ∧ _ ∧ _) := And.intro AB (And.intro hl7 (HB6.out.trans hb7))
      clear AB hl7 hm7 hb7 IN HB6 HKB
      go_wp2
      go_roundw
      case rel => exact ⟨p + 1, e', ByteArray.empty, _, _, vo', by omega, by omega, by go_num, rfl, HNX.out, HF.out.1, HF.out.2.1, HF.out.2.2⟩
      case measure => simp [intOf]; omega
    · have hfb : (y.st.fl == 0) = false := by simpa using hf
      have HKD : Hid (kindS y.st = 3) := by show _ = _; rw [HFL.out.2]; rw [if_neg hf]
      rw [HKD.out] at HKB
      clear HKD HFL
      go_wp2_with (at_builtin; refine wpList_append_own_at _ rfl (.tmp 66) (.tmp 71) 24 rfl B 76 i0 _ 4 40 Tryd.underlying24 hi hz0 hz1 hz2 rfl (by decide) _ _ _ rfl (o2.alloc _) ⟨w5.heap.size, 0, none⟩ 1 1 [.int .i64 3, .int .i64 (p : Int), .int .i64 (box : Int), .string ByteArray.empty] rfl rfl (World.news_of_block (cs := #[.int .i64 3, .int .i64 (p : Int), .int .i64 (box : Int), .string ByteArray.empty]) (heap_at _ _ _ rfl)) (one4 _ _ _ _) (by unfold maxLen; omega) (by omega) (by simp; omega) ?_)
      intro v' w6 hown6 hgrow6 _ _
      obtain ⟨a6, k6, rfl⟩ := own_form hown6
      have GA := HL5.out.keep ((Below.refl _ _).alloc (Nat.le_refl _) (.cells #[.int .i64 3, .int .i64 (p : Int), .int .i64 (box : Int), .string ByteArray.empty] 76))
      have l6 : w6.heap[q]? = _ := (hgrow6.block q (lies_lt GA.lies) (fun e => own_ne GA.oo GA.lies (by decide) e.symm)).trans GA.lies
      have d1 : w6.cell? ⟨q, 1, none⟩ = some (.slice ao m co) := (lies_cell l6 1).trans rfl
      have g1 : w6.frozen? ⟨q, 1, none⟩ = false := Lib.frozen_of_heap l6 1
      have R6 := GA.putB (out' := es ++ [(⟨3, (p : Int), (box : Int), ByteArray.empty⟩ : Bx)]) hgrow6 (by rw [flatB_snoc, List.length_append, ← HM.out]; exact hown6)
      have B6 := ((HB5.out.alloc hB5 _).grown hgrow6 (by simp; omega) (fun k hk => (GA.oo.lt k hk).1)).setCell (p := ⟨q, 1, none⟩) GA.hp (.slice a6 (m + 1) k6)
      have IN := inside_of B q b off n cap p ns HNS.out HWH.out (HR.out p hkj hlt) e' m (es ++ [(⟨3, (p : Int), (box : Int), ByteArray.empty⟩ : Bx)]) os5 _ (⟨3, (p : Int), (box : Int), ByteArray.empty⟩ : Bx) _ HE'.out (innF_of HKB.out.2.1) HKB.out.2.2 rfl HTF.out hlt R6 HKB.out.1 (HND.out.below B6)
      have HB6 : Hid (_) := B6
      clear R6 B6 GA l6 hown6 hgrow6 o2 HL5 HB5 c1 s1
      go_wp2_with fail
      refine IN.mono ?_
      rintro ev w7 ⟨rfl, ⟨t', out', ok', vo', hl7, hm7⟩, hb7⟩
      have AB := after_block hm7 hbl (box_stays (k := p + 1) (p := e') HE'.out.gt HKB.out.2.2) rfl
      have HF : Hid (_ ∧ _ ∧ _) := And.intro AB (And.intro hl7 (HB6.out.trans hb7))
      clear AB hl7 hm7 hb7 IN HB6 HKB
      go_wp2
      go_roundw
      case rel => exact ⟨p + 1, e', ByteArray.empty, _, _, vo', by omega, by omega, by go_num, rfl, HNX.out, HF.out.1, HF.out.2.1, HF.out.2.2⟩
      case measure => simp [intOf]; omega
theorem run_any (B q b off n cap : Nat) (ns : List Nd) (hns : NsOk ns) (hwh : WhOk ns) (hsh : ∀ j, j < ns.length → isT ns j = false → inB 1 3 (ns.getD j nd0).st.sh = true) : ∀ (m k : Nat), k < n → n - k ≤ m → RunOk B q b off n cap ns k
  | 0, k, hk, hm => by omega
  | m + 1, k, hk, hm => run_step B q b off n cap ns hns hwh hsh k hk fun j hj hjn => run_any B q b off n cap ns hns hwh hsh m j hjn (by omega)
end Go.Proofs.YtbphninknpfcmaaDoor

namespace Go.Proofs.YtbphninknpfcmaaDoor
open Go.ChangeShapes Go.WideShapes Go.ChangeAt Go.RowKit
set_option linter.unusedVariables false

theorem sh_ok {ns : List Nd} (h : treeB (okB true) styleB ns = true) : ∀ j, j < ns.length → isT ns j = false → inB 1 3 (ns.getD j nd0).st.sh = true := by
  obtain ⟨_, hp⟩ := treeB_parts h
  intro j hj hT
  have := (hp j hj).2
  unfold okN at this
  unfold isT at hT
  rw [if_neg (by rw [hT]; decide)] at this
  simp only [Bool.and_eq_true, decide_eq_true_eq] at this
  have h2 := this.2
  unfold styleB gA at h2
  simp only [Bool.and_eq_true] at h2
  exact h2.1.1.1.1.1.1.1.1
theorem pass_one {ns : List Nd} (hns : NsOk ns) (h0 : 0 < ns.length) (hk : kindS (ns.getD 0 nd0).st = 1) : passP ns 1 = ⟨[⟨1, 0, -1, ByteArray.empty⟩], [0], ByteArray.empty, -1, true⟩ := by
  have hup : upL ns 0 = -1 := (hns.stands 0 h0).top rfl
  have har : arP ns (passP ns 0) 0 = -1 := by unfold arP; rw [hup, if_neg (by omega)]
  have h3 : ¬ (ns.getD 0 nd0).st.sh = 3 := fun h => by unfold kindS at hk; rw [if_pos h] at hk; omega
  have hg : ¬ goneP ns (passP ns 0) 0 = true := by
    unfold goneP
    rw [decide_eq_true_eq]
    rintro (h | h)
    · omega
    · exact h3 h
  show takeP ns (passP ns 0) 0 = _
  unfold takeP
  rw [if_neg hg, if_neg (by rw [hns.root]; decide), if_neg (by omega), har, hk]
  rfl
theorem kind_not {s : St} (hs : inB 1 3 s.sh = true) (h : ¬ kindS s = 1) : ¬ (fixSt s).sh = 1 ∨ ((fixSt s).sh = 1 ∧ ¬ (fixSt s).fl = 0) := by
  by_cases h3 : s.sh = 3
  · left; rw [fix_none h3]; omega
  · by_cases h0 : kindS s = 0
    · left; rw [fix_inline h3 h0 hs]; omega
    · right
      obtain ⟨a, b, c⟩ := fix_block h3 h0
      refine ⟨a, ?_⟩
      rw [b]
      intro hf
      rw [if_pos hf] at c
      exact h c
theorem kind_yes {s : St} (h : kindS s = 1) : (fixSt s).sh = 1 ∧ (fixSt s).fl = 0 := by
  have h3 : ¬ s.sh = 3 := fun hh => by unfold kindS at h; rw [if_pos hh] at h; omega
  obtain ⟨a, b, c⟩ := fix_block h3 (by omega)
  refine ⟨a, ?_⟩
  rw [b]
  by_cases hf : s.fl = 0
  · exact hf
  · rw [if_neg hf] at c; omega

theorem ownX_lower {w : World} {B B' : Nat} {v : Value} {bs : List Bx} (h : OwnX w B v bs) (hB : B' ≤ B) : OwnX w B' v bs := by
  refine ⟨h.1, ?_⟩
  rcases h.2 with h' | ⟨g, cap, cur, h1, h2, h3⟩
  · exact .inl h'
  · exact .inr ⟨g, cap, cur, h1, Nat.le_trans hB h2, h3⟩
set_option maxRecDepth 100000 in
set_option maxHeartbeats 4000000 in
theorem l5Boxes_not (b off n cap : Nat) (ns : List Nd) (w : World) (hnd : NdAt w w.heap.size b off n ns) (h0 : 0 < n) (hsh : inB 1 3 (ns.getD 0 nd0).st.sh = true) (hk : ¬ kindS (ns.getD 0 nd0).st = 1) :
    Calls Tryd.prog 32 #[(.slice (some ⟨b, off, none⟩) n cap)] w fun e w' => e = .returned (.tuple #[.slice none 0 0, .bool false]) ∧ Below w.heap.size w w' := by
  have h0' : 0 < ns.length := by rw [← hnd.len]; exact h0
  obtain ⟨y, hy⟩ : ∃ y, ns[0]? = some y := ⟨_, List.getElem?_eq_getElem h0'⟩
  have gD : ns.getD 0 nd0 = y := getD_of hy
  rw [gD] at hsh hk
  have hr0 := hnd.rows 0 y hy
  rw [Nat.zero_mul, Nat.add_zero] at hr0
  have RS : w.rangeAt b (off + 2) (stCells y.st).toList := fun j v hj => by
    have := hr0 (2 + j) v (by rw [← hj, show (stCells y.st).toList = (ndL y).drop 2 from rfl, List.getElem?_drop])
    rwa [← Nat.add_assoc] at this
  have FX := fun W => l4Fix_any y.st W
  have hn' : (0 : Int) < (n : Int) := by omega
  have HK := kind_not hsh hk
  have h40 := hnd.le
  clear hnd hy gD hr0 hsh hk
  go_enter Tryd.func32, Tryd.ntmps32
  go_wp2_with (with_reducible show wpList _ _ _ (⟨some 9, Op.load 49 _, _, _, _, _⟩ :: _) _ _; refine wpList_load_mid rfl 49 _ rfl b (off + 2) rfl (stCells y.st).toList _ RS Tryd.underlying49 rfl (by kernel_rfl) ?_)
  refine (FX _).mono ?_
  rintro e w1 ⟨rfl, hb1⟩
  go_wp2_with (first
    | (with_reducible show wpList _ _ _ (⟨none, Op.store 49 _ _, _, _, _, _⟩ :: _) _ _; refine wpList_store_box rfl 49 _ _ rfl rfl (stCells (fixSt y.st)) rfl rfl (by kernel_rfl) rfl (by kernel_rfl) ?_; intro W4 bel4 l4 hsz4; refine stay ?_)
    | fail)
  unfold Stay
  have B4 : Below w.heap.size w W4 := hb1.trans (bel4.mono hb1.size)
  have s0 : W4.cell? ⟨w1.heap.size, 0, none⟩ = some (.int .i64 (fixSt y.st).sh) := (lies_cell l4 0).trans rfl
  have s1 : W4.cell? ⟨w1.heap.size, 1, none⟩ = some (.int .i64 (fixSt y.st).fl) := (lies_cell l4 1).trans rfl
  clear l4 bel4 hsz4 hb1 FX RS
  rcases HK with hk | ⟨hk, hf⟩
  · have hkb : ((fixSt y.st).sh == 1) = false := by simpa using hk
    go_wp2
    go_ret2
    exact ⟨rfl, B4⟩
  · rw [hk] at s0
    have hfb : ((fixSt y.st).fl == 0) = false := by simpa using hf
    go_wp2
    go_ret2
    exact ⟨rfl, B4⟩

set_option maxRecDepth 100000 in
set_option maxHeartbeats 8000000 in
theorem l5Boxes_yes (b off n cap : Nat) (ns : List Nd) (w : World) (hnd : NdAt w w.heap.size b off n ns) (hns : NsOk ns) (hwh : WhOk ns) (hsh : ∀ j, j < ns.length → isT ns j = false → inB 1 3 (ns.getD j nd0).st.sh = true) (h0 : 0 < n) (hk : kindS (ns.getD 0 nd0).st = 1) :
    Calls Tryd.prog 32 #[(.slice (some ⟨b, off, none⟩) n cap)] w fun e w' => ∃ v, e = .returned (.tuple #[v, .bool (boxesOkP ns)]) ∧ OwnX w' w.heap.size v (boxesL ns) ∧ Below w.heap.size w w' := by
  have h0' : 0 < ns.length := by rw [← hnd.len]; exact h0
  obtain ⟨y, hy⟩ : ∃ y, ns[0]? = some y := ⟨_, List.getElem?_eq_getElem h0'⟩
  have gD : ns.getD 0 nd0 = y := getD_of hy
  have HP1 : Hid (passP ns 1 = _) := pass_one hns h0' hk
  rw [gD] at hk
  obtain ⟨k1, k2⟩ := kind_yes hk
  have hr0 := hnd.rows 0 y hy
  rw [Nat.zero_mul, Nat.add_zero] at hr0
  have RS : w.rangeAt b (off + 2) (stCells y.st).toList := fun j v hj => by
    have := hr0 (2 + j) v (by rw [← hj, show (stCells y.st).toList = (ndL y).drop 2 from rfl, List.getElem?_drop])
    rwa [← Nat.add_assoc] at this
  have FX := fun W => l4Fix_any y.st W
  have hn' : (0 : Int) < (n : Int) := by omega
  have h40 := hnd.le
  obtain ⟨e, he⟩ := end_some h0'
  have hee : e = ns.length := end_root hns.stands he
  have HE : Hid (IsEnd ns 0 e ∧ e = ns.length) := ⟨he, hee⟩
  have HND : Hid (NdAt w w.heap.size b off n ns) := hnd
  have HRN : Hid (∀ q, RunOk w.heap.size q b off n cap ns 0) := fun q => run_any w.heap.size q b off n cap ns hns hwh hsh n 0 h0 (by omega)
  have HNS : Hid (NsOk ns ∧ WhOk ns) := ⟨hns, hwh⟩
  have HOK : Hid (PsOk ns ns.length (passP ns ns.length)) := pass_ok hns ns.length (Nat.le_refl _)
  have HLN : Hid (n = ns.length) := hnd.len
  clear hnd hy gD hr0 hk he hee hns hwh hsh
  obtain ⟨i0, hi, hz0, hz1, hz2⟩ := bhInfo
  go_enter Tryd.func32, Tryd.ntmps32
  go_wp2_with (with_reducible show wpList _ _ _ (⟨some 9, Op.load 49 _, _, _, _, _⟩ :: _) _ _; refine wpList_load_mid rfl 49 _ rfl b (off + 2) rfl (stCells y.st).toList _ RS Tryd.underlying49 rfl (by kernel_rfl) ?_)
  refine (FX _).mono ?_
  rintro e w1 ⟨rfl, hb1⟩
  go_wp2_with (first
    | (with_reducible show wpList _ _ _ (⟨none, Op.store 49 _ _, _, _, _, _⟩ :: _) _ _; refine wpList_store_box rfl 49 _ _ rfl rfl (stCells (fixSt y.st)) rfl rfl (by kernel_rfl) rfl (by kernel_rfl) ?_; intro W4 bel4 l4 hsz4; refine stay ?_)
    | fail)
  unfold Stay
  have B4 : Below w.heap.size w W4 := hb1.trans (bel4.mono hb1.size)
  have s0 : W4.cell? ⟨w1.heap.size, 0, none⟩ = some (.int .i64 1) := (lies_cell l4 0).trans (by show some (Value.int .i64 (fixSt y.st).sh) = _; rw [k1])
  have s1 : W4.cell? ⟨w1.heap.size, 1, none⟩ = some (.int .i64 0) := (lies_cell l4 1).trans (by show some (Value.int .i64 (fixSt y.st).fl) = _; rw [k2])
  clear l4 bel4 hsz4 hb1 FX RS k1 k2
  have L0 : Ls (W4.alloc (.cells #[(.slice (some ⟨b, off, none⟩) n cap), .slice none 0 0, .bool true] 98)) w.heap.size W4.heap.size (.slice (some ⟨b, off, none⟩) n cap) [] true (.slice none 0 0) := ⟨B4.size, heap_at _ _ _ rfl, World.ownsRow_nil _ _ _ _⟩
  have B5 := B4.alloc B4.size (.cells #[(.slice (some ⟨b, off, none⟩) n cap), .slice none 0 0, .bool true] 98)
  have o2 := L0.oo
  have HL0 : Hid (Ls (W4.alloc (.cells #[(.slice (some ⟨b, off, none⟩) n cap), .slice none 0 0, .bool true] 98)) w.heap.size W4.heap.size (.slice (some ⟨b, off, none⟩) n cap) [] true (.slice none 0 0)) := L0
  have HB5 : Hid (Below w.heap.size w (W4.alloc (.cells #[(.slice (some ⟨b, off, none⟩) n cap), .slice none 0 0, .bool true] 98))) := B5
  have hB4 := B4.size
  clear L0 B5 B4
  go_wp2_with (at_builtin; refine wpList_append_own_at _ rfl (.tmp 26) (.tmp 28) 24 rfl w.heap.size 76 i0 _ 4 40 Tryd.underlying24 hi hz0 hz1 hz2 rfl (by decide) _ 0 [] rfl (o2.alloc _) ⟨W4.heap.size + 1, 0, none⟩ 1 1 [.int .i64 1, .int .i64 0, .int .i64 (-1), .string ByteArray.empty] rfl rfl (World.news_of_block (cs := #[.int .i64 1, .int .i64 0, .int .i64 (-1), .string ByteArray.empty]) (heap_at _ _ _ (by simp))) (one4 _ _ _ _) (by unfold maxLen; omega) (by omega) (by simp; omega) ?_)
  intro v' w6 hown6 hgrow6 _ _
  obtain ⟨a6, k6, rfl⟩ := own_form hown6
  have GA := HL0.out.keep ((Below.refl _ _).alloc (Nat.le_refl _) (.cells #[.int .i64 1, .int .i64 0, .int .i64 (-1), .string ByteArray.empty] 76))
  have l6 : w6.heap[W4.heap.size]? = _ := (hgrow6.block W4.heap.size (lies_lt GA.lies) (fun e => own_ne GA.oo GA.lies (by decide) e.symm)).trans GA.lies
  have d1 : w6.cell? ⟨W4.heap.size, 1, none⟩ = some (.slice none 0 0) := (lies_cell l6 1).trans rfl
  have g1 : w6.frozen? ⟨W4.heap.size, 1, none⟩ = false := Lib.frozen_of_heap l6 1
  have R6 := GA.putB (out' := [(⟨1, 0, -1, ByteArray.empty⟩ : Bx)]) hgrow6 hown6
  have B6 := ((HB5.out.alloc HB5.out.size _).grown hgrow6 (by simp; omega) (fun k hk => (GA.oo.lt k hk).1)).setCell (p := ⟨W4.heap.size, 1, none⟩) GA.hp (.slice a6 (0 + 1) k6)
  have IN := inside_of w.heap.size W4.heap.size b off n cap 0 ns HNS.out.1 HNS.out.2 (HRN.out _) e 0 [(⟨1, 0, -1, ByteArray.empty⟩ : Bx)] true _ (⟨1, 0, -1, ByteArray.empty⟩ : Bx) _ HE.out.1 (by unfold innF; rw [HP1.out]; rfl) (by rw [HP1.out]; rfl) rfl HNS.out.1.root h0 R6 (by rw [HP1.out]; exact .inl ⟨rfl, rfl, rfl, fun hh => absurd rfl hh⟩) (HND.out.below B6)
  have HB6 : Hid (_) := B6
  clear R6 B6 GA l6 hown6 hgrow6 o2 HL0 HB5
  go_wp2_with fail
  refine IN.mono ?_
  rintro ev w7 ⟨rfl, ⟨t', out', ok', vo', hl7, hm7⟩, hb7⟩
  obtain ⟨f1, f2⟩ := mt_flush hm7 (box_stays (k := 1) (p := e) HE.out.1.gt (x := ⟨1, 0, -1, ByteArray.empty⟩) (by rw [HP1.out]; rfl)) (node := 0) rfl
  rw [f1, f2, HE.out.2] at hl7
  have hl8 : Ls w7 w.heap.size W4.heap.size (.slice (some ⟨b, off, none⟩) n cap) (boxesL ns) (boxesOkP ns) vo' := hl7
  have B8 := HB6.out.trans hb7
  have hm40 : (boxesL ns).length ≤ 40 := Nat.le_trans (endB_ok HOK.out).2.1 (by rw [← HLN.out]; exact h40)
  clear hl7 f1 f2 hm7 IN HB6 hb7
  obtain ⟨ao, co, hvo⟩ := own_form hl8.oo
  subst hvo
  have HOX : Hid (OwnX w7 w.heap.size (.slice ao (boxesL ns).length co) (boxesL ns)) := hl8.oo
  have c1 : w7.cell? ⟨W4.heap.size, 1, none⟩ = some (.slice ao (boxesL ns).length co) := (lies_cell hl8.lies 1).trans rfl
  have c2 : w7.cell? ⟨W4.heap.size, 2, none⟩ = some (.bool (boxesOkP ns)) := (lies_cell hl8.lies 2).trans rfl
  have lq7 : W4.heap.size < w7.heap.size := lies_lt hl8.lies
  clear hl8
  obtain ⟨bl, hbl⟩ : ∃ l, l = boxesL ns := ⟨_, rfl⟩
  rw [← hbl] at HOX c1 hm40
  have HBL : Hid (bl = boxesL ns) := hbl
  obtain ⟨m, hm⟩ : ∃ m, m = bl.length := ⟨_, rfl⟩
  rw [← hm] at HOX c1 hm40
  clear hbl hm
  cases hok : boxesOkP ns
  · rw [hok] at c2
    go_wp2
    go_quiet (fail)
    all_goals
      go_wp2
      go_ret2
      exact ⟨.slice ao m co, by rw [hok]; first | rfl | exact congrArg (fun x => Ending.returned (.tuple #[.slice ao m co, .bool x])) (decide_eq_true (by omega)), by rw [← HBL.out]; exact HOX.out, below_drewN B8 _⟩
  · rw [hok] at c2
    go_wp2
    go_quiet (fail)
    all_goals
      go_wp2
      go_ret2
      exact ⟨.slice ao m co, by rw [hok]; first | rfl | exact congrArg (fun x => Ending.returned (.tuple #[.slice ao m co, .bool x])) (decide_eq_true (by omega)), by rw [← HBL.out]; exact HOX.out, below_drewN B8 _⟩

set_option maxRecDepth 100000 in
set_option maxHeartbeats 4000000 in
theorem specBoxes_any (a : Option Addr) (cap : Nat) (ns : List Nd) (w : World) (hr : NdRow w a ns) (hl : ns.length ≤ 1048576) (hs : ∀ x ∈ ns, x.tx.size ≤ 1048576) :
    Calls Tryd.prog 9 #[.slice a ns.length cap] w fun e w' => ∃ v, e = .returned (.tuple #[v, .bool (boxB ns)]) ∧ OwnX w' w.heap.size v (boxR ns) ∧ Below w.heap.size w w' := by
  have GT := specTree_any a cap ns w hr hl hs
  obtain ⟨n, hn⟩ : ∃ n, n = ns.length := ⟨_, rfl⟩
  have HN : Hid (n = ns.length) := hn
  cases hT : treeB (okB true) styleB ns
  · have HB : Hid (boxB ns = false) := by show _ = _; unfold boxB; rw [hT]; rfl
    rw [hT] at GT
    rw [← hn] at GT ⊢
    clear hr hl hs hn
    go_enter Tryd.func9, Tryd.ntmps9
    go_wp2_with fail
    refine GT.mono ?_
    rintro e w1 ⟨rfl, b1⟩
    go_wp2
    go_ret2
    exact ⟨_, by rw [HB.out]; rfl, by rw [boxR_no HB.out]; exact ownX_nil _ _, b1⟩
  rw [hT] at GT
  obtain ⟨⟨h1, h40⟩, _⟩ := treeB_parts hT
  obtain ⟨hns, hwh⟩ := ns_ok hT
  have hsh := sh_ok hT
  obtain ⟨b, off, rfl, hc⟩ : ∃ b off, a = some ⟨b, off, none⟩ ∧ ∀ i n, ns[i]? = some n → w.rangeAt b (off + i * 28) (ndL n) := by
    rcases hr with h | h
    · rw [h] at h1; simp at h1
    · exact h
  obtain ⟨y, hy⟩ : ∃ y, ns[0]? = some y := ⟨_, List.getElem?_eq_getElem (by omega)⟩
  have lb := range_lt (hc 0 y hy)
  have HND : Hid (∀ W, Below w.heap.size w W → NdAt W W.heap.size b off n ns) := by
    show ∀ W, _
    intro W hb
    exact ⟨Nat.lt_of_lt_of_le lb hb.size, HN.out, by rw [HN.out]; exact h40, fun i x hx => range_below (hc i x hx) hb (range_lt (hc i x hx))⟩
  rw [← hn] at GT h1 h40 ⊢
  clear hr hl hs hn hc hy
  by_cases hk : kindS (ns.getD 0 nd0).st = 1
  rotate_left
  · have HB : Hid (boxB ns = false) := by show _ = _; unfold boxB; rw [decide_eq_false hk, Bool.and_false]; rfl
    have LB := fun (W : World) (hb : Below w.heap.size w W) => l5Boxes_not b off n cap ns W (HND.out W hb) h1 (hsh 0 (by rw [← HN.out]; omega) hns.root) hk
    clear hk hsh hns hwh
    go_enter Tryd.func9, Tryd.ntmps9
    go_wp2_with fail
    refine GT.mono ?_
    rintro e w1 ⟨rfl, b1⟩
    go_wp2_with fail
    refine (LB _ b1).mono ?_
    rintro e w2 ⟨rfl, hb2⟩
    have b2 := b1.trans (hb2.mono b1.size)
    clear hb2 b1 LB GT
    go_wp2
    go_ret2
    exact ⟨_, by rw [HB.out]; rfl, by rw [boxR_no HB.out]; exact ownX_nil _ _, b2⟩
  have HBX : Hid (boxB ns = boxesOkP ns) := by show _ = _; unfold boxB; rw [hT, hk]; rfl
  have LB := fun (W : World) (hb : Below w.heap.size w W) => l5Boxes_yes b off n cap ns W (HND.out W hb) hns hwh hsh h1 hk
  clear hk hsh hns hwh hT
  cases hok : boxesOkP ns
  · rw [hok] at LB HBX
    go_enter Tryd.func9, Tryd.ntmps9
    go_wp2_with fail
    refine GT.mono ?_
    rintro e w1 ⟨rfl, b1⟩
    go_wp2_with fail
    refine (LB _ b1).mono ?_
    rintro e w2 ⟨v, rfl, _, hb2⟩
    have b2 := b1.trans (hb2.mono b1.size)
    clear hb2 b1 LB GT hok
    go_wp2
    go_ret2
    exact ⟨_, by rw [HBX.out]; rfl, by rw [boxR_no HBX.out]; exact ownX_nil _ _, b2⟩
  · rw [hok] at LB HBX
    go_enter Tryd.func9, Tryd.ntmps9
    go_wp2_with fail
    refine GT.mono ?_
    rintro e w1 ⟨rfl, b1⟩
    go_wp2_with fail
    refine (LB _ b1).mono ?_
    rintro e w2 ⟨v, rfl, hox, hb2⟩
    have b2 := b1.trans (hb2.mono b1.size)
    have HOX : Hid (OwnX w2 w.heap.size v (boxesL ns)) := ownX_lower hox b1.size
    clear hb2 b1 LB GT hok hox
    go_wp2
    go_ret2
    exact ⟨_, by rw [HBX.out]; rfl, by rw [boxR_yes HBX.out]; exact HOX.out, b2⟩
end Go.Proofs.YtbphninknpfcmaaDoor

namespace Go.Proofs.YtbphninknpfcmaaDoor
open Go.ChangeShapes Go.WideShapes Go.ChangeAt Go.RowKit
set_option linter.unusedVariables false

theorem OwnX.row {w : World} {B : Nat} {v : Value} {bs : List Bx} (h : OwnX w B v bs) : ∃ (a : Option Addr) (cap : Nat), v = .slice a bs.length cap ∧ BxRow w a bs := by
  by_cases h0 : 0 < bs.length
  · obtain ⟨g, cap, rfl⟩ := own_some h h0
    refine ⟨_, _, rfl, .inr ⟨g, 0, rfl, fun i n hi j v hj => ?_⟩⟩
    have hi' := (List.getElem?_eq_some_iff.1 hi).1
    have hj' := (List.getElem?_eq_some_iff.1 hj).1
    rw [bxL_len] at hj'
    have hk := World.ownsRow.cellAt h (i * 4 + j) (by omega)
    rw [Nat.zero_add]
    exact hk.trans (flatB_at bs i n j v hi hj)
  · obtain ⟨a, cap, rfl⟩ := own_form h
    exact ⟨_, _, rfl, .inl (List.eq_nil_of_length_eq_zero (by omega))⟩
theorem OwnX.keep {w w' : World} {B : Nat} {v : Value} {bs : List Bx} (h : OwnX w B v bs) (hb : Below w.heap.size w w') : OwnX w' B v bs := own_keep h hb
theorem OwnX.below {w w' : World} {B B' : Nat} {v : Value} {bs : List Bx} (h : OwnX w B v bs) (hb : Below B' w w') (hlt : ∀ k, v.ownBlock = some k → k < B') : OwnX w' B v bs := by
  refine ⟨h.1, ?_⟩
  rcases h.2 with h' | ⟨g, cap, cur, rfl, hB, hg, hr⟩
  · exact .inl h'
  · exact .inr ⟨g, cap, cur, rfl, hB, (hb.block g (hlt g rfl)).trans hg, hr⟩
theorem ownX_kept {w w' : World} {B g : Nat} {v : Value} {bs : List Bx} (h : OwnX w B v bs) (hg : w.grownBy w' (some g)) (hne : ∀ k, v.ownBlock = some k → k ≠ g) : OwnX w' B v bs :=
  World.ownsRow.kept h hg (by
    cases hv : v.ownBlock with
    | none => exact .inl rfl
    | some k => exact .inr (fun e => hne k hv (Option.some.inj e)))
/-- A row of m boxes that was marked. -/
def MarkX (w : World) (B : Nat) (v : Value) (m : Nat) : Prop := ∃ (a : Option Addr) (cap : Nat), v = .slice a m cap ∧ (m = 0 ∨ ∃ g, a = some ⟨g, 0, none⟩ ∧ B ≤ g ∧ g < w.heap.size ∧ w.rangeAt g 0 (flatM m))
theorem MarkX.keep {w w' : World} {B m : Nat} {v : Value} (h : MarkX w B v m) (hb : Below w.heap.size w w') : MarkX w' B v m := by
  obtain ⟨a, cap, h1, h2⟩ := h
  refine ⟨a, cap, h1, ?_⟩
  rcases h2 with h2 | ⟨g, h3, h4, h5, h6⟩
  · exact .inl h2
  · exact .inr ⟨g, h3, h4, Nat.lt_of_lt_of_le h5 hb.size, range_keep h6 hb h5⟩
theorem mark_own (B m : Nat) (v : Value) (bs : List Bx) (w : World) (hm : m = bs.length) (hl : m ≤ 1048576) (h : OwnX w B v bs) :
    Calls Tryd.prog 15 #[v, .int .i64 1] w fun e w' => e = .returned (.int .i64 ((1 + 4 * m : Nat) : Int)) ∧ MarkX w' B v m ∧ Below B w w' := by
  by_cases h0 : 0 < bs.length
  · obtain ⟨g, cap, rfl⟩ := own_some h h0
    have hlt := World.ownsRow.lt h g rfl
    have ht := bx_there_own h
    rw [← hm] at ht ⊢
    refine (markBoxes_any g m cap w hl ht).mono ?_
    rintro e w' ⟨rfl, hg, hr⟩
    exact ⟨rfl, ⟨_, _, rfl, .inr ⟨g, rfl, hlt.1, Nat.lt_of_lt_of_le hlt.2 hg.size, hr⟩⟩, (Below.refl B w).grown hg (by omega) (fun k hk => by cases hk; exact hlt.1)⟩
  · obtain ⟨a, cap, rfl⟩ := own_form h
    have h0' : bs.length = 0 := by omega
    rw [hm, h0']
    refine (markBoxes_none a cap w).mono ?_
    rintro e w' ⟨rfl, rfl⟩
    exact ⟨rfl, ⟨_, _, rfl, .inl rfl⟩, Below.refl _ _⟩
theorem held_own (B m : Nat) (v : Value) (w : World) (hl : m ≤ 1048576) (h : MarkX w B v m) :
    Calls Tryd.prog 16 #[v, .int .i64 1] w fun e w' => e = .returned (.int .i64 ((1 + 4 * m : Nat) : Int)) ∧ Below w.heap.size w w' := by
  obtain ⟨a, cap, rfl, h2⟩ := h
  rcases h2 with rfl | ⟨g, rfl, _, h5, h6⟩
  · refine (heldBoxes_none a cap w).mono ?_
    rintro e w' ⟨rfl, rfl⟩
    exact ⟨rfl, Below.refl _ _⟩
  · exact heldBoxes_any g m cap w hl h5 h6
theorem boxR_len (ns : List Nd) : (boxR ns).length ≤ 40 := by
  unfold boxR
  split
  · rename_i h
    unfold boxB at h
    rw [Bool.and_eq_true, Bool.and_eq_true] at h
    obtain ⟨⟨_, h40⟩, _⟩ := treeB_parts h.1.1
    exact Nat.le_trans (endB_ok (pass_ok (ns_ok h.1.1).1 ns.length (Nat.le_refl _))).2.1 h40
  · simp
end Go.Proofs.YtbphninknpfcmaaDoor
