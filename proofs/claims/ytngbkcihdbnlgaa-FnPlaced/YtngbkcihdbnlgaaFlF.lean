/-
  The law FnPlaced walked: a float that is placed is apart from those that are apart, for drawn floats.
-/
import Derived.Test.YtngbkcihdbnlgaaFlE
import Derived.Test.YtngbkcihdbnlgaaAfN
import Derived.Laws.StructEq
import Derived.Deep.AppendLies
namespace Go.Proofs.Ytngbkcihdbnlgaa
open Go.ChangeShapes Go.WideShapes Go.ChangeAt Go.RowKit
set_option linter.unusedVariables false

theorem goodA_put {l : List Asd} {side wide high y left right : Int} (hd : DrawnL l) (w1 : wide ≤ 3200) (l0 : 0 ≤ left) (l1 : left ≤ 128) (r0 : 640 ≤ right) (r1 : right ≤ 2560) (h : placeOk l side wide high y left right = true) : goodA (putF l side wide high y left right) = true := by
  unfold placeOk at h
  simp only [Bool.and_eq_true] at h
  obtain ⟨⟨⟨⟨⟨⟨⟨hg, _⟩, hs⟩, hw⟩, hh⟩, hy⟩, _⟩, _⟩ := h
  have hw' := inB_yes hw
  have hh' := inB_yes hh
  have hy' := inB_yes hy
  have hN : ∀ x ∈ l, Near 2000000 x ∧ 0 ≤ x.h := fun x hx => ⟨hd.2 x hx (goodF_mem hg hx), (goodA_parts (goodF_mem hg hx)).2.2.1.1⟩
  have a := putF_near (side := side) (wide := wide) (high := high) (y := y) (left := left) (right := right) (B := 2000000) (D := 3200) hN (by omega) hw'.1 w1 (by omega) (by omega) (by omega) (by omega)
  have b := putF_top (side := side) (wide := wide) (high := high) (y := y) (left := left) (right := right) (B := 100000000) (fun x hx => ⟨(hN x hx).1.more (by omega), (hN x hx).2⟩) (by omega)
  have c := (put_F l side wide high y left right).ge
  have d := (beg_ge l y).1
  unfold goodA sideB
  have e1 : nearB (putF l side wide high y left right).x = true := decide_eq_true (by omega)
  have e2 : nearB (putF l side wide high y left right).y = true := decide_eq_true (by omega)
  rw [e1, e2]
  show (((decide (side = 1) || decide (side = 2)) && extB wide && extB high && true) && true) = true
  rw [hs, hw, hh]
  rfl
theorem place_agree {l : List Asd} {side wide high y left right : Int} (hd : DrawnL l) (w1 : wide ≤ 3200) (l0 : 0 ≤ left) (l1 : left ≤ 128) (r0 : 640 ≤ right) (r1 : right ≤ 2560) : placeOkI l side wide high y left right = placeOk l side wide high y left right := by
  unfold placeOkI
  cases h : placeOk l side wide high y left right with
  | false => rfl
  | true => rw [goodA_put hd w1 l0 l1 r0 r1 h]; rfl
theorem apB_snoc {l : List Asd} {x : Asd} (h : apB l = true) (hx : ∀ o ∈ l, meetB x o = false) : apB (l ++ [x]) = true := by
  refine apB_yes fun i y hi hy => ?_
  by_cases e : i < l.length
  · rw [List.getElem?_append_left e] at hy
    rw [List.take_append_of_le_length (Nat.le_of_lt e)]
    cases hm : (l.take i).any (meetB y) with
    | false => rfl
    | true => rw [apB_no hy hm] at h; cases h
  · rw [List.getElem?_append_right (by omega)] at hy
    have e2 : i = l.length := by
      have := (List.getElem?_eq_some_iff.1 hy).1
      simp at this
      omega
    subst e2
    simp at hy
    subst hy
    rw [List.take_left]
    exact any_no fun j o hj ho => hx o (List.mem_of_getElem? ho)
theorem own_lower {w : World} {B B' : Nat} {e : TypeId} {size : Nat} {v : Value} {n : Nat} {xs : List Value} (h : w.ownsRow B e size v n xs) (hB : B' ≤ B) : w.ownsRow B' e size v n xs := by
  refine ⟨h.1, ?_⟩
  rcases h.2 with hn | ⟨g, cap, cur, rfl, hbg, rest⟩
  · exact .inl hn
  · exact .inr ⟨g, cap, cur, rfl, by omega, rest⟩
theorem five_old (w : World) (x : Asd) (t : TypeId) (o : Obj) (j : Nat) (u : Value) (hj : (asL x)[j]? = some u) : ((w.alloc (.cells #[.int .i64 x.sd, .int .i64 x.x, .int .i64 x.y, .int .i64 x.w, .int .i64 x.h] t)).alloc o).cell? ((⟨w.heap.size, 0, none⟩ : Addr).add j) = some u := by
  have h := five_cells w x t w.heap.size rfl j u hj
  rw [Addr.add_lit] at h ⊢
  exact (World.cell?_alloc_lt _ _ _ (by simp)).trans h
theorem neqA_held : Try.prog.stoodInHeld 27 = false := by kernel_rfl
theorem neqA_guard : Try.prog.eqGuardType Try.prog.depth 27 = false := by kernel_rfl
theorem neqA_fields : Try.prog.underlying 27 = some (.struct (Try.prog.fieldsOf 27)) := by kernel_rfl
theorem neqA_run (a b c d e : Int) (w : World) :
    (binOp .neq 27 (.agg #[.int .i64 a, .int .i64 b, .int .i64 c, .int .i64 d, .int .i64 e]) (.agg #[.int .i64 a, .int .i64 b, .int .i64 c, .int .i64 d, .int .i64 e])).run Try.prog w = .ok (.bool false) w := by
  rw [run_neq_struct, run_equalIn_agg _ _ _ _ _ neqA_fields neqA_held]
  simp only [Program.fieldsOf, Try.underlying27]
  simp [Op.eqFields, go_sem, Try.underlying3]
set_option maxRecDepth 100000 in
set_option maxHeartbeats 16000000 in
theorem placed_law (a : Option Addr) (len cap : Nat) (w : World) (hB : RowB w a len) (hl : len ≤ 140737488355328) :
    Calls Try.prog 3 #[.slice a len cap] w fun e w' => e = .returned (.bool true) ∧ Below w.heap.size w w' := by
  by_cases hbig : 1048576 < len
  · have hbig' : (1048576 : Int) < (len : Int) := by omega
    clear hB
    go_enter Try.func3, Try.ntmps3
    go_wp2
    go_ret
    exact ⟨rfl, Below.refl _ _⟩
  have hbig' : ¬ ((1048576 : Int) < (len : Int)) := by omega
  have D := drawPlace_any a len cap w (by omega) hB
  clear hB
  go_enter Try.func3, Try.ntmps3
  go_wp2_with fail
  refine D.mono ?_
  rintro e w1 ⟨v, l, side, wide, high, y, left, right, rfl, dp⟩
  clear D hbig hbig'
  have b1 := dp.bel
  have hd := dp.dl
  obtain ⟨a3, cap3, hv, hh, hr⟩ := dp.own.handed
  subst hv
  have hlen := hd.1
  obtain ⟨L, hL⟩ : ∃ L, L = l.length := ⟨_, rfl⟩
  have AG := place_agree (side := side) (high := high) (y := y) hd dp.w1 dp.l0 dp.l1 dp.r0 dp.r1
  have PI := fun (W : World) (h : Below w1.heap.size w1 W) => implPlace_any a3 l.length cap3 l side wide high y left right W hh rfl (hr.below h) (by omega)
  have PS := fun (W : World) (h : Below w1.heap.size w1 W) => specPlace_any a3 l.length cap3 l side wide high y left right W rfl (hr.below h) (by omega)
  have RI : placeRI l side wide high y left right = placeR l side wide high y left right := by unfold placeRI placeR; rw [AG]
  rw [AG, RI] at PI
  have HRW : Hid (AsRow w1 a3 l) := hr
  have HHD : Hid (Handed a3 l.length cap3) := hh
  rw [← hL] at PI PS hlen ⊢
  have HL : Hid (L = l.length) := hL
  have HDP : Hid (DrawnP w w1 (.slice a3 l.length cap3) l wide left right) := dp
  clear AG RI hd dp hr hh hL
  rcases Bool.eq_false_or_eq_true (placeOk l side wide high y left right) with hok | hok
  rotate_left
  · have hR : placeR l side wide high y left right = as0 := by unfold placeR; rw [hok]; rfl
    rw [hok, hR] at PI PS
    have PI' : ∀ (W : World), Below w1.heap.size w1 W → Calls Try.prog 10 #[.slice a3 L cap3, .int .i64 side, .int .i64 wide, .int .i64 high, .int .i64 y, .int .i64 left, .int .i64 right] W fun e w' => e = .returned (.tuple #[.agg #[.int .i64 0, .int .i64 0, .int .i64 0, .int .i64 0, .int .i64 0], .bool false]) ∧ Below W.heap.size W w' := PI
    have PS' : ∀ (W : World), Below w1.heap.size w1 W → Calls Try.prog 11 #[.slice a3 L cap3, .int .i64 side, .int .i64 wide, .int .i64 high, .int .i64 y, .int .i64 left, .int .i64 right] W fun e w' => e = .returned (.tuple #[.agg #[.int .i64 0, .int .i64 0, .int .i64 0, .int .i64 0, .int .i64 0], .bool false]) ∧ Below W.heap.size W w' := PS
    have EQ := neqA_run 0 0 0 0 0
    have GD := fun (w : World) (x y : Operand) => run_eqGuard_agg (P := Try.prog) w .neq 27 x y #[.int .i64 0, .int .i64 0, .int .i64 0, .int .i64 0, .int .i64 0] #[.int .i64 0, .int .i64 0, .int .i64 0, .int .i64 0, .int .i64 0] neqA_guard
    clear PI PS hR hok
    go_wp2_with fail
    refine (PI' _ (Below.refl _ _)).mono ?_
    rintro e w2 ⟨rfl, c2⟩
    have c2' : ∀ o, Below w1.heap.size w1 (w2.alloc o) := fun o => c2.alloc c2.size _
    clear c2 PI'
    go_wp2_with fail
    refine (PS' _ (c2' _)).mono ?_
    rintro e w3 ⟨rfl, c3⟩
    have l3 := below_lies c3 (heap_alloc_new w2 _) (by simp)
    have b3 := b1.trans (((c2' _).trans (c3.mono (c2' _).size)).mono b1.size)
    obtain ⟨f0, f1, f2, f3, f4⟩ := five_facts l3
    have hlt := lies_lt l3
    have g0 : ∀ o, (w3.alloc o).cell? ⟨w2.heap.size, 0, none⟩ = some (.int .i64 0) := fun o => (World.cell?_alloc_lt _ _ _ hlt).trans f0
    have g1 : ∀ o, (w3.alloc o).cell? ⟨w2.heap.size, 1, none⟩ = some (.int .i64 0) := fun o => (World.cell?_alloc_lt _ _ _ hlt).trans f1
    have g2 : ∀ o, (w3.alloc o).cell? ⟨w2.heap.size, 2, none⟩ = some (.int .i64 0) := fun o => (World.cell?_alloc_lt _ _ _ hlt).trans f2
    have g3 : ∀ o, (w3.alloc o).cell? ⟨w2.heap.size, 3, none⟩ = some (.int .i64 0) := fun o => (World.cell?_alloc_lt _ _ _ hlt).trans f3
    have g4 : ∀ o, (w3.alloc o).cell? ⟨w2.heap.size, 4, none⟩ = some (.int .i64 0) := fun o => (World.cell?_alloc_lt _ _ _ hlt).trans f4
    have b3' : ∀ o, Below w.heap.size w (w3.alloc o) := fun o => b3.alloc b3.size _
    clear c3 c2' l3 PS' f0 f1 f2 f3 f4
    go_wp2
    go_ret
    exact ⟨rfl, b3' _⟩
  have hR : placeR l side wide high y left right = putF l side wide high y left right := by unfold placeR; rw [hok]; rfl
  rw [hok, hR] at PI PS
  have HGX : Hid (goodA (putF l side wide high y left right) = true) := goodA_put HDP.out.dl HDP.out.w1 HDP.out.l0 HDP.out.l1 HDP.out.r0 HDP.out.r1 hok
  have hparts : goodF l = true ∧ (side = 1 ∨ side = 2) ∧ 0 ≤ high := by
    unfold placeOk at hok
    simp only [Bool.and_eq_true, Bool.or_eq_true, decide_eq_true_eq] at hok
    obtain ⟨⟨⟨⟨⟨⟨⟨hg, _⟩, hs⟩, hw⟩, hh⟩, hy⟩, _⟩, _⟩ := hok
    exact ⟨hg, hs, (inB_yes hh).1⟩
  obtain ⟨hg, hside, hh0⟩ := hparts
  have HGF : Hid (goodF l = true) := hg
  have HAP : Hid (∀ o ∈ l, meetB (putF l side wide high y left right) o = false) := fun o ho => putF_apart (fun x hm => goodF_mem hg hm) hside hh0 ho
  have HFO : Hid (∀ o ∈ l, o.y ≤ (putF l side wide high y left right).y) := fun o ho => Int.le_trans ((beg_ge l y).2 o ho) (put_F l side wide high y left right).ge
  have fy : y ≤ (putF l side wide high y left right).y := Int.le_trans (beg_ge l y).1 (put_F l side wide high y left right).ge
  have eX : putF l side wide high y left right = ⟨side, (putF l side wide high y left right).x, (putF l side wide high y left right).y, wide, high⟩ := rfl
  rw [eX] at PI PS HGX HAP
  generalize (putF l side wide high y left right).x = Xx at PI PS HGX HAP
  generalize (putF l side wide high y left right).y = Xy at PI PS HGX HAP HFO fy
  have PI' : ∀ (W : World), Below w1.heap.size w1 W → Calls Try.prog 10 #[.slice a3 L cap3, .int .i64 side, .int .i64 wide, .int .i64 high, .int .i64 y, .int .i64 left, .int .i64 right] W fun e w' => e = .returned (.tuple #[.agg #[.int .i64 side, .int .i64 Xx, .int .i64 Xy, .int .i64 wide, .int .i64 high], .bool true]) ∧ Below W.heap.size W w' := PI
  have PS' : ∀ (W : World), Below w1.heap.size w1 W → Calls Try.prog 11 #[.slice a3 L cap3, .int .i64 side, .int .i64 wide, .int .i64 high, .int .i64 y, .int .i64 left, .int .i64 right] W fun e w' => e = .returned (.tuple #[.agg #[.int .i64 side, .int .i64 Xx, .int .i64 Xy, .int .i64 wide, .int .i64 high], .bool true]) ∧ Below W.heap.size W w' := PS
  have EQ := neqA_run side Xx Xy wide high
  have GD := fun (w : World) (x y : Operand) => run_eqGuard_agg (P := Try.prog) w .neq 27 x y #[.int .i64 side, .int .i64 Xx, .int .i64 Xy, .int .i64 wide, .int .i64 high] #[.int .i64 side, .int .i64 Xx, .int .i64 Xy, .int .i64 wide, .int .i64 high] neqA_guard
  clear PI PS hR hok hg hside hh0 eX
  go_wp2_with fail
  refine (PI' _ (Below.refl _ _)).mono ?_
  rintro e w2 ⟨rfl, c2⟩
  have c2' : ∀ o, Below w1.heap.size w1 (w2.alloc o) := fun o => c2.alloc c2.size _
  clear c2 PI'
  go_wp2_with fail
  refine (PS' _ (c2' _)).mono ?_
  rintro e w3 ⟨rfl, c3⟩
  have l3 := below_lies c3 (heap_alloc_new w2 _) (by simp)
  have d3 := (c2' _).trans (c3.mono (c2' _).size)
  obtain ⟨f0, f1, f2, f3, f4⟩ := five_facts l3
  have hlt := lies_lt l3
  have g0 : ∀ o, (w3.alloc o).cell? ⟨w2.heap.size, 0, none⟩ = some (.int .i64 side) := fun o => (World.cell?_alloc_lt _ _ _ hlt).trans f0
  have g1 : ∀ o, (w3.alloc o).cell? ⟨w2.heap.size, 1, none⟩ = some (.int .i64 Xx) := fun o => (World.cell?_alloc_lt _ _ _ hlt).trans f1
  have g2 : ∀ o, (w3.alloc o).cell? ⟨w2.heap.size, 2, none⟩ = some (.int .i64 Xy) := fun o => (World.cell?_alloc_lt _ _ _ hlt).trans f2
  have g3 : ∀ o, (w3.alloc o).cell? ⟨w2.heap.size, 3, none⟩ = some (.int .i64 wide) := fun o => (World.cell?_alloc_lt _ _ _ hlt).trans f3
  have g4 : ∀ o, (w3.alloc o).cell? ⟨w2.heap.size, 4, none⟩ = some (.int .i64 high) := fun o => (World.cell?_alloc_lt _ _ _ hlt).trans f4
  have HD3 : Hid (∀ o, Below w1.heap.size w1 (w3.alloc o)) := fun o => d3.alloc d3.size _
  have HL3 : Hid (∀ o, (w3.alloc o).heap[w2.heap.size]? = some (.cells #[.int .i64 side, .int .i64 Xx, .int .i64 Xy, .int .i64 wide, .int .i64 high] 27 (0, 0))) := fun o => heap_in l3
  clear c3 c2' l3 PS' f0 f1 f2 f3 f4 d3
  go_wp2_with fail
  clear g0 g1 g2 g3 g4 EQ GD
  have HB1 : Hid (Below w.heap.size w w1) := b1
  clear b1
  go_loopw [92] (fun i wr => ∃ k : Nat, k ≤ L ∧ i = .int .i64 k ∧ wr.heap[w2.heap.size]? = some (.cells #[.int .i64 side, .int .i64 Xx, .int .i64 Xy, .int .i64 wide, .int .i64 high] 27 (0, 0)) ∧ Below w1.heap.size w1 wr) (fun i _ => L - (intOf i).toNat)
  case atStart => exact ⟨0, Nat.zero_le _, rfl, HL3.out _, HD3.out _⟩
  case round =>
    clear HL3 HD3
    obtain ⟨k, hk, rfl, hl2, hbw⟩ := hrel
    by_cases hlt' : k < L
    · obtain ⟨x, hx⟩ : ∃ x, l[k]? = some x := ⟨_, List.getElem?_eq_getElem (by have := HL.out; omega)⟩
      obtain ⟨b, off, hae, hc⟩ := as_some HRW.out hx
      subst hae
      have hr := as_below (hc k x hx) hbw (as_lt (hc k x hx))
      obtain ⟨q0, q1, q2, q3, q4⟩ := as_cells hr
      have ho := HFO.out x (List.mem_of_getElem? hx)
      have hlz := lies_lt hl2
      obtain ⟨f0, f1, f2, f3, f4⟩ := five_facts hl2
      have f2' : ∀ o, (wr.alloc o).cell? ⟨w2.heap.size, 2, none⟩ = some (.int .i64 Xy) := fun o => (World.cell?_alloc_lt _ _ _ hlz).trans f2
      have l2' : ∀ o, (wr.alloc o).heap[w2.heap.size]? = some (.cells #[.int .i64 side, .int .i64 Xx, .int .i64 Xy, .int .i64 wide, .int .i64 high] 27 (0, 0)) := fun o => heap_in hl2
      have b2' : ∀ o, Below w1.heap.size w1 (wr.alloc o) := fun o => hbw.alloc hbw.size _
      clear hc hx hr hl2 hbw f0 f1 f3 f4 hlz
      go_wp2
      go_roundw
      case rel => exact ⟨k + 1, by omega, by go_num, l2' _, b2' _⟩
      case measure => simp [intOf]; omega
    have hcap : L ≤ cap3 := by
      have := HHD.out
      rw [← HL.out] at this
      rcases this with ⟨_, h1, h2⟩ | ⟨h1, _⟩
      · omega
      · exact h1
    have A1 := implApart_any a3 L cap3 l wr HL.out (HRW.out.below hbw) (by omega) hcap
    have e1 : apOk l = true := HGF.out
    have e2 : apR l = apB l := by unfold apR; rw [HGF.out]; rfl
    rw [e1, e2] at A1
    clear e1 e2
    go_wp2_with fail
    refine A1.mono ?_
    rintro e w4 ⟨rfl, c4⟩
    have l4 := below_lies c4 hl2 (lies_lt hl2)
    have d4 := hbw.trans (c4.mono hbw.size)
    clear c4 hl2 hbw A1
    go_wp2_with fail
    have hpos : 0 < L ∨ L = 0 := by omega
    obtain ⟨i0, hi, hz0, hz1, hz2⟩ := info_parts infoAside
    obtain ⟨f0, f1, f2, f3, f4⟩ := five_facts l4
    have hl24 := lies_lt l4
    have fa0 : ∀ o, (w4.alloc o).cell? ⟨w2.heap.size, 0, none⟩ = some (.int .i64 side) := fun o => (World.cell?_alloc_lt _ _ _ hl24).trans f0
    have fa1 : ∀ o, (w4.alloc o).cell? ⟨w2.heap.size, 1, none⟩ = some (.int .i64 Xx) := fun o => (World.cell?_alloc_lt _ _ _ hl24).trans f1
    have fa2 : ∀ o, (w4.alloc o).cell? ⟨w2.heap.size, 2, none⟩ = some (.int .i64 Xy) := fun o => (World.cell?_alloc_lt _ _ _ hl24).trans f2
    have fa3 : ∀ o, (w4.alloc o).cell? ⟨w2.heap.size, 3, none⟩ = some (.int .i64 wide) := fun o => (World.cell?_alloc_lt _ _ _ hl24).trans f3
    have fa4 : ∀ o, (w4.alloc o).cell? ⟨w2.heap.size, 4, none⟩ = some (.int .i64 high) := fun o => (World.cell?_alloc_lt _ _ _ hl24).trans f4
    have HR4 : Hid (AsRow w4 a3 l) := HRW.out.below d4
    have B4 : Below w.heap.size w w4 := HB1.out.trans (d4.mono HB1.out.size)
    have HB4 : Hid (Below w.heap.size w w4) := B4
    have AP2 := fun (W : World) (g cp : Nat) (h : AsRow W (some ⟨g, 0, none⟩) (l ++ [⟨side, Xx, Xy, wide, high⟩])) (hc : L + 1 ≤ cp) => implApart_any (some ⟨g, 0, none⟩) (L + 1) cp (l ++ [⟨side, Xx, Xy, wide, high⟩]) W (by rw [HL.out]; simp) h (by omega) hc
    have HTWO : Hid (apOk (l ++ [⟨side, Xx, Xy, wide, high⟩]) = true → apB l = true → apR (l ++ [⟨side, Xx, Xy, wide, high⟩]) = true) := fun h1 h2 => by
      have h1' : goodF (l ++ [⟨side, Xx, Xy, wide, high⟩]) = true := h1
      unfold apR
      rw [h1', Bool.true_and]
      exact apB_snoc h2 HAP.out
    generalize apOk (l ++ [⟨side, Xx, Xy, wide, high⟩]) = two at AP2 HTWO
    generalize apR (l ++ [⟨side, Xx, Xy, wide, high⟩]) = is at AP2 HTWO
    generalize apB l = was at HTWO
    have hfl : (flatA l).length = L * 5 := by rw [flatA_len, HL.out]
    clear B4 d4 hl24
    rcases hpos with hpos | hzero
    · obtain ⟨x0, hx0⟩ : ∃ x, l[0]? = some x := ⟨_, List.getElem?_eq_getElem (by have := HL.out; omega)⟩
      obtain ⟨b, off, hae, hc⟩ := as_some HR4.out hx0
      subst hae
      have HSRC : Hid (∀ (W : World), Below w4.heap.size w4 W → ∀ j u, (flatA l)[j]? = some u → W.cell? ((⟨b, off, none⟩ : Addr).add j) = some u) := fun W hW j u hj => by
        rw [Addr.add_lit]
        exact row_cells (fun i x hx => as_below (hc i x hx) hW (as_lt (hc i x hx))) j u hj
      clear hc hx0
      go_region_law (first
        | (refine step_append_grows (by rfl) _ _ 23 (by rfl) 27 i0 _ 5 40 Try.underlying23 hi hz0 hz1 hz2 rfl (by decide) _ 0 0 [] (by rfl) (fun h => by simp at h) rfl (fun b' hb' j u hj => by simp at hj) ⟨b, off, none⟩ L cap3 (flatA l) (by rfl) hfl (HSRC.out _ (by repeat (first | exact Below.refl _ _ | refine Below.drew ?_ | refine Below.alloc ?_ (by first | (simp; done) | (simp; omega)) _))) (flatA_one_cell l) (by omega) (by unfold maxLen; omega) (by omega) ?_; intro v5 w5 hown5 hgrow5; obtain ⟨g5, c5, rfl, hc5, r5, hB5, hlt5⟩ := own_row (ns := l) hown5 (by rw [HL.out]; simp) (by omega); have b5 : Below w4.heap.size w4 w5 := Below.grown (by repeat (first | exact Below.refl _ _ | refine Below.drew ?_ | refine Below.alloc ?_ (by first | (simp; done) | (simp; omega)) _)) hgrow5 (by first | (simp; done) | (simp; omega)) (fun k hk => by cases hk); have l5 := below_lies b5 l4 (lies_lt l4); obtain ⟨e0, e1, e2, e3, e4⟩ := five_facts l5; have s5 := hgrow5.size; have hown5b : w5.ownsRow w4.heap.size 27 5 (.slice (some ⟨g5, 0, none⟩) L c5) L (flatA l) := (by have h := hown5; rw [Nat.zero_add] at h; exact own_lower h (by first | (simp; done) | (simp; omega))); have hg5 : w4.heap.size ≤ g5 := Nat.le_trans (by first | (simp; done) | (simp; omega)) hB5)
        | (refine step_append_lies _ (by rfl) _ _ 23 (by rfl) w4.heap.size 27 i0 _ 5 40 Try.underlying23 hi hz0 hz1 hz2 rfl (by decide) (.slice (some ⟨g5, 0, none⟩) L c5) L (flatA l) (by rfl) (by first | exact World.ownsRow.alloc hown5b _ | exact (World.ownsRow.alloc hown5b _).drew) ⟨w5.heap.size, 0, none⟩ 1 1 (asL ⟨side, Xx, Xy, wide, high⟩) (by rfl) (by rfl) (fun j u hj => five_cells w5 ⟨side, Xx, Xy, wide, high⟩ _ _ rfl j u hj) (asL_one _) (by omega) (by unfold maxLen; omega) (by omega) (by first | exact b5.size | (have := b5.size; simp; omega)) _ rfl ?_; intro g6 c6 w6 hown6 hgrow6 hat6 hlt6; obtain ⟨g6', c6', e6, hc6, r6, _, _⟩ := own_row (ns := l ++ [⟨side, Xx, Xy, wide, high⟩]) (by rw [flatA_snoc]; exact hown6) (by rw [HL.out]; simp) (by omega); simp only [Value.slice.injEq, Option.some.injEq, Addr.mk.injEq, and_true, true_and] at e6; obtain ⟨rfl, rfl⟩ := e6; have b6 : Below w4.heap.size w4 w6 := Below.grown (by repeat (first | exact b5 | refine Below.drew ?_ | refine Below.alloc ?_ (by first | (have := b5.size; simp; omega) | (simp; omega)) _)) hgrow6 (by first | exact b5.size | (have := b5.size; simp; omega)) (fun k hk => by simp [Value.ownBlock] at hk; omega))
        | (refine step_append_lies _ (by rfl) _ _ 23 (by rfl) w4.heap.size 27 i0 _ 5 40 Try.underlying23 hi hz0 hz1 hz2 rfl (by decide) (.slice (some ⟨g5, 0, none⟩) L c5) L (flatA l) (by rfl) (by first | exact hown5b | exact hown5b.drew) ⟨w4.heap.size + 1, 0, none⟩ 1 1 (asL ⟨side, Xx, Xy, wide, high⟩) (by rfl) (by rfl) (fun j u hj => World.grownBy.cell hgrow5 (five_cells (w4.alloc (.cells #[] 27)) ⟨side, Xx, Xy, wide, high⟩ _ _ (by simp) j u hj) (by simp)) (asL_one _) (by omega) (by unfold maxLen; omega) (by omega) (by first | exact b5.size | (have := b5.size; simp; omega)) _ rfl ?_; intro g6 c6 w6 hown6 hgrow6 hat6 hlt6; obtain ⟨g6', c6', e6, hc6, r6, _, _⟩ := own_row (ns := l ++ [⟨side, Xx, Xy, wide, high⟩]) (by rw [flatA_snoc]; exact hown6) (by rw [HL.out]; simp) (by omega); simp only [Value.slice.injEq, Option.some.injEq, Addr.mk.injEq, and_true, true_and] at e6; obtain ⟨rfl, rfl⟩ := e6; have b6 : Below w4.heap.size w4 w6 := Below.grown (by repeat (first | exact b5 | refine Below.drew ?_ | refine Below.alloc ?_ (by first | (have := b5.size; simp; omega) | (simp; omega)) _)) hgrow6 (by first | exact b5.size | (have := b5.size; simp; omega)) (fun k hk => by simp [Value.ownBlock] at hk; omega))
        | (refine step_append_lies _ (by rfl) _ _ 23 (by rfl) w4.heap.size 27 i0 _ 5 40 Try.underlying23 hi hz0 hz1 hz2 rfl (by decide) (.slice (some ⟨g5, 0, none⟩) L c5) L (flatA l) (by rfl) (by first | exact hown5b | exact hown5b.drew) ⟨w4.heap.size, 0, none⟩ 1 1 (asL ⟨side, Xx, Xy, wide, high⟩) (by rfl) (by rfl) (fun j u hj => World.grownBy.cell hgrow5 (five_old w4 ⟨side, Xx, Xy, wide, high⟩ _ (.cells #[] 27) j u hj) (by simp)) (asL_one _) (by omega) (by unfold maxLen; omega) (by omega) (by first | exact b5.size | (have := b5.size; simp; omega)) _ rfl ?_; intro g6 c6 w6 hown6 hgrow6 hat6 hlt6; obtain ⟨g6', c6', e6, hc6, r6, _, _⟩ := own_row (ns := l ++ [⟨side, Xx, Xy, wide, high⟩]) (by rw [flatA_snoc]; exact hown6) (by rw [HL.out]; simp) (by omega); simp only [Value.slice.injEq, Option.some.injEq, Addr.mk.injEq, and_true, true_and] at e6; obtain ⟨rfl, rfl⟩ := e6; have b6 : Below w4.heap.size w4 w6 := Below.grown (by repeat (first | exact b5 | refine Below.drew ?_ | refine Below.alloc ?_ (by first | (have := b5.size; simp; omega) | (simp; omega)) _)) hgrow6 (by first | exact b5.size | (have := b5.size; simp; omega)) (fun k hk => by simp [Value.ownBlock] at hk; omega))
        | (go_simp; refine (AP2 w6 g6 c6 r6 hc6).mono ?_; rintro e w7 ⟨rfl, c7⟩; have b7 := HB4.out.trans ((b6.trans (c7.mono b6.size)).mono HB4.out.size); go_wp2_with fail)
        | fail)
      all_goals
        clear AP2
        cases two
        · go_wp2
          go_ret
          exact ⟨rfl, b7⟩
        · cases was
          · go_wp2
            go_ret
            exact ⟨rfl, b7⟩
          · have h := HTWO.out rfl rfl
            subst h
            go_wp2
            go_ret
            exact ⟨rfl, b7⟩
    · subst hzero
      have hl0 : l = [] := List.eq_nil_of_length_eq_zero HL.out.symm
      subst hl0
      clear hfl hlen hlt' hk hcap
      have HH0 := HHD.out
      have AP2' : ∀ (W : World) (g cp : Nat), AsRow W (some ⟨g, 0, none⟩) [⟨side, Xx, Xy, wide, high⟩] → 1 ≤ cp → Calls Try.prog 12 #[.slice (some ⟨g, 0, none⟩) 1 cp] W fun e w' => e = .returned (.tuple #[.bool is, .bool two]) ∧ Below W.heap.size W w' := fun W g cp h hc => AP2 W g cp h hc
      clear AP2
      rcases HH0 with ⟨rfl, _, rfl⟩ | ⟨_, b, off, rfl⟩
      · go_region_law (first
          | (refine step_append_grows (by rfl) _ _ 23 (by rfl) 27 i0 _ 5 40 Try.underlying23 hi hz0 hz1 hz2 rfl (by decide) _ 0 0 [] (by rfl) (fun h => by simp at h) rfl (fun b' hb' j u hj => by simp at hj) ⟨w4.heap.size + 1, 0, none⟩ 1 1 (asL ⟨side, Xx, Xy, wide, high⟩) (by rfl) rfl (fun j u hj => five_cells (w4.alloc (.cells #[] 27)) ⟨side, Xx, Xy, wide, high⟩ _ _ (by simp) j u hj) (asL_one _) (by omega) (by unfold maxLen; omega) (by omega) ?_; intro v6 w6 hown6 hgrow6; obtain ⟨g6, c6, rfl, hc6, r6, _, _⟩ := own_row (n := 0 + 1) (ns := [⟨side, Xx, Xy, wide, high⟩]) (by rw [flatA_one]; exact hown6) rfl (by omega); have b6 : Below w4.heap.size w4 w6 := Below.grown (by repeat (first | exact Below.refl _ _ | refine Below.drew ?_ | refine Below.alloc ?_ (by first | (simp; done) | (simp; omega)) _)) hgrow6 (by first | (simp; done) | (simp; omega)) (fun k hk => by cases hk))
          | (refine step_append_grows (by rfl) _ _ 23 (by rfl) 27 i0 _ 5 40 Try.underlying23 hi hz0 hz1 hz2 rfl (by decide) _ 0 0 [] (by rfl) (fun h => by simp at h) rfl (fun b' hb' j u hj => by simp at hj) ⟨w4.heap.size, 0, none⟩ 1 1 (asL ⟨side, Xx, Xy, wide, high⟩) (by rfl) rfl (fun j u hj => five_old w4 ⟨side, Xx, Xy, wide, high⟩ _ (.cells #[] 27) j u hj) (asL_one _) (by omega) (by unfold maxLen; omega) (by omega) ?_; intro v6 w6 hown6 hgrow6; obtain ⟨g6, c6, rfl, hc6, r6, _, _⟩ := own_row (n := 0 + 1) (ns := [⟨side, Xx, Xy, wide, high⟩]) (by rw [flatA_one]; exact hown6) rfl (by omega); have b6 : Below w4.heap.size w4 w6 := Below.grown (by repeat (first | exact Below.refl _ _ | refine Below.drew ?_ | refine Below.alloc ?_ (by first | (simp; done) | (simp; omega)) _)) hgrow6 (by first | (simp; done) | (simp; omega)) (fun k hk => by cases hk))
          | (go_simp; refine (AP2' w6 g6 c6 r6 hc6).mono ?_; rintro e w7 ⟨rfl, c7⟩; have b7 := HB4.out.trans ((b6.trans (c7.mono b6.size)).mono HB4.out.size); go_wp2_with fail)
          | fail)
        all_goals
          clear AP2'
          cases two
          · go_wp2
            go_ret
            exact ⟨rfl, b7⟩
          · cases was
            · go_wp2
              go_ret
              exact ⟨rfl, b7⟩
            · have h := HTWO.out rfl rfl
              subst h
              go_wp2
              go_ret
              exact ⟨rfl, b7⟩
      · go_region_law (first
          | (refine step_append_grows (by rfl) _ _ 23 (by rfl) 27 i0 _ 5 40 Try.underlying23 hi hz0 hz1 hz2 rfl (by decide) _ 0 0 [] (by rfl) (fun h => by simp at h) rfl (fun b' hb' j u hj => by simp at hj) ⟨w4.heap.size + 1, 0, none⟩ 1 1 (asL ⟨side, Xx, Xy, wide, high⟩) (by rfl) rfl (fun j u hj => five_cells (w4.alloc (.cells #[] 27)) ⟨side, Xx, Xy, wide, high⟩ _ _ (by simp) j u hj) (asL_one _) (by omega) (by unfold maxLen; omega) (by omega) ?_; intro v6 w6 hown6 hgrow6; obtain ⟨g6, c6, rfl, hc6, r6, _, _⟩ := own_row (n := 0 + 1) (ns := [⟨side, Xx, Xy, wide, high⟩]) (by rw [flatA_one]; exact hown6) rfl (by omega); have b6 : Below w4.heap.size w4 w6 := Below.grown (by repeat (first | exact Below.refl _ _ | refine Below.drew ?_ | refine Below.alloc ?_ (by first | (simp; done) | (simp; omega)) _)) hgrow6 (by first | (simp; done) | (simp; omega)) (fun k hk => by cases hk))
          | (refine step_append_grows (by rfl) _ _ 23 (by rfl) 27 i0 _ 5 40 Try.underlying23 hi hz0 hz1 hz2 rfl (by decide) _ 0 0 [] (by rfl) (fun h => by simp at h) rfl (fun b' hb' j u hj => by simp at hj) ⟨w4.heap.size, 0, none⟩ 1 1 (asL ⟨side, Xx, Xy, wide, high⟩) (by rfl) rfl (fun j u hj => five_old w4 ⟨side, Xx, Xy, wide, high⟩ _ (.cells #[] 27) j u hj) (asL_one _) (by omega) (by unfold maxLen; omega) (by omega) ?_; intro v6 w6 hown6 hgrow6; obtain ⟨g6, c6, rfl, hc6, r6, _, _⟩ := own_row (n := 0 + 1) (ns := [⟨side, Xx, Xy, wide, high⟩]) (by rw [flatA_one]; exact hown6) rfl (by omega); have b6 : Below w4.heap.size w4 w6 := Below.grown (by repeat (first | exact Below.refl _ _ | refine Below.drew ?_ | refine Below.alloc ?_ (by first | (simp; done) | (simp; omega)) _)) hgrow6 (by first | (simp; done) | (simp; omega)) (fun k hk => by cases hk))
          | (go_simp; refine (AP2' w6 g6 c6 r6 hc6).mono ?_; rintro e w7 ⟨rfl, c7⟩; have b7 := HB4.out.trans ((b6.trans (c7.mono b6.size)).mono HB4.out.size); go_wp2_with fail)
          | fail)
        all_goals
          clear AP2'
          cases two
          · go_wp2
            go_ret
            exact ⟨rfl, b7⟩
          · cases was
            · go_wp2
              go_ret
              exact ⟨rfl, b7⟩
            · have h := HTWO.out rfl rfl
              subst h
              go_wp2
              go_ret
              exact ⟨rfl, b7⟩
end Go.Proofs.Ytngbkcihdbnlgaa
