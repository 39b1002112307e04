/-
  The things of a style, by number; the program's checkStyle and GoodStyle, for every style.
  The program's GoodStyle, for every style; its eighteen things are good just where the model's tests are met.
-/
import Derived.Test.YtddnphgpdnedbaaGreatDoorMSb
import Derived.Test.YtddnphgpdnedbaaGreatDoorStyT
namespace Go.Proofs.YtddnphgpdnedbaaGreatDoor
open Go.ChangeShapes Go.WideShapes Go.ChangeAt Go.RowKit
set_option linter.unusedVariables false

def nmT (k : Nat) : ByteArray := ([⟨#[115, 104, 111, 119]⟩, ⟨#[102, 108, 111, 97, 116]⟩, ⟨#[99, 108, 101, 97, 114]⟩, ⟨#[119, 105, 100, 116, 104]⟩, ⟨#[104, 101, 105, 103, 104, 116]⟩, ⟨#[109, 105, 110, 45, 119, 105, 100, 116, 104]⟩, ⟨#[109, 97, 120, 45, 119, 105, 100, 116, 104]⟩, ⟨#[109, 97, 114, 103, 105, 110, 45, 116, 111, 112]⟩, ⟨#[109, 97, 114, 103, 105, 110, 45, 114, 105, 103, 104, 116]⟩, ⟨#[109, 97, 114, 103, 105, 110, 45, 98, 111, 116, 116, 111, 109]⟩, ⟨#[109, 97, 114, 103, 105, 110, 45, 108, 101, 102, 116]⟩, ⟨#[98, 111, 114, 100, 101, 114]⟩, ⟨#[112, 97, 100, 100, 105, 110, 103]⟩, ⟨#[119, 104, 105, 116, 101]⟩, ⟨#[97, 108, 105, 103, 110]⟩, ⟨#[108, 105, 110, 101, 45, 104, 101, 105, 103, 104, 116]⟩, ⟨#[114, 105, 103, 104, 116]⟩, ⟨#[100, 111, 119, 110]⟩] : List ByteArray).getD k ByteArray.empty
def p1T (b k : Nat) : Option Addr := ([some ⟨b, 0, none⟩, some ⟨b, 1, none⟩, some ⟨b, 2, none⟩, none, none, some ⟨b, 9, none⟩, some ⟨b, 10, none⟩, some ⟨b, 11, none⟩, none, some ⟨b, 15, none⟩, none, some ⟨b, 19, none⟩, some ⟨b, 20, none⟩, some ⟨b, 21, none⟩, some ⟨b, 22, none⟩, some ⟨b, 23, none⟩, some ⟨b, 24, none⟩, some ⟨b, 25, none⟩] : List (Option Addr)).getD k none
def p2T (b k : Nat) : Option Addr := ([none, none, none, some ⟨b, 3, none⟩, some ⟨b, 6, none⟩, none, none, none, some ⟨b, 12, none⟩, none, some ⟨b, 16, none⟩, none, none, none, none, none, none, none] : List (Option Addr)).getD k none
def loT (k : Nat) : Int := ([1, 0, 0, 0, 0, 0, -1, -1000000, -1000000, -1000000, -1000000, 0, 0, 1, 1, 0, -1000000, -1000000] : List Int).getD k 0
def hiT (k : Nat) : Int := ([3, 2, 3, 1000000, 1000000, 1000000, 1000000, 1000000, 1000000, 1000000, 1000000, 64000, 64000, 5, 3, 64000, 1000000, 1000000] : List Int).getD k 0
def npT (k : Nat) : Bool := ([false, false, false, false, true, false, false, false, false, false, false, false, false, false, false, false, false, false] : List Bool).getD k false
def goodT (s : St) (k : Nat) : Bool := ([inB 1 3 s.sh, inB 0 2 s.fl, inB 0 3 s.cl, szT 0 1000000 false s.w.a s.w.p s.w.n, szT 0 1000000 true s.h.a s.h.p s.h.n, inB 0 1000000 s.mn, inB (-1) 1000000 s.mx, inB (-1000000) 1000000 s.mt, szT (-1000000) 1000000 false s.mr.a s.mr.p s.mr.n, inB (-1000000) 1000000 s.mb, szT (-1000000) 1000000 false s.ml.a s.ml.p s.ml.n, inB 0 64000 s.bo, inB 0 64000 s.pa, inB 1 5 s.wh, inB 1 3 s.al, inB 0 64000 s.lh, inB (-1000000) 1000000 s.ri, inB (-1000000) 1000000 s.dn] : List Bool).getD k true
theorem lt18 {k : Nat} (h : k < 18) : k = 0 ∨ k = 1 ∨ k = 2 ∨ k = 3 ∨ k = 4 ∨ k = 5 ∨ k = 6 ∨ k = 7 ∨ k = 8 ∨ k = 9 ∨ k = 10 ∨ k = 11 ∨ k = 12 ∨ k = 13 ∨ k = 14 ∨ k = 15 ∨ k = 16 ∨ k = 17 := by omega
theorem thing_cells (b : Nat) {k : Nat} (h : k < 18) : (thingCells b)[k * 6]? = some (.string (nmT k)) ∧ (thingCells b)[k * 6 + 1]? = some (.pointer (p1T b k)) ∧ (thingCells b)[k * 6 + 2]? = some (.pointer (p2T b k)) ∧ (thingCells b)[k * 6 + 3]? = some (.int .i64 (loT k)) ∧ (thingCells b)[k * 6 + 4]? = some (.int .i64 (hiT k)) ∧ (thingCells b)[k * 6 + 5]? = some (.bool (npT k)) := by
  rcases lt18 h with rfl | rfl | rfl | rfl | rfl | rfl | rfl | rfl | rfl | rfl | rfl | rfl | rfl | rfl | rfl | rfl | rfl | rfl <;> exact ⟨rfl, rfl, rfl, rfl, rfl, rfl⟩
theorem good_k (s : St) (b k : Nat) (h : k < 18) (w : World) (l0 : w.heap[b]? = some (.cells (#[.int .i64 s.sh, .int .i64 s.fl, .int .i64 s.cl, .bool s.w.a, .bool s.w.p, .int .i64 s.w.n, .bool s.h.a, .bool s.h.p, .int .i64 s.h.n, .int .i64 s.mn, .int .i64 s.mx, .int .i64 s.mt, .bool s.mr.a, .bool s.mr.p, .int .i64 s.mr.n, .int .i64 s.mb, .bool s.ml.a, .bool s.ml.p, .int .i64 s.ml.n, .int .i64 s.bo, .int .i64 s.pa, .int .i64 s.wh, .int .i64 s.al, .int .i64 s.lh, .int .i64 s.ri, .int .i64 s.dn]) 34 (0, 0))) :
    Calls Tryz.prog 110 #[.agg #[.string (nmT k), .pointer (p1T b k), .pointer (p2T b k), .int .i64 (loT k), .int .i64 (hiT k), .bool (npT k)]] w fun e w' => e = .returned (.bool (goodT s k)) ∧ Below w.heap.size w w' := by
  have hc := lies_cell l0
  clear l0
  rcases lt18 h with rfl | rfl | rfl | rfl | rfl | rfl | rfl | rfl | rfl | rfl | rfl | rfl | rfl | rfl | rfl | rfl | rfl | rfl
  · exact goodN_any _ _ _ _ _ _ _ _ (hc 0)
  · exact goodN_any _ _ _ _ _ _ _ _ (hc 1)
  · exact goodN_any _ _ _ _ _ _ _ _ (hc 2)
  · exact goodS_any _ _ _ _ _ _ _ _ _ _ (hc 3) (hc 4) (hc 5)
  · exact goodS_any _ _ _ _ _ _ _ _ _ _ (hc 6) (hc 7) (hc 8)
  · exact goodN_any _ _ _ _ _ _ _ _ (hc 9)
  · exact goodN_any _ _ _ _ _ _ _ _ (hc 10)
  · exact goodN_any _ _ _ _ _ _ _ _ (hc 11)
  · exact goodS_any _ _ _ _ _ _ _ _ _ _ (hc 12) (hc 13) (hc 14)
  · exact goodN_any _ _ _ _ _ _ _ _ (hc 15)
  · exact goodS_any _ _ _ _ _ _ _ _ _ _ (hc 16) (hc 17) (hc 18)
  · exact goodN_any _ _ _ _ _ _ _ _ (hc 19)
  · exact goodN_any _ _ _ _ _ _ _ _ (hc 20)
  · exact goodN_any _ _ _ _ _ _ _ _ (hc 21)
  · exact goodN_any _ _ _ _ _ _ _ _ (hc 22)
  · exact goodN_any _ _ _ _ _ _ _ _ (hc 23)
  · exact goodN_any _ _ _ _ _ _ _ _ (hc 24)
  · exact goodN_any _ _ _ _ _ _ _ _ (hc 25)

theorem below_of_drew {B : Nat} {w w1 : World} (h : Below B w.drew w1) : Below B w w1 := ⟨h.os, h.tape, h.output, h.size, h.block⟩
def allT (s : St) : Bool := (List.range 18).all (goodT s)
theorem allT_no {s : St} {k : Nat} (h : k < 18) (hk : goodT s k = false) : allT s = false := by
  unfold allT
  rw [List.all_eq_false]
  exact ⟨k, List.mem_range.2 h, by simp [hk]⟩
theorem allT_yes {s : St} (h : ∀ j, j < 18 → goodT s j = true) : allT s = true := by
  unfold allT
  rw [List.all_eq_true]
  exact fun j hj => h j (List.mem_range.1 hj)
set_option maxHeartbeats 4000000 in
theorem checkStyle_any (s : St) (w : World) (et : TypeId) (ev : Value) (he : w.cell? ⟨5, 0, none⟩ = some (.iface et ev)) :
    Calls Tryz.prog 97 #[.agg #[.int .i64 s.sh, .int .i64 s.fl, .int .i64 s.cl, .bool s.w.a, .bool s.w.p, .int .i64 s.w.n, .bool s.h.a, .bool s.h.p, .int .i64 s.h.n, .int .i64 s.mn, .int .i64 s.mx, .int .i64 s.mt, .bool s.mr.a, .bool s.mr.p, .int .i64 s.mr.n, .int .i64 s.mb, .bool s.ml.a, .bool s.ml.p, .int .i64 s.ml.n, .int .i64 s.bo, .int .i64 s.pa, .int .i64 s.wh, .int .i64 s.al, .int .i64 s.lh, .int .i64 s.ri, .int .i64 s.dn]] w fun e w' => ∃ v, e = .returned v ∧ ((allT s = true ∧ v = .nilIface) ∨ (allT s = false ∧ ∃ a, v = .iface 136 (.pointer (some a)))) ∧ Below w.heap.size w w' := by
  have lte : 5 < w.heap.size := World.block_lt_of_cell? _ ⟨5, 0, none⟩ he
  have HE : Hid (w.cell? ⟨5, 0, none⟩ = some (.iface et ev)) := he
  clear he
  go_enter Tryz.func97, Tryz.ntmps97
  go_wp2_with (go_at_call 93; refine (thingsOf_at _ _).mono ?_; rintro e w1 ⟨rfl, rfl⟩)
  go_loopw [7] (fun i wr => ∃ k : Nat, k ≤ 18 ∧ i = .int .i64 k ∧ (∀ j, j < k → goodT s j = true) ∧ wr.heap[w.heap.size]? = some (.cells (#[.int .i64 s.sh, .int .i64 s.fl, .int .i64 s.cl, .bool s.w.a, .bool s.w.p, .int .i64 s.w.n, .bool s.h.a, .bool s.h.p, .int .i64 s.h.n, .int .i64 s.mn, .int .i64 s.mx, .int .i64 s.mt, .bool s.mr.a, .bool s.mr.p, .int .i64 s.mr.n, .int .i64 s.mb, .bool s.ml.a, .bool s.ml.p, .int .i64 s.ml.n, .int .i64 s.bo, .int .i64 s.pa, .int .i64 s.wh, .int .i64 s.al, .int .i64 s.lh, .int .i64 s.ri, .int .i64 s.dn]) 34 (0, 0)) ∧ wr.heap[w.heap.size + 1]? = some (.cells (thingCells w.heap.size) 130 (0, 0)) ∧ Below w.heap.size w wr) (fun i _ => 18 - (intOf i).toNat)
  case atStart => exact ⟨0, by omega, rfl, fun j hj => absurd hj (by omega), heap_in (heap_at _ _ _ rfl), heap_at _ _ _ (by simp), (((Below.refl _ _).alloc (Nat.le_refl _) _).alloc (by simp) _).drew⟩
  case round =>
    obtain ⟨k, hk, rfl, hp, l0, l1, bel⟩ := hrel
    have HP : Hid (∀ j, j < k → goodT s j = true) := hp
    clear hp
    have lt1 := lies_lt l1
    have lt0 := lies_lt l0
    have L0 : Hid (wr.heap[w.heap.size]? = some (.cells (#[.int .i64 s.sh, .int .i64 s.fl, .int .i64 s.cl, .bool s.w.a, .bool s.w.p, .int .i64 s.w.n, .bool s.h.a, .bool s.h.p, .int .i64 s.h.n, .int .i64 s.mn, .int .i64 s.mx, .int .i64 s.mt, .bool s.mr.a, .bool s.mr.p, .int .i64 s.mr.n, .int .i64 s.mb, .bool s.ml.a, .bool s.ml.p, .int .i64 s.ml.n, .int .i64 s.bo, .int .i64 s.pa, .int .i64 s.wh, .int .i64 s.al, .int .i64 s.lh, .int .i64 s.ri, .int .i64 s.dn]) 34 (0, 0))) := l0
    have L1 : Hid (wr.heap[w.heap.size + 1]? = some (.cells (thingCells w.heap.size) 130 (0, 0))) := l1
    clear l0
    by_cases hlt : k < 18
    · have GK := fun (W : World) (o : Obj) (h : wr.alloc o = W) => good_k s w.heap.size k hlt (wr.alloc o) (heap_in L0.out)
      obtain ⟨t0, t1, t2, t3, t4, t5⟩ := thing_cells w.heap.size hlt
      have c0 := (lies_cell l1 _).trans t0
      have c1 := (lies_cell l1 _).trans t1
      have c2 := (lies_cell l1 _).trans t2
      have c3 := (lies_cell l1 _).trans t3
      have c4 := (lies_cell l1 _).trans t4
      have c5 := (lies_cell l1 _).trans t5
      clear t0 t1 t2 t3 t4 t5 l1
      cases hg : goodT s k
      · go_wp2_with (go_at_call 110; refine (GK _ _ rfl).mono ?_; rintro e w1 ⟨rfl, hb⟩; have ce : w1.cell? ⟨5, 0, none⟩ = some (.iface et ev) := ((bel.alloc (Nat.le_of_lt lt0) _).trans (hb.mono (by simp; omega))).cell (p := ⟨5, 0, none⟩) lte |>.trans HE.out; have cs : w1.cell? ⟨wr.heap.size, 0, none⟩ = some (.string (nmT k)) := (hb.cell (p := ⟨wr.heap.size, 0, none⟩) (by simp)).trans (by simp [go_sem]))
        go_ret
        exact ⟨_, rfl, .inr ⟨allT_no hlt hg, _, rfl⟩, ((bel.alloc (Nat.le_of_lt lt0) _).trans (hb.mono (by simp; omega))).alloc (by have := hb.size; simp at this; omega) _⟩
      · go_wp2_with (go_at_call 110; refine (GK _ _ rfl).mono ?_; rintro e w1 ⟨rfl, hb⟩)
        go_roundw
        case rel => exact ⟨k + 1, by omega, by go_num, fun j hj => by (rcases Nat.lt_succ_iff_lt_or_eq.1 hj with h | rfl; exact HP.out j h; exact hg), below_lies hb (heap_in L0.out) (by simp; omega), below_lies hb (heap_in L1.out) (by simp; omega), (bel.alloc (Nat.le_of_lt lt0) _).trans (hb.mono (by simp; omega))⟩
        case measure => simp [intOf]; omega
    · have e : k = 18 := by omega
      subst e
      go_wp2
      go_ret
      exact ⟨_, rfl, .inl ⟨allT_yes HP.out, rfl⟩, bel⟩
end Go.Proofs.YtddnphgpdnedbaaGreatDoor

namespace Go.Proofs.YtddnphgpdnedbaaGreatDoor
open Go.ChangeShapes Go.WideShapes Go.ChangeAt Go.RowKit
set_option linter.unusedVariables false

theorem szT_len (a p : Bool) (n : Int) : szT (-1000000) 1000000 false a p n = szB a p n := by
  rw [Bool.eq_iff_iff]
  cases a <;> cases p <;> simp [szT, szB, inB] <;> omega
theorem szT_width (a p : Bool) (n : Int) : szT 0 1000000 false a p n = (szB a p n && !decide (n < 0)) := by
  rw [Bool.eq_iff_iff]
  cases a <;> cases p <;> simp [szT, szB, inB] <;> omega
theorem szT_height (a p : Bool) (n : Int) : szT 0 1000000 true a p n = (szB a p n && !decide (n < 0) && !p) := by
  rw [Bool.eq_iff_iff]
  cases a <;> cases p <;> simp [szT, szB, inB] <;> omega
theorem allT_eq (s : St) : allT s = styleB s := by
  have e : allT s = (goodT s 0 && (goodT s 1 && (goodT s 2 && (goodT s 3 && (goodT s 4 && (goodT s 5 && (goodT s 6 && (goodT s 7 && (goodT s 8 && (goodT s 9 && (goodT s 10 && (goodT s 11 && (goodT s 12 && (goodT s 13 && (goodT s 14 && (goodT s 15 && (goodT s 16 && (goodT s 17 && true)))))))))))))))))) := rfl
  rw [e]
  simp only [goodT, List.getD_cons_zero, List.getD_cons_succ]
  rw [szT_len, szT_len, szT_width, szT_height]
  unfold styleB gA gB gC gD gE
  rw [Bool.eq_iff_iff]
  simp only [Bool.and_eq_true]
  constructor
  · rintro ⟨h0, h1, h2, ⟨h3, h3'⟩, ⟨⟨h4, h4'⟩, h4''⟩, h5, h6, h7, h8, h9, h10, h11, h12, h13, h14, h15, h16, h17, _⟩
    exact ⟨⟨⟨⟨⟨⟨⟨⟨h0, h1⟩, h2⟩, h13⟩, h14⟩, ⟨⟨h3, h4⟩, h10⟩, h8⟩, ⟨⟨⟨h3', h4'⟩, h4''⟩, h5⟩, h6⟩, ⟨⟨h7, h9⟩, h16⟩, h17⟩, ⟨h11, h12⟩, h15⟩
  · rintro ⟨⟨⟨⟨⟨⟨⟨⟨h0, h1⟩, h2⟩, h13⟩, h14⟩, ⟨⟨h3, h4⟩, h10⟩, h8⟩, ⟨⟨⟨h3', h4'⟩, h4''⟩, h5⟩, h6⟩, ⟨⟨h7, h9⟩, h16⟩, h17⟩, ⟨h11, h12⟩, h15⟩
    exact ⟨h0, h1, h2, ⟨h3, h3'⟩, ⟨⟨h4, h4'⟩, h4''⟩, h5, h6, h7, h8, h9, h10, h11, h12, h13, h14, h15, h16, h17, trivial⟩

set_option maxRecDepth 100000 in
set_option maxHeartbeats 4000000 in
theorem implGoodStyle_any (s : St) (w : World) (et : TypeId) (ev : Value) (he : w.cell? ⟨5, 0, none⟩ = some (.iface et ev)) :
    Calls Tryz.prog 79 #[.agg #[.int .i64 s.sh, .int .i64 s.fl, .int .i64 s.cl, .bool s.w.a, .bool s.w.p, .int .i64 s.w.n, .bool s.h.a, .bool s.h.p, .int .i64 s.h.n, .int .i64 s.mn, .int .i64 s.mx, .int .i64 s.mt, .bool s.mr.a, .bool s.mr.p, .int .i64 s.mr.n, .int .i64 s.mb, .bool s.ml.a, .bool s.ml.p, .int .i64 s.ml.n, .int .i64 s.bo, .int .i64 s.pa, .int .i64 s.wh, .int .i64 s.al, .int .i64 s.lh, .int .i64 s.ri, .int .i64 s.dn]] w fun e w' => e = .returned (.bool (styleB s)) ∧ Below w.heap.size w w' := by
  rw [← allT_eq]
  have lte : 5 < w.heap.size := World.block_lt_of_cell? _ ⟨5, 0, none⟩ he
  have CK := checkStyle_any s (w.alloc (.cells (#[.int .i64 s.sh, .int .i64 s.fl, .int .i64 s.cl, .bool s.w.a, .bool s.w.p, .int .i64 s.w.n, .bool s.h.a, .bool s.h.p, .int .i64 s.h.n, .int .i64 s.mn, .int .i64 s.mx, .int .i64 s.mt, .bool s.mr.a, .bool s.mr.p, .int .i64 s.mr.n, .int .i64 s.mb, .bool s.ml.a, .bool s.ml.p, .int .i64 s.ml.n, .int .i64 s.bo, .int .i64 s.pa, .int .i64 s.wh, .int .i64 s.al, .int .i64 s.lh, .int .i64 s.ri, .int .i64 s.dn]) 34)) et ev (by rw [← he]; exact ((Below.refl w.heap.size w).alloc (Nat.le_refl _) _).cell (p := ⟨5, 0, none⟩) lte)
  clear he
  go_enter Tryz.func79, Tryz.ntmps79
  go_wp2_with (first
    | (show wpList _ _ _ (⟨some 3, Op.load 34 _, _, _, _, _⟩ :: _) _ _; refine wpList_load_row rfl 34 _ rfl w.heap.size rfl _ (#[.int .i64 s.sh, .int .i64 s.fl, .int .i64 s.cl, .bool s.w.a, .bool s.w.p, .int .i64 s.w.n, .bool s.h.a, .bool s.h.p, .int .i64 s.h.n, .int .i64 s.mn, .int .i64 s.mx, .int .i64 s.mt, .bool s.mr.a, .bool s.mr.p, .int .i64 s.mr.n, .int .i64 s.mb, .bool s.ml.a, .bool s.ml.p, .int .i64 s.ml.n, .int .i64 s.bo, .int .i64 s.pa, .int .i64 s.wh, .int .i64 s.al, .int .i64 s.lh, .int .i64 s.ri, .int .i64 s.dn]) _ _ (heap_at _ _ _ rfl) Tryz.underlying34 rfl (by kernel_rfl) ?_)
    | (go_at_call 97; refine CK.mono ?_; rintro e w1 ⟨v, rfl, hv, hb⟩; rcases hv with ⟨ha, rfl⟩ | ⟨ha, a, rfl⟩))
  all_goals
    go_wp2
    go_ret
    exact ⟨ret_bool ha.symm, ((Below.refl _ _).alloc (Nat.le_refl _) _).trans (hb.mono (by simp))⟩
end Go.Proofs.YtddnphgpdnedbaaGreatDoor
