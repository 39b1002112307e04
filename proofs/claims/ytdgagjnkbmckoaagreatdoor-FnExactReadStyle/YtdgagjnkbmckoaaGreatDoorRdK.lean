/-
  The program's reader at the k-th thing of a style.
-/
import Derived.Test.YtdgagjnkbmckoaaGreatDoorRdT
import Derived.Test.YtdgagjnkbmckoaaGreatDoorStyC
namespace Go.Proofs.YtdgagjnkbmckoaaGreatDoor
open Go.ChangeShapes Go.WideShapes Go.ChangeAt Go.RowKit
set_option linter.unusedVariables false

/-- A style with its k-th thing set: to a number if it is said by words, else to a size, or a size's number. -/
def setT (s : St) (k : Nat) (n : Int) (z : Sz) : St :=
  match k with
  | 0 => { s with sh := n }
  | 1 => { s with fl := n }
  | 2 => { s with cl := n }
  | 3 => { s with w := z }
  | 4 => { s with h := z }
  | 5 => { s with mn := z.n }
  | 6 => { s with mx := z.n }
  | 7 => { s with mt := z.n }
  | 8 => { s with mr := z }
  | 9 => { s with mb := z.n }
  | 10 => { s with ml := z }
  | 11 => { s with bo := z.n }
  | 12 => { s with pa := z.n }
  | 13 => { s with wh := n }
  | 14 => { s with al := n }
  | 15 => { s with lh := z.n }
  | 16 => { s with ri := z.n }
  | 17 => { s with dn := z.n }
  | _ => s
def wm (k : Nat) : List (ByteArray × Int) :=
  match k with
  | 0 => [(⟨#[98, 108, 111, 99, 107]⟩, 1), (⟨#[105, 110, 108, 105, 110, 101]⟩, 2), (⟨#[110, 111, 110, 101]⟩, 3)]
  | 1 => [(⟨#[110, 111, 110, 101]⟩, 0), (⟨#[108, 101, 102, 116]⟩, 1), (⟨#[114, 105, 103, 104, 116]⟩, 2)]
  | 2 => [(⟨#[110, 111, 110, 101]⟩, 0), (⟨#[108, 101, 102, 116]⟩, 1), (⟨#[114, 105, 103, 104, 116]⟩, 2), (⟨#[98, 111, 116, 104]⟩, 3)]
  | 13 => [(⟨#[110, 111, 114, 109, 97, 108]⟩, 1), (⟨#[110, 111, 119, 114, 97, 112]⟩, 2), (⟨#[112, 114, 101]⟩, 3), (⟨#[112, 114, 101, 45, 119, 114, 97, 112]⟩, 4), (⟨#[112, 114, 101, 45, 108, 105, 110, 101]⟩, 5)]
  | 14 => [(⟨#[108, 101, 102, 116]⟩, 1), (⟨#[114, 105, 103, 104, 116]⟩, 2), (⟨#[99, 101, 110, 116, 101, 114]⟩, 3)]
  | _ => []
def isZ (k : Nat) : Bool := ([false, false, false, true, true, false, false, false, true, false, true, false, false, false, false, false, false, false] : List Bool).getD k false
def isV (k : Nat) : Bool := ([true, true, true, false, false, false, false, false, false, false, false, false, false, true, true, false, false, false] : List Bool).getD k false
def rdOk (k : Nat) (v : ByteArray) : Bool := if isV k then (getW (wm k) v).isSome else if isZ k then szOk v else readB v
def rdN (k : Nat) (v : ByteArray) : Int := if isV k then (getW (wm k) v).getD 0 else 0
def rdZ (k : Nat) (v : ByteArray) : Sz := if isZ k then szVal v else if isV k then ⟨false, false, 0⟩ else ⟨false, false, readN v⟩
def rdSt (s : St) (k : Nat) (v : ByteArray) : St := setT s k (rdN k v) (rdZ k v)

set_option maxRecDepth 100000 in
set_option maxHeartbeats 4000000 in
theorem read_k (s : St) (b k : Nat) (hk : k < 18) (v : ByteArray) (w : World) (hs : v.size ≤ 1048576) (ab : Addr) (hE : BeyE ab w) (hT : ErrT w) (l0 : w.heap[b]? = some (.cells (#[.int .i64 s.sh, .int .i64 s.fl, .int .i64 s.cl, .bool s.w.a, .bool s.w.p, .int .i64 s.w.n, .bool s.h.a, .bool s.h.p, .int .i64 s.h.n, .int .i64 s.mn, .int .i64 s.mx, .int .i64 s.mt, .bool s.mr.a, .bool s.mr.p, .int .i64 s.mr.n, .int .i64 s.mb, .bool s.ml.a, .bool s.ml.p, .int .i64 s.ml.n, .int .i64 s.bo, .int .i64 s.pa, .int .i64 s.wh, .int .i64 s.al, .int .i64 s.lh, .int .i64 s.ri, .int .i64 s.dn]) 25 (0, 0))) :
    Calls Tryz.prog 36 #[.agg #[.string (nmT k), .pointer (p1T b k), .pointer (p2T b k), .int .i64 (loT k), .int .i64 (hiT k), .bool (npT k)], .string v] w fun e w' =>
      (∃ x, e = .returned x ∧ ((rdOk k v = true ∧ x = .nilIface) ∨ (rdOk k v = false ∧ FaultE ab x))) ∧ w'.heap[b]? = some (.cells (let s := rdSt s k v; #[.int .i64 s.sh, .int .i64 s.fl, .int .i64 s.cl, .bool s.w.a, .bool s.w.p, .int .i64 s.w.n, .bool s.h.a, .bool s.h.p, .int .i64 s.h.n, .int .i64 s.mn, .int .i64 s.mx, .int .i64 s.mt, .bool s.mr.a, .bool s.mr.p, .int .i64 s.mr.n, .int .i64 s.mb, .bool s.ml.a, .bool s.ml.p, .int .i64 s.ml.n, .int .i64 s.bo, .int .i64 s.pa, .int .i64 s.wh, .int .i64 s.al, .int .i64 s.lh, .int .i64 s.ri, .int .i64 s.dn]) 25 (0, 0)) ∧ w.grownBy w' (some b) := by
  rcases lt18 hk with rfl | rfl | rfl | rfl | rfl | rfl | rfl | rfl | rfl | rfl | rfl | rfl | rfl | rfl | rfl | rfl | rfl | rfl
  · exact (readW_any _ v b 0 _ _ _ (#[.int .i64 s.sh, .int .i64 s.fl, .int .i64 s.cl, .bool s.w.a, .bool s.w.p, .int .i64 s.w.n, .bool s.h.a, .bool s.h.p, .int .i64 s.h.n, .int .i64 s.mn, .int .i64 s.mx, .int .i64 s.mt, .bool s.mr.a, .bool s.mr.p, .int .i64 s.mr.n, .int .i64 s.mb, .bool s.ml.a, .bool s.ml.p, .int .i64 s.ml.n, .int .i64 s.bo, .int .i64 s.pa, .int .i64 s.wh, .int .i64 s.al, .int .i64 s.lh, .int .i64 s.ri, .int .i64 s.dn]) _ (wm 0) 3 w l0 (by simp) wordsOf_0).mono fun e w' ⟨⟨x, h1, h2⟩, h3⟩ => ⟨⟨x, h1, h2.imp id fun h => ⟨h.1, .inl h.2⟩⟩, h3⟩
  · exact (readW_any _ v b 1 _ _ _ (#[.int .i64 s.sh, .int .i64 s.fl, .int .i64 s.cl, .bool s.w.a, .bool s.w.p, .int .i64 s.w.n, .bool s.h.a, .bool s.h.p, .int .i64 s.h.n, .int .i64 s.mn, .int .i64 s.mx, .int .i64 s.mt, .bool s.mr.a, .bool s.mr.p, .int .i64 s.mr.n, .int .i64 s.mb, .bool s.ml.a, .bool s.ml.p, .int .i64 s.ml.n, .int .i64 s.bo, .int .i64 s.pa, .int .i64 s.wh, .int .i64 s.al, .int .i64 s.lh, .int .i64 s.ri, .int .i64 s.dn]) _ (wm 1) 3 w l0 (by simp) wordsOf_1).mono fun e w' ⟨⟨x, h1, h2⟩, h3⟩ => ⟨⟨x, h1, h2.imp id fun h => ⟨h.1, .inl h.2⟩⟩, h3⟩
  · exact (readW_any _ v b 2 _ _ _ (#[.int .i64 s.sh, .int .i64 s.fl, .int .i64 s.cl, .bool s.w.a, .bool s.w.p, .int .i64 s.w.n, .bool s.h.a, .bool s.h.p, .int .i64 s.h.n, .int .i64 s.mn, .int .i64 s.mx, .int .i64 s.mt, .bool s.mr.a, .bool s.mr.p, .int .i64 s.mr.n, .int .i64 s.mb, .bool s.ml.a, .bool s.ml.p, .int .i64 s.ml.n, .int .i64 s.bo, .int .i64 s.pa, .int .i64 s.wh, .int .i64 s.al, .int .i64 s.lh, .int .i64 s.ri, .int .i64 s.dn]) _ (wm 2) 4 w l0 (by simp) wordsOf_2).mono fun e w' ⟨⟨x, h1, h2⟩, h3⟩ => ⟨⟨x, h1, h2.imp id fun h => ⟨h.1, .inl h.2⟩⟩, h3⟩
  · exact readZ_any _ v b 3 _ _ _ (#[.int .i64 s.sh, .int .i64 s.fl, .int .i64 s.cl, .bool s.w.a, .bool s.w.p, .int .i64 s.w.n, .bool s.h.a, .bool s.h.p, .int .i64 s.h.n, .int .i64 s.mn, .int .i64 s.mx, .int .i64 s.mt, .bool s.mr.a, .bool s.mr.p, .int .i64 s.mr.n, .int .i64 s.mb, .bool s.ml.a, .bool s.ml.p, .int .i64 s.ml.n, .int .i64 s.bo, .int .i64 s.pa, .int .i64 s.wh, .int .i64 s.al, .int .i64 s.lh, .int .i64 s.ri, .int .i64 s.dn]) _ w hs ab hE hT l0 (by simp) wordsOf_3
  · exact readZ_any _ v b 6 _ _ _ (#[.int .i64 s.sh, .int .i64 s.fl, .int .i64 s.cl, .bool s.w.a, .bool s.w.p, .int .i64 s.w.n, .bool s.h.a, .bool s.h.p, .int .i64 s.h.n, .int .i64 s.mn, .int .i64 s.mx, .int .i64 s.mt, .bool s.mr.a, .bool s.mr.p, .int .i64 s.mr.n, .int .i64 s.mb, .bool s.ml.a, .bool s.ml.p, .int .i64 s.ml.n, .int .i64 s.bo, .int .i64 s.pa, .int .i64 s.wh, .int .i64 s.al, .int .i64 s.lh, .int .i64 s.ri, .int .i64 s.dn]) _ w hs ab hE hT l0 (by simp) wordsOf_4
  · exact (readL_any _ v b 9 _ _ _ (#[.int .i64 s.sh, .int .i64 s.fl, .int .i64 s.cl, .bool s.w.a, .bool s.w.p, .int .i64 s.w.n, .bool s.h.a, .bool s.h.p, .int .i64 s.h.n, .int .i64 s.mn, .int .i64 s.mx, .int .i64 s.mt, .bool s.mr.a, .bool s.mr.p, .int .i64 s.mr.n, .int .i64 s.mb, .bool s.ml.a, .bool s.ml.p, .int .i64 s.ml.n, .int .i64 s.bo, .int .i64 s.pa, .int .i64 s.wh, .int .i64 s.al, .int .i64 s.lh, .int .i64 s.ri, .int .i64 s.dn]) _ w hs l0 (by simp) wordsOf_5).mono fun e w' ⟨⟨x, h1, h2⟩, h3⟩ => ⟨⟨x, h1, h2.imp id fun h => ⟨h.1, .inl h.2⟩⟩, h3⟩
  · exact (readL_any _ v b 10 _ _ _ (#[.int .i64 s.sh, .int .i64 s.fl, .int .i64 s.cl, .bool s.w.a, .bool s.w.p, .int .i64 s.w.n, .bool s.h.a, .bool s.h.p, .int .i64 s.h.n, .int .i64 s.mn, .int .i64 s.mx, .int .i64 s.mt, .bool s.mr.a, .bool s.mr.p, .int .i64 s.mr.n, .int .i64 s.mb, .bool s.ml.a, .bool s.ml.p, .int .i64 s.ml.n, .int .i64 s.bo, .int .i64 s.pa, .int .i64 s.wh, .int .i64 s.al, .int .i64 s.lh, .int .i64 s.ri, .int .i64 s.dn]) _ w hs l0 (by simp) wordsOf_6).mono fun e w' ⟨⟨x, h1, h2⟩, h3⟩ => ⟨⟨x, h1, h2.imp id fun h => ⟨h.1, .inl h.2⟩⟩, h3⟩
  · exact (readL_any _ v b 11 _ _ _ (#[.int .i64 s.sh, .int .i64 s.fl, .int .i64 s.cl, .bool s.w.a, .bool s.w.p, .int .i64 s.w.n, .bool s.h.a, .bool s.h.p, .int .i64 s.h.n, .int .i64 s.mn, .int .i64 s.mx, .int .i64 s.mt, .bool s.mr.a, .bool s.mr.p, .int .i64 s.mr.n, .int .i64 s.mb, .bool s.ml.a, .bool s.ml.p, .int .i64 s.ml.n, .int .i64 s.bo, .int .i64 s.pa, .int .i64 s.wh, .int .i64 s.al, .int .i64 s.lh, .int .i64 s.ri, .int .i64 s.dn]) _ w hs l0 (by simp) wordsOf_7).mono fun e w' ⟨⟨x, h1, h2⟩, h3⟩ => ⟨⟨x, h1, h2.imp id fun h => ⟨h.1, .inl h.2⟩⟩, h3⟩
  · exact readZ_any _ v b 12 _ _ _ (#[.int .i64 s.sh, .int .i64 s.fl, .int .i64 s.cl, .bool s.w.a, .bool s.w.p, .int .i64 s.w.n, .bool s.h.a, .bool s.h.p, .int .i64 s.h.n, .int .i64 s.mn, .int .i64 s.mx, .int .i64 s.mt, .bool s.mr.a, .bool s.mr.p, .int .i64 s.mr.n, .int .i64 s.mb, .bool s.ml.a, .bool s.ml.p, .int .i64 s.ml.n, .int .i64 s.bo, .int .i64 s.pa, .int .i64 s.wh, .int .i64 s.al, .int .i64 s.lh, .int .i64 s.ri, .int .i64 s.dn]) _ w hs ab hE hT l0 (by simp) wordsOf_8
  · exact (readL_any _ v b 15 _ _ _ (#[.int .i64 s.sh, .int .i64 s.fl, .int .i64 s.cl, .bool s.w.a, .bool s.w.p, .int .i64 s.w.n, .bool s.h.a, .bool s.h.p, .int .i64 s.h.n, .int .i64 s.mn, .int .i64 s.mx, .int .i64 s.mt, .bool s.mr.a, .bool s.mr.p, .int .i64 s.mr.n, .int .i64 s.mb, .bool s.ml.a, .bool s.ml.p, .int .i64 s.ml.n, .int .i64 s.bo, .int .i64 s.pa, .int .i64 s.wh, .int .i64 s.al, .int .i64 s.lh, .int .i64 s.ri, .int .i64 s.dn]) _ w hs l0 (by simp) wordsOf_9).mono fun e w' ⟨⟨x, h1, h2⟩, h3⟩ => ⟨⟨x, h1, h2.imp id fun h => ⟨h.1, .inl h.2⟩⟩, h3⟩
  · exact readZ_any _ v b 16 _ _ _ (#[.int .i64 s.sh, .int .i64 s.fl, .int .i64 s.cl, .bool s.w.a, .bool s.w.p, .int .i64 s.w.n, .bool s.h.a, .bool s.h.p, .int .i64 s.h.n, .int .i64 s.mn, .int .i64 s.mx, .int .i64 s.mt, .bool s.mr.a, .bool s.mr.p, .int .i64 s.mr.n, .int .i64 s.mb, .bool s.ml.a, .bool s.ml.p, .int .i64 s.ml.n, .int .i64 s.bo, .int .i64 s.pa, .int .i64 s.wh, .int .i64 s.al, .int .i64 s.lh, .int .i64 s.ri, .int .i64 s.dn]) _ w hs ab hE hT l0 (by simp) wordsOf_10
  · exact (readL_any _ v b 19 _ _ _ (#[.int .i64 s.sh, .int .i64 s.fl, .int .i64 s.cl, .bool s.w.a, .bool s.w.p, .int .i64 s.w.n, .bool s.h.a, .bool s.h.p, .int .i64 s.h.n, .int .i64 s.mn, .int .i64 s.mx, .int .i64 s.mt, .bool s.mr.a, .bool s.mr.p, .int .i64 s.mr.n, .int .i64 s.mb, .bool s.ml.a, .bool s.ml.p, .int .i64 s.ml.n, .int .i64 s.bo, .int .i64 s.pa, .int .i64 s.wh, .int .i64 s.al, .int .i64 s.lh, .int .i64 s.ri, .int .i64 s.dn]) _ w hs l0 (by simp) wordsOf_11).mono fun e w' ⟨⟨x, h1, h2⟩, h3⟩ => ⟨⟨x, h1, h2.imp id fun h => ⟨h.1, .inl h.2⟩⟩, h3⟩
  · exact (readL_any _ v b 20 _ _ _ (#[.int .i64 s.sh, .int .i64 s.fl, .int .i64 s.cl, .bool s.w.a, .bool s.w.p, .int .i64 s.w.n, .bool s.h.a, .bool s.h.p, .int .i64 s.h.n, .int .i64 s.mn, .int .i64 s.mx, .int .i64 s.mt, .bool s.mr.a, .bool s.mr.p, .int .i64 s.mr.n, .int .i64 s.mb, .bool s.ml.a, .bool s.ml.p, .int .i64 s.ml.n, .int .i64 s.bo, .int .i64 s.pa, .int .i64 s.wh, .int .i64 s.al, .int .i64 s.lh, .int .i64 s.ri, .int .i64 s.dn]) _ w hs l0 (by simp) wordsOf_12).mono fun e w' ⟨⟨x, h1, h2⟩, h3⟩ => ⟨⟨x, h1, h2.imp id fun h => ⟨h.1, .inl h.2⟩⟩, h3⟩
  · exact (readW_any _ v b 21 _ _ _ (#[.int .i64 s.sh, .int .i64 s.fl, .int .i64 s.cl, .bool s.w.a, .bool s.w.p, .int .i64 s.w.n, .bool s.h.a, .bool s.h.p, .int .i64 s.h.n, .int .i64 s.mn, .int .i64 s.mx, .int .i64 s.mt, .bool s.mr.a, .bool s.mr.p, .int .i64 s.mr.n, .int .i64 s.mb, .bool s.ml.a, .bool s.ml.p, .int .i64 s.ml.n, .int .i64 s.bo, .int .i64 s.pa, .int .i64 s.wh, .int .i64 s.al, .int .i64 s.lh, .int .i64 s.ri, .int .i64 s.dn]) _ (wm 13) 5 w l0 (by simp) wordsOf_13).mono fun e w' ⟨⟨x, h1, h2⟩, h3⟩ => ⟨⟨x, h1, h2.imp id fun h => ⟨h.1, .inl h.2⟩⟩, h3⟩
  · exact (readW_any _ v b 22 _ _ _ (#[.int .i64 s.sh, .int .i64 s.fl, .int .i64 s.cl, .bool s.w.a, .bool s.w.p, .int .i64 s.w.n, .bool s.h.a, .bool s.h.p, .int .i64 s.h.n, .int .i64 s.mn, .int .i64 s.mx, .int .i64 s.mt, .bool s.mr.a, .bool s.mr.p, .int .i64 s.mr.n, .int .i64 s.mb, .bool s.ml.a, .bool s.ml.p, .int .i64 s.ml.n, .int .i64 s.bo, .int .i64 s.pa, .int .i64 s.wh, .int .i64 s.al, .int .i64 s.lh, .int .i64 s.ri, .int .i64 s.dn]) _ (wm 14) 3 w l0 (by simp) wordsOf_14).mono fun e w' ⟨⟨x, h1, h2⟩, h3⟩ => ⟨⟨x, h1, h2.imp id fun h => ⟨h.1, .inl h.2⟩⟩, h3⟩
  · exact (readL_any _ v b 23 _ _ _ (#[.int .i64 s.sh, .int .i64 s.fl, .int .i64 s.cl, .bool s.w.a, .bool s.w.p, .int .i64 s.w.n, .bool s.h.a, .bool s.h.p, .int .i64 s.h.n, .int .i64 s.mn, .int .i64 s.mx, .int .i64 s.mt, .bool s.mr.a, .bool s.mr.p, .int .i64 s.mr.n, .int .i64 s.mb, .bool s.ml.a, .bool s.ml.p, .int .i64 s.ml.n, .int .i64 s.bo, .int .i64 s.pa, .int .i64 s.wh, .int .i64 s.al, .int .i64 s.lh, .int .i64 s.ri, .int .i64 s.dn]) _ w hs l0 (by simp) wordsOf_15).mono fun e w' ⟨⟨x, h1, h2⟩, h3⟩ => ⟨⟨x, h1, h2.imp id fun h => ⟨h.1, .inl h.2⟩⟩, h3⟩
  · exact (readL_any _ v b 24 _ _ _ (#[.int .i64 s.sh, .int .i64 s.fl, .int .i64 s.cl, .bool s.w.a, .bool s.w.p, .int .i64 s.w.n, .bool s.h.a, .bool s.h.p, .int .i64 s.h.n, .int .i64 s.mn, .int .i64 s.mx, .int .i64 s.mt, .bool s.mr.a, .bool s.mr.p, .int .i64 s.mr.n, .int .i64 s.mb, .bool s.ml.a, .bool s.ml.p, .int .i64 s.ml.n, .int .i64 s.bo, .int .i64 s.pa, .int .i64 s.wh, .int .i64 s.al, .int .i64 s.lh, .int .i64 s.ri, .int .i64 s.dn]) _ w hs l0 (by simp) wordsOf_16).mono fun e w' ⟨⟨x, h1, h2⟩, h3⟩ => ⟨⟨x, h1, h2.imp id fun h => ⟨h.1, .inl h.2⟩⟩, h3⟩
  · exact (readL_any _ v b 25 _ _ _ (#[.int .i64 s.sh, .int .i64 s.fl, .int .i64 s.cl, .bool s.w.a, .bool s.w.p, .int .i64 s.w.n, .bool s.h.a, .bool s.h.p, .int .i64 s.h.n, .int .i64 s.mn, .int .i64 s.mx, .int .i64 s.mt, .bool s.mr.a, .bool s.mr.p, .int .i64 s.mr.n, .int .i64 s.mb, .bool s.ml.a, .bool s.ml.p, .int .i64 s.ml.n, .int .i64 s.bo, .int .i64 s.pa, .int .i64 s.wh, .int .i64 s.al, .int .i64 s.lh, .int .i64 s.ri, .int .i64 s.dn]) _ w hs l0 (by simp) wordsOf_17).mono fun e w' ⟨⟨x, h1, h2⟩, h3⟩ => ⟨⟨x, h1, h2.imp id fun h => ⟨h.1, .inl h.2⟩⟩, h3⟩
end Go.Proofs.YtdgagjnkbmckoaaGreatDoor
