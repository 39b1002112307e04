/-
  A page as a text: plain mathematics.
-/
import Derived.Test.YtbnnpgkeggjodaaDoorNumI
import Derived.Test.YtbnnpgkeggjodaaDoorFst
namespace Go.Proofs.YtbnnpgkeggjodaaDoor
open Go.ChangeShapes Go.WideShapes Go.ChangeAt Go.RowKit
set_option linter.unusedVariables false

/-- The numbers of a page are ints. -/
structure PgIn (P : Pg) : Prop where
  b : ∀ (i : Nat) (x : Bx), P.bs[i]? = some x → inI x.nd
  p : ∀ (i : Nat) (x : Plc), P.ps[i]? = some x → inI x.x ∧ inI x.y ∧ inI x.w ∧ inI x.h
  l : ∀ (i : Nat) (x : Ln), P.ls[i]? = some x → inI x.bx ∧ inI x.x ∧ inI x.y ∧ inI x.w
  h : inI P.hi
def bpT (b : Bx) (q : Plc) : ByteArray := ⟨#[98, 111, 120]⟩ ++ nsT [b.nd, q.x, q.y, q.w, q.h] 5 ++ ⟨#[10]⟩
def bxsT (bs : List Bx) (ps : List Plc) : Nat → ByteArray
  | 0 => ⟨#[]⟩
  | i + 1 => if (bs.getD i bx0).kd = 2 then bxsT bs ps i else bxsT bs ps i ++ bpT (bs.getD i bx0) (ps.getD i pl0)
def slT (t : ByteArray) : Nat → ByteArray
  | 0 => ⟨#[]⟩
  | k + 1 => slT t k ++ ⟨#[if t.data.getD k 0 = 10 then 47 else t.data.getD k 0]⟩
def lhT (x : Ln) : ByteArray := ⟨#[108, 105, 110, 101]⟩ ++ nsT [x.bx, x.x, x.y, x.w] 4 ++ ⟨#[32]⟩
def lnsT (u : ByteArray) (ls : List Ln) : Nat → ByteArray
  | 0 => u
  | i + 1 => lnsT u ls i ++ lhT (ls.getD i ln0) ++ slT (ls.getD i ln0).tx (ls.getD i ln0).tx.size ++ ⟨#[10]⟩
def pgT (P : Pg) : ByteArray := lnsT (bxsT P.bs P.ps P.bs.length) P.ls P.ls.length ++ ⟨#[104, 105, 103, 104]⟩ ++ nsT [P.hi] 1 ++ ⟨#[10]⟩
def pgOk (P : Pg) : Bool := decide (P.ps.length = P.bs.length) && decide (P.bs.length ≤ 80)
def ptB (P : Pg) : Bool := pgOk P && decide (P.ls.length ≤ 400)
def ptT (P : Pg) : ByteArray := if ptB P then pgT P else ⟨#[]⟩
theorem pt_no {P : Pg} (h : ¬ (P.ps.length = P.bs.length ∧ P.bs.length ≤ 80 ∧ P.ls.length ≤ 400)) : ptB P = false ∧ ptT P = ⟨#[]⟩ := by
  have e : ptB P = false := by
    unfold ptB pgOk
    by_cases h1 : P.ps.length = P.bs.length
    · by_cases h2 : P.bs.length ≤ 80
      · rw [decide_eq_false (p := P.ls.length ≤ 400) (fun h3 => h ⟨h1, h2, h3⟩)]; simp
      · rw [decide_eq_false h2]; simp
    · rw [decide_eq_false h1]; rfl
  exact ⟨e, by unfold ptT; rw [e]; rfl⟩
theorem pt_yes {P : Pg} (h1 : P.ps.length = P.bs.length) (h2 : P.bs.length ≤ 80) (h3 : P.ls.length ≤ 400) : ptB P = true ∧ ptT P = pgT P := by
  have e : ptB P = true := by unfold ptB pgOk; rw [decide_eq_true h1, decide_eq_true h2, decide_eq_true h3]; rfl
  exact ⟨e, by unfold ptT; rw [e]; rfl⟩
theorem bxs_getD {bs : List Bx} {i : Nat} {x : Bx} (h : bs[i]? = some x) : bs.getD i bx0 = x := by rw [List.getD_eq_getElem?_getD, h]; rfl
theorem pls_getD {ps : List Plc} {i : Nat} {x : Plc} (h : ps[i]? = some x) : ps.getD i pl0 = x := by rw [List.getD_eq_getElem?_getD, h]; rfl
theorem lns_getD {ls : List Ln} {i : Nat} {x : Ln} (h : ls[i]? = some x) : ls.getD i ln0 = x := by rw [List.getD_eq_getElem?_getD, h]; rfl
theorem in5 {a b c d e : Int} (ha : inI a) (hb : inI b) (hc : inI c) (hd : inI d) (he : inI e) : ∀ i, i < [a, b, c, d, e].length → inI ([a, b, c, d, e].getD i 0)
  | 0, _ => ha
  | 1, _ => hb
  | 2, _ => hc
  | 3, _ => hd
  | 4, _ => he
theorem in4 {a b c d : Int} (ha : inI a) (hb : inI b) (hc : inI c) (hd : inI d) : ∀ i, i < [a, b, c, d].length → inI ([a, b, c, d].getD i 0)
  | 0, _ => ha
  | 1, _ => hb
  | 2, _ => hc
  | 3, _ => hd
theorem in1 {a : Int} (ha : inI a) : ∀ i, i < [a].length → inI ([a].getD i 0)
  | 0, _ => ha
theorem size3 (a b c : UInt8) : (⟨#[a, b, c]⟩ : ByteArray).size = 3 := rfl
theorem size4 (a b c d : UInt8) : (⟨#[a, b, c, d]⟩ : ByteArray).size = 4 := rfl
theorem size0 : (⟨#[]⟩ : ByteArray).size = 0 := rfl
theorem bpT_size {b : Bx} {q : Plc} (hb : inI b.nd) (hq : inI q.x ∧ inI q.y ∧ inI q.w ∧ inI q.h) : (bpT b q).size ≤ 109 := by
  have := nsT_size (in5 hb hq.1 hq.2.1 hq.2.2.1 hq.2.2.2) 5 (by simp)
  unfold bpT
  rw [ByteArray.size_append, ByteArray.size_append, size3, one_size]
  omega
theorem lhT_size {x : Ln} (h : inI x.bx ∧ inI x.x ∧ inI x.y ∧ inI x.w) : (lhT x).size ≤ 89 := by
  have := nsT_size (in4 h.1 h.2.1 h.2.2.1 h.2.2.2) 4 (by simp)
  unfold lhT
  rw [ByteArray.size_append, ByteArray.size_append, size4, one_size]
  omega
theorem slT_nil (a t : ByteArray) : a ++ slT t 0 = a := by
  rw [slT]
  apply ByteArray.ext
  simp
theorem slT_size (t : ByteArray) : ∀ k, (slT t k).size = k
  | 0 => rfl
  | k + 1 => by rw [slT, ByteArray.size_append, slT_size t k, one_size]
theorem bxs_no {bs : List Bx} {ps : List Plc} {i : Nat} {x : Bx} (h : bs[i]? = some x) (hk : x.kd = 2) : bxsT bs ps (i + 1) = bxsT bs ps i := by rw [bxsT, bxs_getD h, if_pos hk]
theorem bxs_yes {bs : List Bx} {ps : List Plc} {i : Nat} {x : Bx} {q : Plc} (h : bs[i]? = some x) (hq : ps[i]? = some q) (hk : ¬ x.kd = 2) : bxsT bs ps (i + 1) = bxsT bs ps i ++ bpT x q := by rw [bxsT, bxs_getD h, pls_getD hq, if_neg hk]
theorem bxs_yes5 {bs : List Bx} {ps : List Plc} {i : Nat} {xk xn xu qx qy qw qh : Int} {xt : ByteArray} (h : bs[i]? = some ⟨xk, xn, xu, xt⟩) (hq : ps[i]? = some ⟨qx, qy, qw, qh⟩) (hk : ¬ xk = 2) : bxsT bs ps (i + 1) = bxsT bs ps i ++ (⟨#[98, 111, 120]⟩ ++ nsT [xn, qx, qy, qw, qh] 5 ++ ⟨#[10]⟩) := by
  rw [bxs_yes h hq hk, bpT]
theorem lns_step {u : ByteArray} {ls : List Ln} {i : Nat} {x : Ln} (h : ls[i]? = some x) : lnsT u ls (i + 1) = lnsT u ls i ++ lhT x ++ slT x.tx x.tx.size ++ ⟨#[10]⟩ := by rw [lnsT, lns_getD h]
theorem lns_step6 {u : ByteArray} {ls : List Ln} {i : Nat} {kb kx ky kw kh : Int} {kt : ByteArray} (h : ls[i]? = some ⟨kb, kx, ky, kw, kh, kt⟩) : lnsT u ls (i + 1) = lnsT u ls i ++ (⟨#[108, 105, 110, 101]⟩ ++ nsT [kb, kx, ky, kw] 4 ++ ⟨#[32]⟩) ++ slT kt kt.size ++ ⟨#[10]⟩ := by
  rw [lns_step h, lhT]
theorem pgT_eq (ba : Option Addr) (bc : Nat) (bs : List Bx) (pa : Option Addr) (pc : Nat) (ps : List Plc) (la : Option Addr) (lc : Nat) (ls : List Ln) (fa : Option Addr) (fc : Nat) (fs : List Asd) (hi : Int) :
    pgT ⟨ba, bc, bs, pa, pc, ps, la, lc, ls, fa, fc, fs, hi⟩ = lnsT (bxsT bs ps bs.length) ls ls.length ++ ⟨#[104, 105, 103, 104]⟩ ++ nsT [hi] 1 ++ ⟨#[10]⟩ := by rw [pgT]
theorem bxs_size {bs : List Bx} {ps : List Plc} (hb : ∀ (i : Nat) (x : Bx), bs[i]? = some x → inI x.nd) (hp : ∀ (i : Nat) (x : Plc), ps[i]? = some x → inI x.x ∧ inI x.y ∧ inI x.w ∧ inI x.h) (hl : ps.length = bs.length) : ∀ i, i ≤ bs.length → (bxsT bs ps i).size ≤ 109 * i
  | 0, _ => by rw [bxsT, size0]; omega
  | i + 1, h => by
    have h1 := bxs_size hb hp hl i (by omega)
    obtain ⟨x, hx⟩ : ∃ x, bs[i]? = some x := ⟨_, List.getElem?_eq_getElem (by omega)⟩
    obtain ⟨q, hq⟩ : ∃ x, ps[i]? = some x := ⟨_, List.getElem?_eq_getElem (by omega)⟩
    by_cases hk : x.kd = 2
    · rw [bxs_no hx hk]; omega
    · have h2 := bpT_size (hb i x hx) (hp i q hq)
      rw [bxs_yes hx hq hk, ByteArray.size_append]; omega
theorem lns_size {u : ByteArray} {ls : List Ln} (hi : ∀ (i : Nat) (x : Ln), ls[i]? = some x → inI x.bx ∧ inI x.x ∧ inI x.y ∧ inI x.w) (hs : ∀ (i : Nat) (x : Ln), ls[i]? = some x → x.tx.size ≤ 1048576) : ∀ i, i ≤ ls.length → (lnsT u ls i).size ≤ u.size + 1048666 * i
  | 0, _ => by rw [lnsT]; omega
  | i + 1, h => by
    have h1 := lns_size hi hs (u := u) i (by omega)
    obtain ⟨x, hx⟩ : ∃ x, ls[i]? = some x := ⟨_, List.getElem?_eq_getElem (by omega)⟩
    have h2 := lhT_size (hi i x hx)
    have h3 := hs i x hx
    rw [lns_step hx, ByteArray.size_append, ByteArray.size_append, ByteArray.size_append, slT_size, one_size]
    omega
theorem ten_of {t : ByteArray} {k : Nat} (h : k < t.size) : t.data.getD k 0 = t[k] := by
  rw [Array.getD_eq_getD_getElem?, Array.getElem?_eq_getElem (h := h)]
  rfl
theorem slT_ten {t : ByteArray} {k : Nat} (h : k < t.size) (h10 : (t[k].toNat : Int) = 10) : slT t (k + 1) = slT t k ++ ⟨#[47]⟩ := by
  have e : t[k] = 10 := UInt8.toNat_inj.1 (by show _ = 10; omega)
  rw [slT, ten_of h, if_pos e]
theorem slT_not {t : ByteArray} {k : Nat} (h : k < t.size) (h10 : ¬ (t[k].toNat : Int) = 10) : slT t (k + 1) = slT t k ++ t.extract k (k + 1) := by
  have e : ¬ t[k] = 10 := fun e => h10 (by rw [e]; rfl)
  rw [slT, ten_of h, if_neg e]
  congr 1
  apply ByteArray.ext
  rw [ByteArray.data_extract]
  apply Array.ext
  · simp
    have : k < t.data.size := h
    omega
  · intro i h1 h2
    have : i = 0 := by simp at h1; omega
    subst this
    simp
    rfl
theorem ln_cells {w : World} {b o : Nat} {x : Ln} (h : w.rangeAt b o (lnL x)) : w.cell? ⟨b, o, none⟩ = some (.int .i64 x.bx) ∧ w.cell? ⟨b, o + 1, none⟩ = some (.int .i64 x.x) ∧ w.cell? ⟨b, o + 2, none⟩ = some (.int .i64 x.y) ∧ w.cell? ⟨b, o + 3, none⟩ = some (.int .i64 x.w) ∧ w.cell? ⟨b, o + 4, none⟩ = some (.int .i64 x.h) ∧ w.cell? ⟨b, o + 5, none⟩ = some (.string x.tx) :=
  ⟨h 0 _ rfl, h 1 _ rfl, h 2 _ rfl, h 3 _ rfl, h 4 _ rfl, h 5 _ rfl⟩
theorem lnsR {w : World} {a : Option Addr} {l : List Ln} (hr : LnRow w a l) {i : Nat} {x : Ln} (h : l[i]? = some x) : ∃ b off, a = some ⟨b, off, none⟩ ∧ ∀ i n, l[i]? = some n → w.rangeAt b (off + i * 6) (lnL n) := by
  rcases hr with h' | h'
  · rw [h'] at h; simp at h
  · exact h'
end Go.Proofs.YtbnnpgkeggjodaaDoor
