/-
 A drawn tree: at most 41 nodes, texts as they are drawn; nothing but the cursor is turned.
-/
import Derived.Test.YtjnmloaopnbpgaaGreatDoorMg32
namespace Go.Proofs.YtjnmloaopnbpgaaGreatDoor
open Go.ChangeShapes Go.WideShapes Go.ChangeAt Go.RowKit
set_option linter.unusedVariables false
set_option maxHeartbeats 1000000 in
theorem among_in (p:Int → Prop) (b len cap m lb n lc:Nat) (a:Option Addr) (w:World) (hm:m ≤ 100000000000000) (hC:CurOk w b a len cap m) (n1:1 ≤ n) (n2:n ≤ 1000000) (hne:lb ≠ b)
  (hc:∀ i,i < n → ∃ z:Int,p z ∧ w.cell? ⟨lb,i,none⟩ = some (.int .i64 z)) :
  Calls Tryz.prog 32 #[.pointer (some ⟨b,0,none⟩),.slice (some ⟨lb,0,none⟩) n lc] w fun e w'=>∃ v:Int,e = .returned (.int .i64 v) ∧ p v ∧ CurOk w' b a len cap (m + 2) ∧ w.grownBy w' (some b):=by
 have P:=pick_any b len cap m a n w hm hC (by omega) (by omega)
 clear hC
 have P':=P.mono (R':=fun e w'=>∃ j:Nat,e = .returned (.int .i64 (j:Int)) ∧ j < n ∧ (∃ z:Int,Hid (p z) ∧ w'.cell? ⟨lb,j,none⟩ = some (.int .i64 z)) ∧ CurOk w' b a len cap (m + 2) ∧ w.grownBy w' (some b)) (fun e w' h=>by
  obtain ⟨v,rfl,v0,v1,hC1,hg1⟩:=h
  obtain ⟨z,hp,hz⟩:=hc v.toNat (by omega)
  have hb:w'.heap[lb]? = w.heap[lb]?:=hg1.block lb (cell_lt' hz) (by simpa using hne)
  exact ⟨v.toNat,by rw [show ((v.toNat:Nat):Int) = v by omega],by omega,⟨z,hp,(World.cell?_of_block (a:=⟨lb,v.toNat,none⟩) hb).trans hz⟩,hC1,hg1⟩)
 clear P hc
 go_enter Tryz.func32,Tryz.ntmps32
 go_wp2_with (go_at_call 11;refine P'.mono ?_;rintro e w1 ⟨j,rfl,j1,⟨z,hzs,hz⟩,hC1,hg1⟩)
 go_ret
 exact ⟨_,rfl,hzs.out,hC1,hg1⟩
theorem three_in (w:World) (i:Nat) (hi:i < 3):∃ z:Int,(0 ≤ z ∧ z ≤ 40) ∧ (w.alloc (.cells #[.int .i64 20,.int .i64 39,.int .i64 40] 3)).cell? ⟨w.heap.size,i,none⟩ = some (.int .i64 z):=by
 have:i = 0 ∨ i = 1 ∨ i = 2:=by omega
 rcases this with rfl | rfl | rfl
 ·exact ⟨20,by omega,by simp⟩
 ·exact ⟨39,by omega,by simp⟩
 ·exact ⟨40,by omega,by simp⟩
/-- What is known of drawn nodes while they are drawn. -/
def NsAt (ns:List Nd):Prop:=∀ (j:Nat) (x:Nd),ns[j]? = some x → x.up < (j:Int) ∧ (0 < j → 0 ≤ x.up) ∧ TxOk x.tx
theorem tx_none:TxOk ByteArray.empty:=⟨by decide,fun _=>by decide +kernel⟩
theorem nsAt_one (s:St):NsAt [⟨-1,ByteArray.empty,s⟩]:=fun j x h=>by
 rcases Nat.eq_zero_or_pos j with h0 | h0
 ·subst h0
  simp at h
  subst h
  exact ⟨by show (-1:Int) < ((0:Nat):Int);omega,fun h=>by omega,tx_none⟩
 ·rw [List.getElem?_eq_none (by simp;omega)] at h
  cases h
theorem nsAt_snoc {ns:List Nd} (h:NsAt ns) {t:Nat} (ht:t < ns.length) {s:ByteArray} {y:St} (hs:TxOk s):NsAt (ns ++ [⟨(t:Int),s,y⟩]):=fun j x hx=>by
 by_cases hj:j < ns.length
 ·rw [List.getElem?_append_left hj] at hx
  exact h j x hx
 ·rw [List.getElem?_append_right (by omega)] at hx
  rcases Nat.eq_zero_or_pos (j - ns.length) with h0 | h0
  ·rw [h0] at hx
   simp at hx
   subst hx
   exact ⟨by show (t:Int) < _;omega,fun _=>by show (0:Int) ≤ (t:Int);omega,hs⟩
  ·rw [List.getElem?_eq_none (by simp;omega)] at hx
   cases hx
/-- What is known of a drawn tree. -/
def TrOk (ns:List Nd):Prop:=1 ≤ ns.length ∧ ns.length ≤ 41 ∧ ∀ (j:Nat) (x:Nd),ns[j]? = some x → x.tx.size ≤ 90 ∧ (textB true x.tx = true → costN x.tx.data.toList ≤ if j + 1 = ns.length then 1100 else 1000)
theorem trOk_of {ns:List Nd} (h:NsAt ns) (h1:1 ≤ ns.length) (h2:ns.length ≤ 41):TrOk ns:=⟨h1,h2,fun j x hx=>by
 obtain ⟨-,-,h3,h4⟩:=h j x hx
 exact ⟨by omega,fun ht=>by have:=h4 ht;split <;> omega⟩⟩
theorem trOk_last {ns:List Nd} (h:NsAt ns) (h1:1 ≤ ns.length) (h2:ns.length ≤ 41) {x y:Nd} (hx:ns[ns.length - 1]? = some x) (hy:y.tx.size ≤ 90 ∧ (textB true y.tx = true → costN y.tx.data.toList ≤ 1100)):TrOk (ns.set (ns.length - 1) y):=by
 refine ⟨by simpa using h1,by simpa using h2,fun j z hz=>?_⟩
 rw [List.getElem?_set] at hz
 split at hz
 ·rename_i e
  split at hz
  ·simp at hz
   subst hz
   refine ⟨hy.1,fun ht=>?_⟩
   have:=hy.2 ht
   rw [List.length_set,if_pos (by omega)]
   exact this
  ·cases hz
 ·obtain ⟨-,-,h3,h4⟩:=h j z hz
  exact ⟨by omega,fun ht=>by have:=h4 ht;split <;> omega⟩
theorem textB_left {s t:ByteArray} (h:textB true (s ++ t) = true):textB true s = true:=by
 refine textB_mk (k:=s.size) (by omega) fun j hj _=>?_
 have e:(s ++ t).size = s.size + t.size:=ByteArray.size_append
 have:=textB_at h j (by omega)
 rw [ByteArray.getElem_append_left hj] at this
 exact this
theorem tx_x {s:ByteArray} (h:TxOk s):(s ++ ⟨#[120]⟩:ByteArray).size ≤ 90 ∧ (textB true (s ++ ⟨#[120]⟩) = true → costN (s ++ ⟨#[120]⟩:ByteArray).data.toList ≤ 1100):=by
 have e:(s ++ (⟨#[120]⟩:ByteArray)).size = s.size + 1:=ByteArray.size_append
 refine ⟨by have:=h.1;omega,fun ht=>?_⟩
 have h1:=h.2 (textB_left ht)
 rw [bytes_app9]
 have h2:=cost_app s.data.toList (⟨#[120]⟩:ByteArray).data.toList
 have h3:costN (⟨#[120]⟩:ByteArray).data.toList ≤ 100:=by decide +kernel
 omega
def StayT (p:Prop):Prop:=p
theorem stayT {p:Prop} (h:StayT p):p:=h
/-- The state of the drawing: nodes, the one that is in, how many are to come. -/
structure Dr (w:World) (b:Nat) (a:Option Addr) (len cap M:Nat) (vl:Value) (ns:List Nd) (t:Nat) (wr:World):Prop where
 own:OwnN wr w.heap.size vl ns
 cur:CurOk wr b a len cap M
 gro:w.grownBy wr (some b)
 nsa:NsAt ns
 at_:t < ns.length
theorem Dr.more {w wr:World} {b:Nat} {a:Option Addr} {len cap M M2:Nat} {vl:Value} {ns:List Nd} {t t':Nat} (h:Dr w b a len cap M vl ns t wr) (hM:M ≤ M2) (ht:t' < ns.length):Dr w b a len cap M2 vl ns t' wr:=⟨h.own,h.cur.more hM,h.gro,h.nsa,ht⟩
theorem Dr.push {w V w8 : World} {b g1 cap1 n : Nat} {a : Option Addr} {len cap M m0 : Nat} {ns : List Nd} {t : Nat} (h : Dr w b a len cap M (.slice (some ⟨g1, 0, none⟩) n cap1) ns t V) (hC : CurOk w b a len cap m0) (hn : n = ns.length) {o : Obj} {s : ByteArray} {y : St} {v8 : Value} (hown : w8.ownsRow w.heap.size 75 28 v8 (n + 1) (flatN ns ++ ndL ⟨(t : Int), s, y⟩)) (hg : (V.alloc o).grownBy w8 (Value.slice (some ⟨g1, 0, none⟩) n cap1).ownBlock) (hs : TxOk s) (t' : Nat) (ht : t' ≤ n) : Dr w b a len cap M v8 (ns ++ [⟨(t : Int), s, y⟩]) t' w8 := by
  have hg1 : w.heap.size ≤ g1 := by
    have h1 : V.ownsRow w.heap.size 75 28 (.slice (some ⟨g1, 0, none⟩) n cap1) ns.length (flatN ns) := h.own
    exact (h1.lt g1 rfl).1
  have hs1 := h.gro.size
  have hbl : ∀ k, k < w.heap.size → w8.heap[k]? = V.heap[k]? := fun k hk => by
    rw [hg.block k (by simp; omega) (fun e => by have : k = g1 := by simpa [Value.ownBlock] using e
                                                 omega)]
    exact heap_alloc_old V o (by omega)
  refine ⟨?_, CurOk.same hC h.cur hbl, ⟨hg.os.trans h.gro.os, hg.tape.trans h.gro.tape, hg.output.trans h.gro.output, ?_, fun k hk hne => (hbl k hk).trans (h.gro.block k hk hne)⟩, nsAt_snoc h.nsa h.at_ hs, ?_⟩
  · unfold OwnN
    rw [flatN_snoc, List.length_append, ← hn]
    exact hown
  · have := hg.size
    simp at this
    omega
  · rw [List.length_append, ← hn]
    simp
    omega
theorem Dr.set {w V:World} {b g1 cap1 n:Nat} {a:Option Addr} {len cap M m0:Nat} {ns:List Nd} {t k c:Nat} {x y:Nd} {v:Value} (h:Dr w b a len cap M (.slice (some ⟨g1,0,none⟩) n cap1) ns t V) (hC:CurOk w b a len cap m0) (hn:n = ns.length) (hx:ns[k]? = some x) (hc:c < 28) (hy:ndL y = (ndL x).set c v):OwnN (V.setCell ⟨g1,k * 28 + c,none⟩ v) w.heap.size (.slice (some ⟨g1,0,none⟩) n cap1) (ns.set k y) ∧ CurOk (V.setCell ⟨g1,k * 28 + c,none⟩ v) b a len cap M ∧ w.grownBy (V.setCell ⟨g1,k * 28 + c,none⟩ v) (some b):=by
 have hg1:w.heap.size ≤ g1:=by
  have h1:V.ownsRow w.heap.size 75 28 (.slice (some ⟨g1,0,none⟩) n cap1) ns.length (flatN ns):=h.own
  exact (h1.lt g1 rfl).1
 exact ⟨h.own.set1 hn hx hc hy,CurOk.same hC h.cur (fun j hj=>Below.heap_setCell V ⟨g1,k * 28 + c,none⟩ v j (by show j ≠ g1;omega)),grown_new h.gro (p:=⟨g1,k * 28 + c,none⟩) hg1 v⟩
theorem Dr.free {w V:World} {b g1 cap1 n:Nat} {a:Option Addr} {len cap M:Nat} {ns:List Nd} {t:Nat} (h:Dr w b a len cap M (.slice (some ⟨g1,0,none⟩) n cap1) ns t V) (hn:n = ns.length) (j:Nat):V.frozen? ⟨g1,j,none⟩ = false:=by
 have h1:V.ownsRow w.heap.size 75 28 (.slice (some ⟨g1,0,none⟩) n cap1) n (flatN ns):=by rw [hn];rw [hn] at h;exact h.own
 exact h1.frozenAt j
theorem Dr.step {w wr w2:World} {b:Nat} {a:Option Addr} {len cap M M2:Nat} {vl:Value} {ns:List Nd} {t:Nat} (h:Dr w b a len cap M vl ns t wr) (hb:b < w.heap.size) (hC:CurOk w2 b a len cap M2) (hg:wr.grownBy w2 (some b)):Dr w b a len cap M2 vl ns t w2 :=
 ⟨own_gro h.own hg hb,hC,grown_trans h.gro hg,h.nsa,h.at_⟩
set_option maxRecDepth 1000000 in
set_option maxHeartbeats 8000000 in
theorem tree_any (b len cap m:Nat) (a:Option Addr) (w:World) (hm:m ≤ 1000000) (hC:CurOk w b a len cap m) :
  Calls Tryz.prog 30 #[.pointer (some ⟨b,0,none⟩)] w fun e w'=>∃ (v:Value) (ns:List Nd),e = .returned v ∧ OwnN w' w.heap.size v ns ∧ TrOk ns ∧ CurOk w' b a len cap (m + 20000) ∧ w.grownBy w' (some b):=by
 have hlt:=hC.lt
 go_enter Tryz.func30,Tryz.ntmps30
 go_wp2_with fail
 refine (specPlain_at w).mono ?_
 rintro e w1 ⟨rfl,hw1⟩
 have b1:Below w.heap.size w w1:=by rw [hw1];exact (Below.refl _ _).alloc (Nat.le_refl _) _
 clear hw1
 go_wp2_with (first | ((with_reducible show wpList _ _ _ (⟨some 9,Op.build 75 _,_,_,_,_⟩ :: _) _ _);refine wpList_buildTo rfl 75 _ rfl _ rfl (#[.int .i64 (-1),.string ByteArray.empty,.int .i64 1,.int .i64 0,.int .i64 0,.bool true,.bool false,.int .i64 0,.bool true,.bool false,.int .i64 0,.int .i64 0,.int .i64 (-1),.int .i64 0,.bool false,.bool false,.int .i64 0,.int .i64 0,.bool false,.bool false,.int .i64 0,.int .i64 0,.int .i64 0,.int .i64 1,.int .i64 1,.int .i64 0,.int .i64 0,.int .i64 0]) (by kernel_rfl) ?_) | fail)
 obtain ⟨W,hW⟩:∃ W,W = w1.alloc (.cells (#[.int .i64 (-1),.string ByteArray.empty,.int .i64 1,.int .i64 0,.int .i64 0,.bool true,.bool false,.int .i64 0,.bool true,.bool false,.int .i64 0,.int .i64 0,.int .i64 (-1),.int .i64 0,.bool false,.bool false,.int .i64 0,.int .i64 0,.bool false,.bool false,.int .i64 0,.int .i64 0,.int .i64 0,.int .i64 1,.int .i64 1,.int .i64 0,.int .i64 0,.int .i64 0]) 75):=⟨_,rfl⟩
 have l0:W.heap[w1.heap.size]? = some (.cells (#[.int .i64 (-1),.string ByteArray.empty,.int .i64 1,.int .i64 0,.int .i64 0,.bool true,.bool false,.int .i64 0,.bool true,.bool false,.int .i64 0,.int .i64 0,.int .i64 (-1),.int .i64 0,.bool false,.bool false,.int .i64 0,.int .i64 0,.bool false,.bool false,.int .i64 0,.int .i64 0,.int .i64 0,.int .i64 1,.int .i64 1,.int .i64 0,.int .i64 0,.int .i64 0]) 75 (0,0)):=by rw [hW];exact heap_at _ _ _ rfl
 have b0:Below w.heap.size w W:=by rw [hW];exact b1.alloc b1.size _
 rw [← hW]
 have hg0:w.heap.size ≤ w1.heap.size:=b1.size
 clear hW b1
 generalize w1.heap.size = g0 at *
 have C0:=hC.grown b0
 have G0:=grown_of_below b b0
 have O1:=one_any b len cap m a 3 W (by omega) C0 (by omega) (by omega)
 clear b0 C0
 refine O1.mono ?_
 rintro e W1 ⟨vb,rfl,C1,G1⟩
 have l1x:=gro_lies G1 l0 (by omega)
 have G1:=grown_trans G0 G1
 have l1:W1.heap[g0]? = some (.cells (#[.int .i64 (-1),.string ByteArray.empty,.int .i64 1,.int .i64 0,.int .i64 0,.bool true,.bool false,.int .i64 0,.bool true,.bool false,.int .i64 0,.int .i64 0,.int .i64 (-1),.int .i64 0,.bool false,.bool false,.int .i64 0,.int .i64 0,.bool false,.bool false,.int .i64 0,.int .i64 0,.int .i64 0,.int .i64 1,.int .i64 1,.int .i64 0,.int .i64 0,.int .i64 0]) 75 (0,0)):=l1x
 clear O1 G0 l0
 go_upto_if 12 with fail
 go_cut [] from 12 to 35 (fun wx=>∃ s:St,wx.heap[g0]? = some (.cells (#[.int .i64 (-1),.string ByteArray.empty,.int .i64 s.sh,.int .i64 s.fl,.int .i64 s.cl,.bool s.w.a,.bool s.w.p,.int .i64 s.w.n,.bool s.h.a,.bool s.h.p,.int .i64 s.h.n,.int .i64 s.mn,.int .i64 s.mx,.int .i64 s.mt,.bool s.mr.a,.bool s.mr.p,.int .i64 s.mr.n,.int .i64 s.mb,.bool s.ml.a,.bool s.ml.p,.int .i64 s.ml.n,.int .i64 s.bo,.int .i64 s.pa,.int .i64 s.wh,.int .i64 s.al,.int .i64 s.lh,.int .i64 s.ri,.int .i64 s.dn]) 75 (0,0)) ∧ CurOk wx b a len cap (m + 100) ∧ w.grownBy wx (some b))
 case first =>
  cases vb
  ·go_wp2_with fail
   go_meet
   case rel=>exact ⟨(⟨1,0,0,⟨true,false,0⟩,⟨true,false,0⟩,0,(-1),0,⟨false,false,0⟩,0,⟨false,false,0⟩,0,0,1,1,0,0,0⟩:St),l1,C1.more (by omega),G1⟩
  have SY:=style_any b len cap (m + 2) a W1 (by omega) C1
  clear C1
  go_wp2_with fail
  refine SY.mono ?_
  rintro e W2 ⟨s,rfl,C2,G2⟩
  have l2:=gro_lies G2 l1 (by omega)
  have G2:=grown_trans G1 G2
  clear SY l1 G1
  go_wp2_with (first | ((with_reducible show wpList _ _ _ (⟨none,Op.store 73 (Operand.tmp 17) _,_,_,_,_⟩ :: _) _ _);refine wpList_putA rfl _ _ _ rfl rfl g0 2 28 (stCells s).toList _ _ rfl rfl l2 rfl (by kernel_rfl) (by kernel_rfl) (by kernel_rfl) ?_;intro W5 p9 l9 n9;refine stayT ?_) | fail)
  have l5:W5.heap[g0]? = some (.cells (#[.int .i64 (-1),.string ByteArray.empty,.int .i64 s.sh,.int .i64 s.fl,.int .i64 s.cl,.bool s.w.a,.bool s.w.p,.int .i64 s.w.n,.bool s.h.a,.bool s.h.p,.int .i64 s.h.n,.int .i64 s.mn,.int .i64 s.mx,.int .i64 s.mt,.bool s.mr.a,.bool s.mr.p,.int .i64 s.mr.n,.int .i64 s.mb,.bool s.ml.a,.bool s.ml.p,.int .i64 s.ml.n,.int .i64 s.bo,.int .i64 s.pa,.int .i64 s.wh,.int .i64 s.al,.int .i64 s.lh,.int .i64 s.ri,.int .i64 s.dn]) 75 (0,0)):=l9.trans (congrArg (fun c=>some (Obj.cells c 75 (0,0))) (show _ = (#[.int .i64 (-1),.string ByteArray.empty,.int .i64 s.sh,.int .i64 s.fl,.int .i64 s.cl,.bool s.w.a,.bool s.w.p,.int .i64 s.w.n,.bool s.h.a,.bool s.h.p,.int .i64 s.h.n,.int .i64 s.mn,.int .i64 s.mx,.int .i64 s.mt,.bool s.mr.a,.bool s.mr.p,.int .i64 s.mr.n,.int .i64 s.mb,.bool s.ml.a,.bool s.ml.p,.int .i64 s.ml.n,.int .i64 s.bo,.int .i64 s.pa,.int .i64 s.wh,.int .i64 s.al,.int .i64 s.lh,.int .i64 s.ri,.int .i64 s.dn]:Array Value) by kernel_rfl))
  have C5:=put_cur hC C2 p9 hg0
  have G5:=put_gro G2 p9 hg0
  unfold StayT
  have d2:W5.cell? ⟨g0,2,none⟩ = some (.int .i64 s.sh):=(lies_cell l5 2).trans rfl
  have d3:W5.cell? ⟨g0,3,none⟩ = some (.int .i64 s.fl):=(lies_cell l5 3).trans rfl
  obtain ⟨V5,hV5⟩:∃ W,W = W5:=⟨_,rfl⟩
  subst hV5
  clear l9 p9 n9 l2 C2 G2
  by_cases hsh:s.sh = 3
  ·have bsh:(s.sh == 3) = true:=by simp [hsh]
   clear hsh
   go_wp2_with fail
   refine (specPlain_at V5).mono ?_
   rintro e W6 ⟨rfl,hW6⟩
   have b6:Below V5.heap.size V5 W6:=by rw [hW6];exact (Below.refl _ _).alloc (Nat.le_refl _) _
   have l6:=below_lies b6 l5 (lies_lt l5)
   have C6:=C5.grown b6
   have G6:=grown_trans G5 (grown_of_below b b6)
   clear hW6 d2 d3
   go_wp2_with (first | ((with_reducible show wpList _ _ _ (⟨none,Op.store 73 (Operand.tmp 35) _,_,_,_,_⟩ :: _) _ _);refine wpList_putA rfl _ _ _ rfl rfl g0 2 28 (#[.int .i64 1,.int .i64 0,.int .i64 0,.bool true,.bool false,.int .i64 0,.bool true,.bool false,.int .i64 0,.int .i64 0,.int .i64 (-1),.int .i64 0,.bool false,.bool false,.int .i64 0,.int .i64 0,.bool false,.bool false,.int .i64 0,.int .i64 0,.int .i64 0,.int .i64 1,.int .i64 1,.int .i64 0,.int .i64 0,.int .i64 0]).toList _ _ rfl rfl l6 rfl (by kernel_rfl) (by kernel_rfl) (by kernel_rfl) ?_;intro W5 p9 l9 n9;refine stayT ?_) | fail)
   have l7:W5.heap[g0]? = some (.cells (#[.int .i64 (-1),.string ByteArray.empty,.int .i64 1,.int .i64 0,.int .i64 0,.bool true,.bool false,.int .i64 0,.bool true,.bool false,.int .i64 0,.int .i64 0,.int .i64 (-1),.int .i64 0,.bool false,.bool false,.int .i64 0,.int .i64 0,.bool false,.bool false,.int .i64 0,.int .i64 0,.int .i64 0,.int .i64 1,.int .i64 1,.int .i64 0,.int .i64 0,.int .i64 0]) 75 (0,0)):=l9.trans (congrArg (fun c=>some (Obj.cells c 75 (0,0))) (show _ = (#[.int .i64 (-1),.string ByteArray.empty,.int .i64 1,.int .i64 0,.int .i64 0,.bool true,.bool false,.int .i64 0,.bool true,.bool false,.int .i64 0,.int .i64 0,.int .i64 (-1),.int .i64 0,.bool false,.bool false,.int .i64 0,.int .i64 0,.bool false,.bool false,.int .i64 0,.int .i64 0,.int .i64 0,.int .i64 1,.int .i64 1,.int .i64 0,.int .i64 0,.int .i64 0]:Array Value) by kernel_rfl))
   have C7:=put_cur hC C6 p9 hg0
   have G7:=put_gro G6 p9 hg0
   unfold StayT
   clear l9 p9 n9
   go_wp2_with fail
   go_meet
   case rel=>exact ⟨(⟨1,0,0,⟨true,false,0⟩,⟨true,false,0⟩,0,(-1),0,⟨false,false,0⟩,0,⟨false,false,0⟩,0,0,1,1,0,0,0⟩:St),l7,C7.more (by omega),G7⟩
  ·have bsh:(s.sh == 3) = false:=by simp [hsh]
   by_cases hfl:s.fl = 0
   ·have bfl:(s.fl != 0) = false:=by simp [hfl]
    clear hsh hfl
    go_wp2_with fail
    go_meet
    case rel=>exact ⟨s,l5,C5.more (by omega),G5⟩
   ·have bfl:(s.fl != 0) = true:=by simp [hfl]
    clear hsh hfl
    go_wp2_with fail
    refine (specPlain_at V5).mono ?_
    rintro e W6 ⟨rfl,hW6⟩
    have b6:Below V5.heap.size V5 W6:=by rw [hW6];exact (Below.refl _ _).alloc (Nat.le_refl _) _
    have l6:=below_lies b6 l5 (lies_lt l5)
    have C6:=C5.grown b6
    have G6:=grown_trans G5 (grown_of_below b b6)
    clear hW6 d2 d3
    go_wp2_with (first | ((with_reducible show wpList _ _ _ (⟨none,Op.store 73 (Operand.tmp 35) _,_,_,_,_⟩ :: _) _ _);refine wpList_putA rfl _ _ _ rfl rfl g0 2 28 (#[.int .i64 1,.int .i64 0,.int .i64 0,.bool true,.bool false,.int .i64 0,.bool true,.bool false,.int .i64 0,.int .i64 0,.int .i64 (-1),.int .i64 0,.bool false,.bool false,.int .i64 0,.int .i64 0,.bool false,.bool false,.int .i64 0,.int .i64 0,.int .i64 0,.int .i64 1,.int .i64 1,.int .i64 0,.int .i64 0,.int .i64 0]).toList _ _ rfl rfl l6 rfl (by kernel_rfl) (by kernel_rfl) (by kernel_rfl) ?_;intro W5 p9 l9 n9;refine stayT ?_) | fail)
    have l7:W5.heap[g0]? = some (.cells (#[.int .i64 (-1),.string ByteArray.empty,.int .i64 1,.int .i64 0,.int .i64 0,.bool true,.bool false,.int .i64 0,.bool true,.bool false,.int .i64 0,.int .i64 0,.int .i64 (-1),.int .i64 0,.bool false,.bool false,.int .i64 0,.int .i64 0,.bool false,.bool false,.int .i64 0,.int .i64 0,.int .i64 0,.int .i64 1,.int .i64 1,.int .i64 0,.int .i64 0,.int .i64 0]) 75 (0,0)):=l9.trans (congrArg (fun c=>some (Obj.cells c 75 (0,0))) (show _ = (#[.int .i64 (-1),.string ByteArray.empty,.int .i64 1,.int .i64 0,.int .i64 0,.bool true,.bool false,.int .i64 0,.bool true,.bool false,.int .i64 0,.int .i64 0,.int .i64 (-1),.int .i64 0,.bool false,.bool false,.int .i64 0,.int .i64 0,.bool false,.bool false,.int .i64 0,.int .i64 0,.int .i64 0,.int .i64 1,.int .i64 1,.int .i64 0,.int .i64 0,.int .i64 0]:Array Value) by kernel_rfl))
    have C7:=put_cur hC C6 p9 hg0
    have G7:=put_gro G6 p9 hg0
    unfold StayT
    clear l9 p9 n9
    go_wp2_with fail
    go_meet
    case rel=>exact ⟨(⟨1,0,0,⟨true,false,0⟩,⟨true,false,0⟩,0,(-1),0,⟨false,false,0⟩,0,⟨false,false,0⟩,0,0,1,1,0,0,0⟩:St),l7,C7.more (by omega),G7⟩
 case rest =>
  obtain ⟨s0,l0,C0,G0⟩:=hcut
  obtain ⟨W0,hW0⟩:∃ W,W = wc:=⟨_,rfl⟩
  subst hW0
  have D0:Hid (Dr w b a len cap (m + 100) (.slice (some ⟨g0,0,none⟩) 1 1) [⟨-1,ByteArray.empty,s0⟩] 0 W0):=⟨own_first hg0 l0 rfl,C0,G0,nsAt_one s0,by simp⟩
  have P9:=pick_any b len cap (m + 100) a 9 W0 (by omega) C0 (by omega) (by omega)
  clear l1 C1 G1 l0 C0 G0
  go_wp2_with fail
  refine P9.mono ?_
  rintro e W1' ⟨v9,rfl,v90,v91,C1,G1⟩
  have D1:Hid (Dr w b a len cap (m + 102) (.slice (some ⟨g0,0,none⟩) 1 1) [⟨-1,ByteArray.empty,s0⟩] 0 W1'):=D0.out.step hlt C1 G1
  have O16:=one_any b len cap (m + 102) a 16 W1' (by omega) C1 (by omega) (by omega)
  clear P9 D0 C1 G1
  go_wp2_with fail
  refine O16.mono ?_
  rintro e W2' ⟨v16,rfl,C2,G2⟩
  have D2:Hid (Dr w b a len cap (m + 104) (.slice (some ⟨g0,0,none⟩) 1 1) [⟨-1,ByteArray.empty,s0⟩] 0 W2'):=D1.out.step hlt C2 G2
  clear O16 D1 C2 G2
  go_upto_if 40 with fail
  go_cut [6] from 40 to 43 (fun p wx=>∃ n:Nat,n ≤ 40 ∧ p = .int .i64 n ∧ Dr w b a len cap (m + 200) (.slice (some ⟨g0,0,none⟩) 1 1) [⟨-1,ByteArray.empty,s0⟩] 0 wx)
  case first =>
   cases v16
   ·go_wp2_with fail
    go_meet
    case rel=>exact ⟨(v9 + 1).toNat,by omega,by rw [show (((v9 + 1).toNat:Nat):Int) = 1 + v9 by omega],⟨D2.out.own,D2.out.cur.more (by omega),D2.out.gro,D2.out.nsa,D2.out.at_⟩⟩
   have bA:Below W2'.heap.size W2' (W2'.alloc (.cells #[.int .i64 20,.int .i64 39,.int .i64 40] 3)):=(Below.refl _ _).alloc (Nat.le_refl _) _
   have hltA:b < W2'.heap.size:=D2.out.cur.lt
   have AM:=among_in (fun z=>0 ≤ z ∧ z ≤ 40) b len cap (m + 104) W2'.heap.size 3 3 a _ (by omega) (D2.out.cur.grown bA) (by omega) (by omega) (by omega) (three_in W2')
   have DA:Hid (Dr w b a len cap (m + 104) (.slice (some ⟨g0,0,none⟩) 1 1) [⟨-1,ByteArray.empty,s0⟩] 0 (W2'.alloc (.cells #[.int .i64 20,.int .i64 39,.int .i64 40] 3))):=D2.out.step hlt (D2.out.cur.grown bA) (grown_of_below b bA)
   clear bA
   go_wp2_with fail
   refine AM.mono ?_
   rintro e W3 ⟨z,rfl,⟨z0,z1⟩,C3,G3⟩
   have D3:=DA.out.step hlt C3 G3
   clear AM DA C3 G3
   go_wp2_with fail
   go_meet
   case rel=>exact ⟨z.toNat,by omega,by rw [show ((z.toNat:Nat):Int) = z by omega],⟨D3.own,D3.cur.more (by omega),D3.gro,D3.nsa,D3.at_⟩⟩
  case rest =>
   obtain ⟨n0,hn0,rfl,D3⟩:=hcut
   obtain ⟨W3,hW3⟩:∃ W,W = wc:=⟨_,rfl⟩
   subst hW3
   have HD3:Hid (Dr w b a len cap (m + 200) (.slice (some ⟨g0,0,none⟩) 1 1) [⟨-1,ByteArray.empty,s0⟩] 0 W3):=D3
   clear D3 D2
   go_wp2_with fail
   go_loopw [3,4,5,6] (fun vl va vd vn wr=>∃ (k:Nat) (ns:List Nd) (t:Nat) (d:Int),k ≤ 40 ∧ ns.length + k ≤ 41 ∧ vn = .int .i64 k ∧ va = .int .i64 t ∧ vd = .int .i64 d ∧ Dr w b a len cap (m + 200 + 300 * (40 - k)) vl ns t wr) (fun _ _ _ vn _=>(intOf vn).toNat)
   case atStart=>exact ⟨n0,_,0,1,hn0,by simp;omega,rfl,rfl,rfl,⟨HD3.out.own,HD3.out.cur.more (by omega),HD3.out.gro,HD3.out.nsa,HD3.out.at_⟩⟩
   case round =>
    obtain ⟨k,ns,t,d,hk,hkn,rfl,rfl,rfl,hD⟩:=hrel
    have HD:Hid (Dr w b a len cap (m + 200 + 300 * (40 - k)) _ ns t wr):=hD
    clear hD HD3
    obtain ⟨n1,hn1⟩:∃ n,n = ns.length:=⟨_,rfl⟩
    obtain ⟨g1,cap1,hvl⟩:=nOwn_some HD.out.own (by have:=HD.out.at_;omega)
    rw [← hn1] at hvl
    subst hvl
    have HN:Hid (n1 = ns.length):=hn1
    have hn41:n1 + k ≤ 41:=by omega
    have hn1p:1 ≤ n1:=by have:=HD.out.at_;omega
    clear hn1 hkn
    by_cases hp:0 < k
    rotate_left
    ·have hk0:k = 0:=by omega
     subst hk0
     have hn41:n1 ≤ 41:=by have:=HN.out;omega
     have P4:=pick_any b len cap (m + 200 + 300 * 40) a 40 wr (by omega) (HD.out.cur.more (by omega)) (by omega) (by omega)
     go_wp2_with fail
     refine P4.mono ?_
     rintro e W4 ⟨z,rfl,z0,z1,C4,G4⟩
     have D4:Hid (Dr w b a len cap (m + 200 + 300 * 40 + 2) (.slice (some ⟨g1,0,none⟩) n1 cap1) ns t W4):=HD.out.step hlt C4 G4
     obtain ⟨x,hx⟩:∃ x,ns[n1 - 1]? = some x:=⟨_,List.getElem?_eq_getElem (by have:=HN.out;omega)⟩
     have HX:Hid (ns[n1 - 1]? = some x):=hx
     have hTX:TxOk x.tx:=(D4.out.nsa _ x hx).2.2
     have hxs:x.tx.size ≤ 80:=hTX.1
     have HTX:Hid (TxOk x.tx):=hTX
     clear P4 HD C4 G4 hx hTX
     by_cases h0:z = 0
     ·subst h0
      have P5:=pick_any b len cap (m + 200 + 300 * 40 + 2) a 4 W4 (by omega) D4.out.cur (by omega) (by omega)
      go_wp2_with fail
      refine P5.mono ?_
      rintro e W5 ⟨y,rfl,y0,y1,C5,G5⟩
      have D5:=D4.out.step hlt C5 G5
      have q0:W5.cell? ⟨g1,(n1 - 1) * 28,none⟩ = some (.int .i64 x.up):=by have h:=D5.own.cell (k:=n1 - 1) (c:=0) (v:=.int .i64 x.up) HN.out HX.out rfl;rw [Nat.add_zero] at h;exact h
      have f0:=D5.free HN.out ((n1 - 1) * 28)
      have HST:Hid (∀ v:Int,OwnN (W5.setCell ⟨g1,(n1 - 1) * 28,none⟩ (.int .i64 v)) w.heap.size (.slice (some ⟨g1,0,none⟩) n1 cap1) (ns.set (n1 - 1) ⟨v,x.tx,x.st⟩) ∧ CurOk (W5.setCell ⟨g1,(n1 - 1) * 28,none⟩ (.int .i64 v)) b a len cap (m + 200 + 300 * 40 + 2 + 2) ∧ w.grownBy (W5.setCell ⟨g1,(n1 - 1) * 28,none⟩ (.int .i64 v)) (some b)):=fun v=>by
       have h:=D5.set hC HN.out (k:=n1 - 1) HX.out (c:=0) (by decide) (v:=.int .i64 v) (y:=⟨v,x.tx,x.st⟩) rfl
       rw [Nat.add_zero] at h
       exact h
      have FIN:Hid (∀ v:Int,TrOk (ns.set (n1 - 1) ⟨v,x.tx,x.st⟩)):=fun v=>by
       have h:=trOk_last D5.nsa (by have:=D5.at_;omega) (by have:=HN.out;omega) (x:=x) (y:=⟨v,x.tx,x.st⟩) (by rw [← HN.out];exact HX.out) ⟨by have:=HTX.out.1;show x.tx.size ≤ 90;omega,fun ht=>by have:=HTX.out.2 ht;show costN x.tx.data.toList ≤ 1100;omega⟩
       rw [← HN.out] at h
       exact h
      clear P5 D4 D5 C5 G5
      go_wp2
      go_ret
      exact ⟨_,_,rfl,(HST.out _).1,FIN.out _,(HST.out _).2.1.more (by omega),(HST.out _).2.2⟩
     have b0:(z == 0) = false:=by simpa using h0
     by_cases h1:z = 1
     ·subst h1
      have q1:W4.cell? ⟨g1,(n1 - 1) * 28 + 1,none⟩ = some (.string x.tx):=D4.out.own.cell (k:=n1 - 1) (c:=1) (v:=.string x.tx) HN.out HX.out rfl
      have f1:=D4.out.free HN.out ((n1 - 1) * 28 + 1)
      have HST:Hid (_):=D4.out.set hC HN.out (k:=n1 - 1) HX.out (c:=1) (by decide) (v:=.string (x.tx ++ ⟨#[120]⟩)) (y:=⟨x.up,x.tx ++ ⟨#[120]⟩,x.st⟩) rfl
      have FIN:Hid (TrOk (ns.set (n1 - 1) ⟨x.up,x.tx ++ ⟨#[120]⟩,x.st⟩)):=by
       show TrOk _
       have h:=trOk_last D4.out.nsa (by have:=D4.out.at_;omega) (by have:=HN.out;omega) (x:=x) (y:=⟨x.up,x.tx ++ ⟨#[120]⟩,x.st⟩) (by rw [← HN.out];exact HX.out) (tx_x HTX.out)
       rw [← HN.out] at h
       exact h
      clear D4
      go_wp2
      go_ret
      exact ⟨_,_,rfl,HST.out.1,FIN.out,HST.out.2.1.more (by omega),HST.out.2.2⟩
     ·have b1:(z == 1) = false:=by simpa using h1
      have FIN:Hid (TrOk ns):=trOk_of D4.out.nsa (by have:=D4.out.at_;omega) (by have:=HN.out;omega)
      go_wp2
      go_ret
      exact ⟨_,_,rfl,D4.out.own,FIN.out,D4.out.cur.more (by omega),D4.out.gro⟩
    have ht41:t < 41:=by have:=HD.out.at_;have:=HN.out;omega
    go_upto_block 2 with fail
    go_cut [4,5] from 48 to 60 (fun va vd wx=>∃ (t':Nat) (d':Int),va = .int .i64 t' ∧ vd = .int .i64 d' ∧ Dr w b a len cap (m + 200 + 300 * (40 - k) + 100) (.slice (some ⟨g1,0,none⟩) n1 cap1) ns t' wx)
    case first =>
     go_wp2_with fail
     go_loopw [4,5] (fun va vd wr2=>∃ (t':Nat) (d':Int),t' ≤ t ∧ va = .int .i64 t' ∧ vd = .int .i64 d' ∧ Dr w b a len cap (m + 200 + 300 * (40 - k) + 2 * (t - t')) (.slice (some ⟨g1,0,none⟩) n1 cap1) ns t' wr2) (fun va _ _=>(intOf va).toNat)
     case atStart=>exact ⟨t,d,Nat.le_refl _,rfl,rfl,HD.out.more (by omega) HD.out.at_⟩
     case round =>
      obtain ⟨t',d',ht',rfl,rfl,hD'⟩:=hrel
      have HD':Hid (Dr w b a len cap (m + 200 + 300 * (40 - k) + 2 * (t - t')) (.slice (some ⟨g1,0,none⟩) n1 cap1) ns t' wr):=hD'
      clear hD' HD
      by_cases hp':0 < t'
      rotate_left
      ·go_wp2_with fail
       go_meet
       case rel=>exact ⟨t',d',rfl,rfl,HD'.out.more (by omega) HD'.out.at_⟩
      have O2:=one_any b len cap (m + 200 + 300 * (40 - k) + 2 * (t - t')) a 2 wr (by omega) HD'.out.cur (by omega) (by omega)
      go_wp2_with fail
      refine O2.mono ?_
      rintro e W3' ⟨v2,rfl,C3,G3⟩
      have D3:Hid (Dr w b a len cap (m + 200 + 300 * (40 - k) + 2 * (t - t') + 2) (.slice (some ⟨g1,0,none⟩) n1 cap1) ns t' W3'):=HD'.out.step hlt C3 G3
      clear O2 HD' C3 G3
      cases v2
      ·go_wp2_with fail
       go_meet
       case rel=>exact ⟨t',d',rfl,rfl,D3.out.more (by omega) D3.out.at_⟩
      ·obtain ⟨x,hx⟩:∃ x,ns[t']? = some x:=⟨_,List.getElem?_eq_getElem D3.out.at_⟩
       obtain ⟨u,hu⟩:∃ u:Nat,x.up = (u:Int):=⟨x.up.toNat,by have:=(D3.out.nsa t' x hx).2.1 hp';omega⟩
       have hut:u < t':=by have:=(D3.out.nsa t' x hx).1;omega
       have q0:W3'.cell? ⟨g1,t' * 28,none⟩ = some (.int .i64 (u:Int)):=by have h:=D3.out.own.cell (k:=t') (c:=0) (v:=.int .i64 x.up) HN.out hx rfl;rw [Nat.add_zero,hu] at h;exact h
       have t0:(t':Int) < (n1:Int):=by have:=D3.out.at_;have:=HN.out;omega
       clear hx hu
       go_wp2
       go_roundw
       case rel=>exact ⟨u,_,by omega,rfl,rfl,D3.out.more (by omega) (by have:=D3.out.at_;omega)⟩
       case measure=>simp [intOf];omega
    case rest =>
     obtain ⟨t1,d1,rfl,rfl,hD1⟩:=hcut
     obtain ⟨V1,hV1⟩:∃ W,W = wc:=⟨_,rfl⟩
     subst hV1
     have HD1:Hid (Dr w b a len cap (m + 200 + 300 * (40 - k) + 100) (.slice (some ⟨g1,0,none⟩) n1 cap1) ns t1 V1):=hD1
     have O3:=one_any b len cap (m + 200 + 300 * (40 - k) + 100) a 3 V1 (by omega) hD1.cur (by omega) (by omega)
     clear hD1 HD
     go_wp2_with fail
     refine O3.mono ?_
     rintro e V2 ⟨v3,rfl,C2,G2⟩
     have HD2:Hid (Dr w b a len cap (m + 200 + 300 * (40 - k) + 102) (.slice (some ⟨g1,0,none⟩) n1 cap1) ns t1 V2):=HD1.out.step hlt C2 G2
     clear O3 HD1 C2 G2
     obtain ⟨j0,hj,hy0,hy1,hy2⟩:=nodeInfo
     cases v3
     ·have SY:=style_any b len cap (m + 200 + 300 * (40 - k) + 102) a V2 (by omega) HD2.out.cur
      go_wp2_with fail
      refine SY.mono ?_
      rintro e V3 ⟨s,rfl,C3,G3⟩
      have HD3':Hid (Dr w b a len cap (m + 200 + 300 * (40 - k) + 162) (.slice (some ⟨g1,0,none⟩) n1 cap1) ns t1 V3):=HD2.out.step hlt C3 G3
      have HOL:Hid (V3.ownsRow w.heap.size 75 28 (.slice (some ⟨g1,0,none⟩) n1 cap1) n1 (flatN ns)):=by
       show V3.ownsRow _ _ _ _ _ _
       have h:=HD3'.out.own
       unfold OwnN at h
       rw [← HN.out] at h
       exact h
      have hsz:=HD3'.out.gro.size
      clear SY HD2 C3 G3
      go_wp2_with (first | ((with_reducible show wpList _ _ _ (⟨some 77,Op.build 75 _,_,_,_,_⟩ :: _) _ _);refine wpList_buildTo rfl 75 _ rfl _ rfl (#[.int .i64 (t1:Int),.string ByteArray.empty,.int .i64 s.sh,.int .i64 s.fl,.int .i64 s.cl,.bool s.w.a,.bool s.w.p,.int .i64 s.w.n,.bool s.h.a,.bool s.h.p,.int .i64 s.h.n,.int .i64 s.mn,.int .i64 s.mx,.int .i64 s.mt,.bool s.mr.a,.bool s.mr.p,.int .i64 s.mr.n,.int .i64 s.mb,.bool s.ml.a,.bool s.ml.p,.int .i64 s.ml.n,.int .i64 s.bo,.int .i64 s.pa,.int .i64 s.wh,.int .i64 s.al,.int .i64 s.lh,.int .i64 s.ri,.int .i64 s.dn]) (by kernel_rfl) ?_) | (at_builtin;refine wpList_append_own _ rfl (.tmp 73) (.tmp 78) 23 rfl w.heap.size 75 j0 _ 28 200 Tryz.underlying23 hj hy0 hy1 hy2 rfl (by decide) _ _ _ rfl (HOL.out.alloc _) ⟨V3.heap.size,0,none⟩ 1 1 (#[.int .i64 (t1:Int),.string ByteArray.empty,.int .i64 s.sh,.int .i64 s.fl,.int .i64 s.cl,.bool s.w.a,.bool s.w.p,.int .i64 s.w.n,.bool s.h.a,.bool s.h.p,.int .i64 s.h.n,.int .i64 s.mn,.int .i64 s.mx,.int .i64 s.mt,.bool s.mr.a,.bool s.mr.p,.int .i64 s.mr.n,.int .i64 s.mb,.bool s.ml.a,.bool s.ml.p,.int .i64 s.ml.n,.int .i64 s.bo,.int .i64 s.pa,.int .i64 s.wh,.int .i64 s.al,.int .i64 s.lh,.int .i64 s.ri,.int .i64 s.dn]:Array Value).toList rfl rfl (World.news_of_block (cs:=#[.int .i64 (t1:Int),.string ByteArray.empty,.int .i64 s.sh,.int .i64 s.fl,.int .i64 s.cl,.bool s.w.a,.bool s.w.p,.int .i64 s.w.n,.bool s.h.a,.bool s.h.p,.int .i64 s.h.n,.int .i64 s.mn,.int .i64 s.mx,.int .i64 s.mt,.bool s.mr.a,.bool s.mr.p,.int .i64 s.mr.n,.int .i64 s.mb,.bool s.ml.a,.bool s.ml.p,.int .i64 s.ml.n,.int .i64 s.bo,.int .i64 s.pa,.int .i64 s.wh,.int .i64 s.al,.int .i64 s.lh,.int .i64 s.ri,.int .i64 s.dn]) (heap_at _ _ _ rfl)) (one28 ⟨(t1:Int),ByteArray.empty,s⟩) (by unfold maxLen;omega) (by omega) (by simp;omega) ?_) | fail)
      intro v8 w8 hown8 hgrow8 _
      have HP:Hid (∀ t',t' ≤ n1 → Dr w b a len cap (m + 200 + 300 * (40 - k) + 162) v8 (ns ++ [⟨(t1:Int),ByteArray.empty,s⟩]) t' w8):=fun t' ht'=>HD3'.out.push hC HN.out hown8 hgrow8 tx_none t' ht'
      obtain ⟨g8,cap8,hv8⟩:=nOwn_some hown8 (by omega)
      subst hv8
      have HL8:Hid ((ns ++ [(⟨(t1:Int),ByteArray.empty,s⟩:Nd)]).length = n1 + 1):=by show _ = _;rw [List.length_append,← HN.out];rfl
      have O40:=one_any b len cap (m + 200 + 300 * (40 - k) + 162) a 40 w8 (by omega) (HP.out 0 (by omega)).cur (by omega) (by omega)
      have h1t:=HD3'.out.at_
      have ht1n:t1 ≤ n1:=by have:=HN.out;omega
      clear hown8 hgrow8 HOL HD3' h1t
      by_cases hd:d1 < 7
      ·clear O40
       go_wp2
       go_roundw
       case rel=>exact ⟨k - 1,_,n1,_,by omega,by rw [HL8.out];omega,by go_num,by go_num,rfl,(HP.out n1 (Nat.le_refl _)).more (by omega) (by rw [HL8.out];omega)⟩
       case measure=>simp [intOf];omega
      ·go_wp2_with fail
       refine O40.mono ?_
       rintro e w9 ⟨v40,rfl,C9,G9⟩
       have HP9:Hid (∀ t',t' ≤ n1 → Dr w b a len cap (m + 200 + 300 * (40 - k) + 164) (.slice (some ⟨g8,0,none⟩) (n1 + 1) cap8) (ns ++ [⟨(t1:Int),ByteArray.empty,s⟩]) t' w9):=fun t' ht'=>(HP.out t' ht').step hlt C9 G9
       clear O40 HP C9 G9
       cases v40
       ·go_wp2
        go_roundw
        case rel=>exact ⟨k - 1,_,t1,_,by omega,by rw [HL8.out];omega,by go_num,rfl,rfl,(HP9.out t1 ht1n).more (by omega) (by rw [HL8.out];omega)⟩
        case measure=>simp [intOf];omega
       ·go_wp2
        go_roundw
        case rel=>exact ⟨k - 1,_,n1,_,by omega,by rw [HL8.out];omega,by go_num,by go_num,rfl,(HP9.out n1 (Nat.le_refl _)).more (by omega) (by rw [HL8.out];omega)⟩
        case measure=>simp [intOf];omega
     ·have RW:=raw_any b len cap (m + 200 + 300 * (40 - k) + 102) a V2 (by omega) HD2.out.cur
      go_wp2_with fail
      refine RW.mono ?_
      rintro e V3 ⟨tx,rfl,htx,C3,G3⟩
      have HD3':Hid (Dr w b a len cap (m + 200 + 300 * (40 - k) + 132) (.slice (some ⟨g1,0,none⟩) n1 cap1) ns t1 V3):=HD2.out.step hlt C3 G3
      have HTX:Hid (TxOk tx):=htx
      have HOL:Hid (V3.ownsRow w.heap.size 75 28 (.slice (some ⟨g1,0,none⟩) n1 cap1) n1 (flatN ns)):=by
       show V3.ownsRow _ _ _ _ _ _
       have h:=HD3'.out.own
       unfold OwnN at h
       rw [← HN.out] at h
       exact h
      have hsz:=HD3'.out.gro.size
      have h1t:=HD3'.out.at_
      have ht1n:t1 ≤ n1:=by have:=HN.out;omega
      clear RW HD2 C3 G3 htx h1t
      by_cases hemp:tx.size = 0
      ·have hke:tx.toList.isEmpty = true:=by rw [ByteArray.toList_eq,List.isEmpty_iff_length_eq_zero];simpa using hemp
       clear hemp
       go_wp2_with (first | ((with_reducible show wpList _ _ _ (⟨some 70,Op.build 75 _,_,_,_,_⟩ :: _) _ _);refine wpList_buildTo rfl 75 _ rfl _ rfl (#[.int .i64 (t1:Int),.string (⟨#[116,101,120,116]⟩:ByteArray),.int .i64 0,.int .i64 0,.int .i64 0,.bool false,.bool false,.int .i64 0,.bool false,.bool false,.int .i64 0,.int .i64 0,.int .i64 0,.int .i64 0,.bool false,.bool false,.int .i64 0,.int .i64 0,.bool false,.bool false,.int .i64 0,.int .i64 0,.int .i64 0,.int .i64 0,.int .i64 0,.int .i64 0,.int .i64 0,.int .i64 0]) (by kernel_rfl) ?_) | (at_builtin;refine wpList_append_own _ rfl (.tmp 67) (.tmp 71) 23 rfl w.heap.size 75 j0 _ 28 200 Tryz.underlying23 hj hy0 hy1 hy2 rfl (by decide) _ _ _ rfl (HOL.out.alloc _) ⟨V3.heap.size,0,none⟩ 1 1 (#[.int .i64 (t1:Int),.string (⟨#[116,101,120,116]⟩:ByteArray),.int .i64 0,.int .i64 0,.int .i64 0,.bool false,.bool false,.int .i64 0,.bool false,.bool false,.int .i64 0,.int .i64 0,.int .i64 0,.int .i64 0,.bool false,.bool false,.int .i64 0,.int .i64 0,.bool false,.bool false,.int .i64 0,.int .i64 0,.int .i64 0,.int .i64 0,.int .i64 0,.int .i64 0,.int .i64 0,.int .i64 0]:Array Value).toList rfl rfl (World.news_of_block (cs:=#[.int .i64 (t1:Int),.string (⟨#[116,101,120,116]⟩:ByteArray),.int .i64 0,.int .i64 0,.int .i64 0,.bool false,.bool false,.int .i64 0,.bool false,.bool false,.int .i64 0,.int .i64 0,.int .i64 0,.int .i64 0,.bool false,.bool false,.int .i64 0,.int .i64 0,.bool false,.bool false,.int .i64 0,.int .i64 0,.int .i64 0,.int .i64 0,.int .i64 0,.int .i64 0,.int .i64 0,.int .i64 0]) (heap_at _ _ _ rfl)) (one28 ⟨(t1:Int),(⟨#[116,101,120,116]⟩:ByteArray),(⟨0,0,0,⟨false,false,0⟩,⟨false,false,0⟩,0,0,0,⟨false,false,0⟩,0,⟨false,false,0⟩,0,0,0,0,0,0,0⟩:St)⟩) (by unfold maxLen;omega) (by omega) (by simp;omega) ?_) | fail)
       intro v8 w8 hown8 hgrow8 _
       have HP:Hid (Dr w b a len cap (m + 200 + 300 * (40 - k) + 132) v8 (ns ++ [⟨(t1:Int),(⟨#[116,101,120,116]⟩:ByteArray),(⟨0,0,0,⟨false,false,0⟩,⟨false,false,0⟩,0,0,0,⟨false,false,0⟩,0,⟨false,false,0⟩,0,0,0,0,0,0,0⟩:St)⟩]) t1 w8):=HD3'.out.push hC HN.out hown8 hgrow8 tx_word t1 ht1n
       have HL8:Hid ((ns ++ [(⟨(t1:Int),(⟨#[116,101,120,116]⟩:ByteArray),(⟨0,0,0,⟨false,false,0⟩,⟨false,false,0⟩,0,0,0,⟨false,false,0⟩,0,⟨false,false,0⟩,0,0,0,0,0,0,0⟩:St)⟩:Nd)]).length = n1 + 1):=by show _ = _;rw [List.length_append,← HN.out];rfl
       clear hown8 hgrow8 HOL HD3'
       go_wp2
       go_roundw
       case rel=>exact ⟨k - 1,_,t1,_,by omega,by rw [HL8.out];omega,by go_num,rfl,rfl,HP.out.more (by omega) HP.out.at_⟩
       case measure=>simp [intOf];omega
      ·have hke:tx.toList.isEmpty = false:=by rw [← Bool.not_eq_true,ByteArray.toList_eq,List.isEmpty_iff_length_eq_zero];simpa using hemp
       clear hemp
       go_wp2_with (first | ((with_reducible show wpList _ _ _ (⟨some 70,Op.build 75 _,_,_,_,_⟩ :: _) _ _);refine wpList_buildTo rfl 75 _ rfl _ rfl (#[.int .i64 (t1:Int),.string tx,.int .i64 0,.int .i64 0,.int .i64 0,.bool false,.bool false,.int .i64 0,.bool false,.bool false,.int .i64 0,.int .i64 0,.int .i64 0,.int .i64 0,.bool false,.bool false,.int .i64 0,.int .i64 0,.bool false,.bool false,.int .i64 0,.int .i64 0,.int .i64 0,.int .i64 0,.int .i64 0,.int .i64 0,.int .i64 0,.int .i64 0]) (by kernel_rfl) ?_) | (at_builtin;refine wpList_append_own _ rfl (.tmp 67) (.tmp 71) 23 rfl w.heap.size 75 j0 _ 28 200 Tryz.underlying23 hj hy0 hy1 hy2 rfl (by decide) _ _ _ rfl (HOL.out.alloc _) ⟨V3.heap.size,0,none⟩ 1 1 (#[.int .i64 (t1:Int),.string tx,.int .i64 0,.int .i64 0,.int .i64 0,.bool false,.bool false,.int .i64 0,.bool false,.bool false,.int .i64 0,.int .i64 0,.int .i64 0,.int .i64 0,.bool false,.bool false,.int .i64 0,.int .i64 0,.bool false,.bool false,.int .i64 0,.int .i64 0,.int .i64 0,.int .i64 0,.int .i64 0,.int .i64 0,.int .i64 0,.int .i64 0]:Array Value).toList rfl rfl (World.news_of_block (cs:=#[.int .i64 (t1:Int),.string tx,.int .i64 0,.int .i64 0,.int .i64 0,.bool false,.bool false,.int .i64 0,.bool false,.bool false,.int .i64 0,.int .i64 0,.int .i64 0,.int .i64 0,.bool false,.bool false,.int .i64 0,.int .i64 0,.bool false,.bool false,.int .i64 0,.int .i64 0,.int .i64 0,.int .i64 0,.int .i64 0,.int .i64 0,.int .i64 0,.int .i64 0]) (heap_at _ _ _ rfl)) (one28 ⟨(t1:Int),tx,(⟨0,0,0,⟨false,false,0⟩,⟨false,false,0⟩,0,0,0,⟨false,false,0⟩,0,⟨false,false,0⟩,0,0,0,0,0,0,0⟩:St)⟩) (by unfold maxLen;omega) (by omega) (by simp;omega) ?_) | fail)
       intro v8 w8 hown8 hgrow8 _
       have HP:Hid (Dr w b a len cap (m + 200 + 300 * (40 - k) + 132) v8 (ns ++ [⟨(t1:Int),tx,(⟨0,0,0,⟨false,false,0⟩,⟨false,false,0⟩,0,0,0,⟨false,false,0⟩,0,⟨false,false,0⟩,0,0,0,0,0,0,0⟩:St)⟩]) t1 w8):=HD3'.out.push hC HN.out hown8 hgrow8 HTX.out t1 ht1n
       have HL8:Hid ((ns ++ [(⟨(t1:Int),tx,(⟨0,0,0,⟨false,false,0⟩,⟨false,false,0⟩,0,0,0,⟨false,false,0⟩,0,⟨false,false,0⟩,0,0,0,0,0,0,0⟩:St)⟩:Nd)]).length = n1 + 1):=by show _ = _;rw [List.length_append,← HN.out];rfl
       clear hown8 hgrow8 HOL HD3'
       go_wp2
       go_roundw
       case rel=>exact ⟨k - 1,_,t1,_,by omega,by rw [HL8.out];omega,by go_num,rfl,rfl,HP.out.more (by omega) HP.out.at_⟩
       case measure=>simp [intOf];omega
end Go.Proofs.YtjnmloaopnbpgaaGreatDoor
