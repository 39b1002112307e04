/-
 A drawn text: it is short, and where its letters are good its breaks are few.
 A drawn size and a drawn style: some size, some style; they turn nothing but their cursor, and leave it good.
-/
import Derived.Test.YtjnmloaopnbpgaaGreatDoorMg31
namespace Go.Proofs.YtjnmloaopnbpgaaGreatDoor
open Go.ChangeShapes Go.WideShapes Go.ChangeAt Go.RowKit
set_option linter.unusedVariables false
set_option maxHeartbeats 1000000 in
/-- One of some texts, in a row that is not the cursor's. -/
theorem of_in (p:ByteArray → Prop) (b len cap m lb n lc:Nat) (a:Option Addr) (w:World) (hm:m ≤ 100000000000000) (hC:CurOk w b a len cap m) (n1:1 ≤ n) (n2:n ≤ 1000000) (hne:lb ≠ b)
  (hc:∀ i,i < n → ∃ z:ByteArray,p z ∧ w.cell? ⟨lb,i,none⟩ = some (.string z)) :
  Calls Tryz.prog 72 #[.pointer (some ⟨b,0,none⟩),.slice (some ⟨lb,0,none⟩) n lc] w fun e w'=>∃ v:ByteArray,e = .returned (.string v) ∧ p v ∧ CurOk w' b a len cap (m + 2) ∧ w.grownBy w' (some b):=by
 have P:=pick_any b len cap m a n w hm hC (by omega) (by omega)
 clear hC
 have P':=P.mono (R':=fun e w'=>∃ j:Nat,e = .returned (.int .i64 (j:Int)) ∧ j < n ∧ (∃ z:ByteArray,Hid (p z) ∧ w'.cell? ⟨lb,j,none⟩ = some (.string z)) ∧ CurOk w' b a len cap (m + 2) ∧ w.grownBy w' (some b)) (fun e w' h=>by
  obtain ⟨v,rfl,v0,v1,hC1,hg1⟩:=h
  obtain ⟨z,hzs,hz⟩:=hc v.toNat (by omega)
  have hb:w'.heap[lb]? = w.heap[lb]?:=hg1.block lb (cell_lt' hz) (by simpa using hne)
  exact ⟨v.toNat,by rw [show ((v.toNat:Nat):Int) = v by omega],by omega,⟨z,hzs,(World.cell?_of_block (a:=⟨lb,v.toNat,none⟩) hb).trans hz⟩,hC1,hg1⟩)
 clear P hc
 go_enter Tryz.func72,Tryz.ntmps72
 go_wp2_with (go_at_call 11;refine P'.mono ?_;rintro e w1 ⟨j,rfl,j1,⟨z,hzs,hz⟩,hC1,hg1⟩)
 go_ret
 exact ⟨_,rfl,hzs.out,hC1,hg1⟩
theorem row_new (p:ByteArray → Prop) (w:World) (l:List ByteArray) (hl:∀ z ∈ l,p z) (i:Nat) (hi:i < l.length) :
  ∃ z:ByteArray,p z ∧ (w.alloc (.cells (l.map Value.string).toArray 9)).cell? ⟨w.heap.size,i,none⟩ = some (.string z):=by
 refine ⟨l[i],hl _ (List.getElem_mem hi),?_⟩
 simp [hi]
/-- A piece of a drawn text. -/
def pieceB (z:ByteArray):Bool:=decide (z.size ≤ 10) && decide (costN z.data.toList ≤ 137)
def eleven:List ByteArray:=[⟨#[119,111,114,100]⟩,⟨#[97]⟩,⟨#[109,105,108,108]⟩,⟨#[32]⟩,⟨#[32,32]⟩,⟨#[10]⟩,⟨#[9]⟩,⟨#[119,101,108,108,45,107,110,111,119,110]⟩,⟨#[45,32]⟩,⟨#[119,111,119,44]⟩,⟨#[32,10,32]⟩]
theorem eleven_pieces:∀ z ∈ eleven,pieceB z = true:=by
 intro z hz
 have h:eleven.all pieceB = true:=by decide +kernel
 exact (List.all_eq_true.1 h) z hz
/-- What is known of a drawn text. -/
def TxOk (s:ByteArray):Prop:=s.size ≤ 80 ∧ (textB true s = true → costN s.data.toList ≤ 1000)
theorem bytes_app9 (s t:ByteArray):(s ++ t).data.toList = s.data.toList ++ t.data.toList:=by
 simp [ByteArray.data_append]
theorem tx_acute (s:ByteArray) (h:s.size ≤ 70):TxOk (s ++ ⟨#[195,169]⟩):=by
 have e:(s ++ (⟨#[195,169]⟩:ByteArray)).size = s.size + 2:=ByteArray.size_append
 refine ⟨by omega,fun ht=>absurd (textB_at ht s.size (by omega)) ?_⟩
 rw [ByteArray.getElem_append_right (Nat.le_refl _)]
 show ¬ (okZ true (((⟨#[195,169]⟩:ByteArray)[s.size - s.size]'(by rw [Nat.sub_self];decide)).toNat:Int) = true)
 have e2:(⟨#[195,169]⟩:ByteArray)[s.size - s.size]'(by rw [Nat.sub_self];decide) = 195:=by simp only [Nat.sub_self];rfl
 rw [e2]
 decide
theorem tx_short (s:ByteArray) (h:s.size ≤ 70) (hc:costN s.data.toList ≤ 959):TxOk s:=⟨by omega,fun _=>by omega⟩
theorem tx_word:TxOk ⟨#[116,101,120,116]⟩:=⟨by decide,fun _=>by decide +kernel⟩
theorem tx_nought:TxOk ⟨#[0,0,0]⟩:=⟨by decide,fun _=>by decide +kernel⟩
theorem cost_next {s t:ByteArray} {k:Nat} (hk:0 < k) (hs:costN s.data.toList + 137 * (k:Int) ≤ 959) (ht:pieceB t = true):costN (s ++ t).data.toList + 137 * ((k - 1:Nat):Int) ≤ 959:=by
 unfold pieceB at ht
 simp only [Bool.and_eq_true,decide_eq_true_eq] at ht
 rw [bytes_app9]
 have:=cost_app s.data.toList t.data.toList
 omega
theorem piece_size {t:ByteArray} (ht:pieceB t = true):t.size ≤ 10:=by
 unfold pieceB at ht
 simp only [Bool.and_eq_true,decide_eq_true_eq] at ht
 exact ht.1
theorem infoByte9:(Tryz.prog.info? 5).map (fun i=>(i.zero,i.size,i.bytes)) = some (some (.int .u8 0),1,1):=by kernel_rfl
theorem make3 (w:World):(Instr.makeSlice 22 (.int .i64 3) (.int .i64 3)).run Tryz.prog w = .ok (.slice (some ⟨w.heap.size,0,none⟩) 3 3) (w.alloc (.cells #[.int .u8 0,.int .u8 0,.int .u8 0] 5)):=by
 obtain ⟨i0,hi,hz0,hz1,hz2⟩:=info_parts infoByte9
 have h:=run_make (P:=Tryz.prog) w 22 5 i0 _ Tryz.underlying22 hi hz0 .i64 .i64 3 3 (by omega) (by omega) (by rw [hz2];omega) (by omega)
 have e:madeCells (Value.int .u8 0).cells ((3:Int).toNat * 1) = #[.int .u8 0,.int .u8 0,.int .u8 0]:=by kernel_rfl
 rw [hz1,e] at h
 exact h
theorem back3 (w:World):(convert 22 9 (.slice (some ⟨w.heap.size,0,none⟩) 3 3)).run Tryz.prog (w.alloc (.cells #[.int .u8 0,.int .u8 0,.int .u8 0] 5)) = .ok (.string ⟨#[0,0,0]⟩) (w.alloc (.cells #[.int .u8 0,.int .u8 0,.int .u8 0] 5)):=by
 have h:=run_convert_bytes_back (P:=Tryz.prog) (w.alloc (.cells #[.int .u8 0,.int .u8 0,.int .u8 0] 5)) 22 9 5 ⟨w.heap.size,0,none⟩ 3 [0,0,0] Tryz.underlying22 Tryz.underlying5 Tryz.underlying9 (fun j hj=>by
  have:j = 0 ∨ j = 1 ∨ j = 2:=by simp at hj;omega
  rcases this with rfl | rfl | rfl <;> (rw [Addr.add_lit];simp))
 exact h
set_option maxRecDepth 100000 in
set_option maxHeartbeats 2000000 in
theorem raw_any (b len cap m:Nat) (a:Option Addr) (w:World) (hm:m ≤ 1000000000000) (hC:CurOk w b a len cap m) :
  Calls Tryz.prog 50 #[.pointer (some ⟨b,0,none⟩)] w fun e w'=>∃ s:ByteArray,e = .returned (.string s) ∧ TxOk s ∧ CurOk w' b a len cap (m + 30) ∧ w.grownBy w' (some b):=by
 have hlt:=hC.lt
 have P:=pick_any b len cap m a 8 w (by omega) hC (by omega) (by omega)
 go_enter Tryz.func50,Tryz.ntmps50
 go_wp2_with fail
 refine P.mono ?_
 rintro e w1 ⟨x,rfl,x0,x1,hC1,hg1⟩
 clear P
 go_wp2_with fail
 go_loopw [3,4] (fun t n wr=>∃ (k:Nat) (s:ByteArray),k ≤ 7 ∧ s.size + 10 * k ≤ 70 ∧ Hid (costN s.data.toList + 137 * (k:Int) ≤ 959) ∧ n = .int .i64 k ∧ t = .string s ∧ CurOk wr b a len cap (m + 2 + 2 * (7 - k)) ∧ w.grownBy wr (some b)) (fun _ n _=>(intOf n).toNat)
 case atStart=>exact ⟨x.toNat,ByteArray.empty,by omega,by simp;omega,(show costN ByteArray.empty.data.toList + 137 * (x.toNat:Int) ≤ 959 by have:costN ByteArray.empty.data.toList = 0:=cost_nil;omega),by rw [show ((x.toNat:Nat):Int) = x by omega],rfl,hC1.more (by omega),hg1⟩
 case round =>
  obtain ⟨k,s,hk,hs,hcs,rfl,rfl,hCr,hgr⟩:=hrel
  clear hC1 hg1
  by_cases hp:0 < k
  ·have hltr:=hCr.lt
   have hbl:=(Below.refl wr.heap.size wr).alloc (Nat.le_refl _) (.cells (eleven.map Value.string).toArray 9)
   have OF:=of_in (fun z=>pieceB z = true) b len cap (m + 2 + 2 * (7 - k)) wr.heap.size 11 11 a _ (by omega) (hCr.grown hbl) (by omega) (by omega) (by omega) (row_new _ wr eleven eleven_pieces)
   have hgb:=grown_of_below b hbl
   simp only [eleven,List.map_cons,List.map_nil] at OF hgb
   clear hbl hCr
   go_wp2_with fail
   refine OF.mono ?_
   rintro e w2 ⟨t,rfl,ht,hC2,hg2⟩
   have ht10:=piece_size ht
   have hst:(s ++ t).size = s.size + t.size:=ByteArray.size_append
   have HS:Hid ((s ++ t).size + 10 * (k - 1) ≤ 70):=by show _ ≤ _;omega
   have HT:Hid (costN (s ++ t).data.toList + 137 * ((k - 1:Nat):Int) ≤ 959):=cost_next hp hcs.out ht
   have hsum:s.size + t.size ≤ 70:=by omega
   clear OF hst ht
   go_wp2
   go_roundw
   case rel=>exact ⟨k - 1,s ++ t,by omega,HS.out,HT,by go_num,rfl,hC2.more (by omega),grown_trans hgr (grown_trans hgb hg2)⟩
   case measure=>simp [intOf];omega
  ·have ek:k = 0:=by omega
   subst ek
   have P2:=pick_any b len cap (m + 2 + 2 * (7 - 0)) a 40 wr (by omega) hCr (by omega) (by omega)
   have hs70:s.size ≤ 70:=by omega
   have TS:Hid (TxOk s):=tx_short s hs70 (by have:=hcs.out;omega)
   have TA:Hid (TxOk (s ++ ⟨#[195,169]⟩)):=tx_acute s hs70
   clear hCr hs hcs
   go_wp2_with fail
   refine P2.mono ?_
   rintro e w3 ⟨z,rfl,z0,z1,hC3,hg3⟩
   have hg:=grown_trans hgr hg3
   clear P2 hgr hg3
   by_cases h0:z = 0
   ·subst h0
    go_wp2
    go_ret
    exact ⟨_,rfl,TA.out,hC3.more (by omega),hg⟩
   have b0:(z == 0) = false:=by simpa using h0
   by_cases h1:z = 1
   ·subst h1
    have hb3:∀ o,Below w3.heap.size w3 (w3.alloc o):=fun o=>(Below.refl _ _).alloc (Nat.le_refl _) o
    have TN:=tx_nought
    have KM:=make3 w3
    have KB:=back3 w3
    go_wp2
    go_ret
    exact ⟨_,rfl,TN,(hC3.grown (hb3 _)).more (by omega),grown_trans hg (grown_of_below b (hb3 _))⟩
   ·have b1:(z == 1) = false:=by simpa using h1
    go_wp2
    go_ret
    exact ⟨_,rfl,TS.out,hC3.more (by omega),hg⟩
/-- The size that is being answered, beside the cursor. -/
theorem put_cur {w0 w w':World} {b g len cap m m0:Nat} {a:Option Addr} (h0:CurOk w0 b a len cap m0) (h:CurOk w b a len cap m) (p:Put g w w') (hg:w0.heap.size ≤ g):CurOk w' b a len cap m :=
 CurOk.same h0 h (fun k hk=>p.other k (by omega))
theorem put_gro {w0 w w':World} {b g:Nat} (h:w0.grownBy w (some b)) (p:Put g w w') (hg:w0.heap.size ≤ g):w0.grownBy w' (some b) :=
 ⟨p.os.trans h.os,p.tape.trans h.tape,p.output.trans h.output,by rw [p.size];exact h.size,fun k hk hne=>(p.other k (by omega)).trans (h.block k hk hne)⟩
theorem gro_lies {w w':World} {b k:Nat} {x:Obj} (hg:w.grownBy w' (some b)) (h:w.heap[k]? = some x) (hne:k ≠ b):w'.heap[k]? = some x:=(hg.block k (lies_lt h) (fun e=>hne (Option.some.inj e))).trans h
set_option maxHeartbeats 2000000 in
theorem size_any (b len cap m:Nat) (a:Option Addr) (w:World) (hm:m ≤ 1000000000000) (hC:CurOk w b a len cap m) :
  Calls Tryz.prog 71 #[.pointer (some ⟨b,0,none⟩),.bool true] w fun e w'=>∃ z:Sz,e = .returned (.agg #[.bool z.a,.bool z.p,.int .i64 z.n]) ∧ CurOk w' b a len cap (m + 6) ∧ w.grownBy w' (some b):=by
 have hlt:=hC.lt
 have hC0:=hC.grown ((Below.refl w.heap.size w).alloc (Nat.le_refl _) (.cells #[.bool false,.bool false,.int .i64 0] 71))
 have G0:=grown_of_below b ((Below.refl w.heap.size w).alloc (Nat.le_refl _) (.cells #[.bool false,.bool false,.int .i64 0] 71))
 have l0:(w.alloc (.cells #[.bool false,.bool false,.int .i64 0] 71)).heap[w.heap.size]? = some (.cells #[.bool false,.bool false,.int .i64 0] 71 (0,0)):=heap_at _ _ _ rfl
 go_enter Tryz.func71,Tryz.ntmps71
 go_wp2_with fail
 refine (one_any b len cap m a 2 _ (by omega) hC0 (by omega) (by omega)).mono ?_
 rintro e w1 ⟨v1,rfl,hC1,hg1⟩
 have l1:=gro_lies hg1 l0 (by omega)
 have G1:=grown_trans G0 hg1
 clear hC0 hg1 l0 G0
 cases v1
 rotate_left
 ·go_wp2_with ((with_reducible show wpList _ _ _ (⟨none,Op.store 71 (Operand.tmp 4) (Operand.tmp 10),_,_,_,_⟩ :: _) _ _);refine wpList_putA rfl _ _ _ rfl rfl _ 0 3 [.bool true,.bool false,.int .i64 0] _ _ rfl rfl l1 rfl (by kernel_rfl) (by kernel_rfl) (by kernel_rfl) ?_;intro w9 p9 l9 n9;replace l1:=l9.trans (congrArg (fun c=>some (Obj.cells c 71 (0,0))) (show _ = (#[.bool true,.bool false,.int .i64 0]:Array Value) by kernel_rfl));replace hC1:=put_cur hC hC1 p9 (Nat.le_refl _);replace G1:=put_gro G1 p9 (Nat.le_refl _);clear l9 n9 p9)
  exact bodyPost_ret (v:=.agg #[.bool true,.bool false,.int .i64 0]) (results_cell_row Tryz.results71 _ _ _ _ (#[.bool true,.bool false,.int .i64 0]) _ _ rfl l1 Tryz.underlying71 rfl (by kernel_rfl)) rfl ⟨⟨true,false,0⟩,rfl,hC1.more (by omega),G1⟩
 go_wp2_with fail
 refine (one_any b len cap (m + 2) a 3 _ (by omega) hC1 (by omega) (by omega)).mono ?_
 rintro e w2 ⟨v2,rfl,hC2,hg2⟩
 have l2:=gro_lies hg2 l1 (by omega)
 have G2:=grown_trans G1 hg2
 clear hC1 hg2 l1 G1
 cases v2
 ·go_wp2_with fail
  refine (pick_any b len cap (m + 2 + 2) a 500 _ (by omega) hC2 (by omega) (by omega)).mono ?_
  rintro e w3 ⟨x,rfl,x0,x1,hC3,hg3⟩
  have l3:=gro_lies hg3 l2 (by omega)
  have G3:=grown_trans G2 hg3
  clear hC2 hg3 l2 G2
  go_wp2_with ((with_reducible show wpList _ _ _ (⟨none,Op.store 71 (Operand.tmp 4) (Operand.tmp 20),_,_,_,_⟩ :: _) _ _);refine wpList_putA rfl _ _ _ rfl rfl _ 0 3 [.bool false,.bool false,.int .i64 (16 * x)] _ _ rfl rfl l3 rfl (by kernel_rfl) (by kernel_rfl) (by kernel_rfl) ?_;intro w9 p9 l9 n9;replace l3:=l9.trans (congrArg (fun c=>some (Obj.cells c 71 (0,0))) (show _ = (#[.bool false,.bool false,.int .i64 (16 * x)]:Array Value) by kernel_rfl));replace hC3:=put_cur hC hC3 p9 (Nat.le_refl _);replace G3:=put_gro G3 p9 (Nat.le_refl _);clear l9 n9 p9)
  exact bodyPost_ret (v:=.agg #[.bool false,.bool false,.int .i64 (16 * x)]) (results_cell_row Tryz.results71 _ _ _ _ (#[.bool false,.bool false,.int .i64 (16 * x)]) _ _ rfl l3 Tryz.underlying71 rfl (by kernel_rfl)) rfl ⟨⟨false,false,16 * x⟩,rfl,hC3.more (by omega),G3⟩
 ·go_wp2_with fail
  refine (pick_any b len cap (m + 2 + 2) a 130 _ (by omega) hC2 (by omega) (by omega)).mono ?_
  rintro e w3 ⟨x,rfl,x0,x1,hC3,hg3⟩
  have l3:=gro_lies hg3 l2 (by omega)
  have G3:=grown_trans G2 hg3
  clear hC2 hg3 l2 G2
  go_wp2_with ((with_reducible show wpList _ _ _ (⟨none,Op.store 71 (Operand.tmp 4) (Operand.tmp 16),_,_,_,_⟩ :: _) _ _);refine wpList_putA rfl _ _ _ rfl rfl _ 0 3 [.bool false,.bool true,.int .i64 (100 * x)] _ _ rfl rfl l3 rfl (by kernel_rfl) (by kernel_rfl) (by kernel_rfl) ?_;intro w9 p9 l9 n9;replace l3:=l9.trans (congrArg (fun c=>some (Obj.cells c 71 (0,0))) (show _ = (#[.bool false,.bool true,.int .i64 (100 * x)]:Array Value) by kernel_rfl));replace hC3:=put_cur hC hC3 p9 (Nat.le_refl _);replace G3:=put_gro G3 p9 (Nat.le_refl _);clear l9 n9 p9)
  exact bodyPost_ret (v:=.agg #[.bool false,.bool true,.int .i64 (100 * x)]) (results_cell_row Tryz.results71 _ _ _ _ (#[.bool false,.bool true,.int .i64 (100 * x)]) _ _ rfl l3 Tryz.underlying71 rfl (by kernel_rfl)) rfl ⟨⟨false,true,100 * x⟩,rfl,hC3.more (by omega),G3⟩
/-- The style that is being drawn, beside the cursor. -/
structure DrS (w0 w:World) (g b len cap m:Nat) (a:Option Addr) (s:St):Prop where
 gt:w0.heap.size < g
 cur:CurOk w b a len cap m
 gro:w0.grownBy w (some b)
 lr:w.heap[w0.heap.size]? = some (.cells (stCells zeroSt) 73 (0,0))
 ls:w.heap[g]? = some (.cells (stCells s) 73 (0,0))
theorem DrS.step {w0 w w':World} {g b len cap m m':Nat} {a:Option Addr} {s:St} (h:DrS w0 w g b len cap m a s) (hb:b < w0.heap.size) (hC:CurOk w' b a len cap m') (hg:w.grownBy w' (some b)):DrS w0 w' g b len cap m' a s :=
 ⟨h.gt,hC,grown_trans h.gro hg,gro_lies hg h.lr (by omega),gro_lies hg h.ls (by have:=h.gt;omega)⟩
theorem DrS.put {w0 w w':World} {g b len cap m m0:Nat} {a:Option Addr} {s s':St} (h:DrS w0 w g b len cap m a s) (h0:CurOk w0 b a len cap m0) (p:Put g w w') (l:w'.heap[g]? = some (.cells (stCells s') 73 (0,0))):DrS w0 w' g b len cap m a s' :=
 ⟨h.gt,put_cur h0 h.cur p (by have:=h.gt;omega),put_gro h.gro p (by have:=h.gt;omega),p.lies h.lr (by have:=h.gt;omega),l⟩
theorem DrS.alloc {w0 w:World} {g b len cap m:Nat} {a:Option Addr} {s:St} (h:DrS w0 w g b len cap m a s) (o:Obj):DrS w0 (w.alloc o) g b len cap m a s :=
 ⟨h.gt,h.cur.grown ((Below.refl _ _).alloc (Nat.le_refl _) _),grown_alloc h.gro o,heap_in h.lr,heap_in h.ls⟩
theorem DrS.more {w0 w:World} {g b len cap m m':Nat} {a:Option Addr} {s:St} (h:DrS w0 w g b len cap m a s) (hm:m ≤ m'):DrS w0 w g b len cap m' a s:=⟨h.gt,h.cur.more hm,h.gro,h.lr,h.ls⟩
theorem two_cells (w:World) (x0 x1:Int) (i:Nat) (hi:i < 2):∃ z:Int,(w.alloc (.cells #[.int .i64 x0,.int .i64 x1] 3)).cell? ⟨w.heap.size,i,none⟩ = some (.int .i64 z):=by
 rcases (by omega:i = 0 ∨ i = 1) with rfl | rfl
 ·exact ⟨x0,by simp⟩
 ·exact ⟨x1,by simp⟩
theorem three_cells (w:World) (x0 x1 x2:Int) (i:Nat) (hi:i < 3):∃ z:Int,(w.alloc (.cells #[.int .i64 x0,.int .i64 x1,.int .i64 x2] 3)).cell? ⟨w.heap.size,i,none⟩ = some (.int .i64 z):=by
 rcases (by omega:i = 0 ∨ i = 1 ∨ i = 2) with rfl | rfl | rfl
 ·exact ⟨x0,by simp⟩
 ·exact ⟨x1,by simp⟩
 ·exact ⟨x2,by simp⟩
set_option maxRecDepth 100000 in
set_option maxHeartbeats 16000000 in
theorem style_any (b len cap m:Nat) (a:Option Addr) (w:World) (hm:m ≤ 1000000000) (hC:CurOk w b a len cap m) :
  Calls Tryz.prog 49 #[.pointer (some ⟨b,0,none⟩)] w fun e w'=>∃ s:St,e = .returned (.agg (stCells s)) ∧ CurOk w' b a len cap (m + 60) ∧ w.grownBy w' (some b):=by
 have hlt:=hC.lt
 have B1:Below w.heap.size w (w.alloc (.cells (#[.int .i64 0,.int .i64 0,.int .i64 0,.bool false,.bool false,.int .i64 0,.bool false,.bool false,.int .i64 0,.int .i64 0,.int .i64 0,.int .i64 0,.bool false,.bool false,.int .i64 0,.int .i64 0,.bool false,.bool false,.int .i64 0,.int .i64 0,.int .i64 0,.int .i64 0,.int .i64 0,.int .i64 0,.int .i64 0,.int .i64 0]) 73)):=(Below.refl _ _).alloc (Nat.le_refl _) _
 have l1:(w.alloc (.cells (#[.int .i64 0,.int .i64 0,.int .i64 0,.bool false,.bool false,.int .i64 0,.bool false,.bool false,.int .i64 0,.int .i64 0,.int .i64 0,.int .i64 0,.bool false,.bool false,.int .i64 0,.int .i64 0,.bool false,.bool false,.int .i64 0,.int .i64 0,.int .i64 0,.int .i64 0,.int .i64 0,.int .i64 0,.int .i64 0,.int .i64 0]) 73)).heap[w.heap.size]? = some (.cells (stCells zeroSt) 73 (0,0)):=heap_at _ _ _ rfl
 go_enter Tryz.func49,Tryz.ntmps49
 go_wp2_with fail
 refine (specPlain_at _).mono ?_
 rintro e w8 ⟨rfl,hw8⟩
 have b8:Below (w.alloc (.cells (#[.int .i64 0,.int .i64 0,.int .i64 0,.bool false,.bool false,.int .i64 0,.bool false,.bool false,.int .i64 0,.int .i64 0,.int .i64 0,.int .i64 0,.bool false,.bool false,.int .i64 0,.int .i64 0,.bool false,.bool false,.int .i64 0,.int .i64 0,.int .i64 0,.int .i64 0,.int .i64 0,.int .i64 0,.int .i64 0,.int .i64 0]) 73)).heap.size (w.alloc (.cells (#[.int .i64 0,.int .i64 0,.int .i64 0,.bool false,.bool false,.int .i64 0,.bool false,.bool false,.int .i64 0,.int .i64 0,.int .i64 0,.int .i64 0,.bool false,.bool false,.int .i64 0,.int .i64 0,.bool false,.bool false,.int .i64 0,.int .i64 0,.int .i64 0,.int .i64 0,.int .i64 0,.int .i64 0,.int .i64 0,.int .i64 0]) 73)) w8:=by rw [hw8];exact (Below.refl _ _).alloc (Nat.le_refl _) _
 replace l1:=below_lies b8 l1 (lies_lt l1)
 replace B1:=B1.trans (b8.mono B1.size)
 have z8:w.heap.size < w8.heap.size:=lies_lt l1
 clear hw8 b8
 go_wp2_with ((with_reducible show wpList _ _ _ (⟨none,Op.store 73 (Operand.tmp 3) (Operand.tmp 5),_,_,_,_⟩ :: _) _ _);refine wpList_store_new rfl 73 _ _ rfl rfl (#[.int .i64 1,.int .i64 0,.int .i64 0,.bool true,.bool false,.int .i64 0,.bool true,.bool false,.int .i64 0,.int .i64 0,.int .i64 (-1),.int .i64 0,.bool false,.bool false,.int .i64 0,.int .i64 0,.bool false,.bool false,.int .i64 0,.int .i64 0,.int .i64 0,.int .i64 1,.int .i64 1,.int .i64 0,.int .i64 0,.int .i64 0]) 73 _ _ rfl rfl rfl (by kernel_rfl) rfl (by kernel_rfl) ?_)
 have h:DrS w (w8.alloc (.cells (#[.int .i64 1,.int .i64 0,.int .i64 0,.bool true,.bool false,.int .i64 0,.bool true,.bool false,.int .i64 0,.int .i64 0,.int .i64 (-1),.int .i64 0,.bool false,.bool false,.int .i64 0,.int .i64 0,.bool false,.bool false,.int .i64 0,.int .i64 0,.int .i64 0,.int .i64 1,.int .i64 1,.int .i64 0,.int .i64 0,.int .i64 0]) 73)) w8.heap.size b len cap m a plainSt:=by
  have B3:=B1.alloc B1.size (.cells (#[.int .i64 1,.int .i64 0,.int .i64 0,.bool true,.bool false,.int .i64 0,.bool true,.bool false,.int .i64 0,.int .i64 0,.int .i64 (-1),.int .i64 0,.bool false,.bool false,.int .i64 0,.int .i64 0,.bool false,.bool false,.int .i64 0,.int .i64 0,.int .i64 0,.int .i64 1,.int .i64 1,.int .i64 0,.int .i64 0,.int .i64 0]) 73)
  exact ⟨z8,hC.grown B3,grown_of_below b B3,heap_in l1,heap_at _ _ _ rfl⟩
 clear B1 l1
 refine (pick_any b len cap _ a 5 _ (by omega) h.cur (by omega) (by omega)).mono ?_
 rintro e w1 ⟨v,rfl,v0,v1,hc,hg⟩
 replace h:=h.step hlt hc hg
 clear hc hg
 go_wp2
 go_loopw [4] (fun i wr=>∃ (n:Nat) (s:St),n ≤ 4 ∧ i = .int .i64 (n:Int) ∧ DrS w wr w8.heap.size b len cap (m + 2 + 10 * (4 - n)) a s) (fun i _=>(intOf i).toNat)
 case atStart=>exact ⟨v.toNat,plainSt,by omega,by rw [Int.toNat_of_nonneg v0],h.more (by omega)⟩
 case round =>
  clear h
  obtain ⟨n,s,hn,rfl,h⟩:=hrel
  by_cases hn0:0 < n
  ·have hn0':(0:Int) < (n:Int):=by omega
   go_wp2_with fail
   refine (pick_any b len cap _ a 16 _ (by omega) h.cur (by omega) (by omega)).mono ?_
   rintro e w1 ⟨k,rfl,k0,k1,hc,hg⟩
   replace h:=h.step hlt hc hg
   clear hc hg
   rcases (by omega:k = 0 ∨ k = 1 ∨ k = 2 ∨ k = 3 ∨ k = 4 ∨ k = 5 ∨ k = 6 ∨ k = 7 ∨ k = 8 ∨ k = 9 ∨ k = 10 ∨ k = 11 ∨ k = 12 ∨ k = 13 ∨ k = 14 ∨ k = 15) with rfl | rfl | rfl | rfl | rfl | rfl | rfl | rfl | rfl | rfl | rfl | rfl | rfl | rfl | rfl | rfl
   ·go_wp2_with fail
    refine (pick_any b len cap _ a 3 _ (by omega) h.cur (by omega) (by omega)).mono ?_
    rintro e w2 ⟨x,rfl,x0,x1,hc,hg⟩
    replace h:=h.step hlt hc hg
    clear hc hg
    go_wp2_with ((with_reducible show wpList _ _ _ (⟨none,Op.store 3 (Operand.tmp 28) _,_,_,_,_⟩ :: _) _ _);refine wpList_putA rfl _ _ _ rfl rfl _ 0 26 [.int .i64 (1 + x)] _ _ rfl rfl h.ls rfl (by kernel_rfl) (by kernel_rfl) (by kernel_rfl) ?_;intro w9 p9 l9 n9;replace h:=h.put hC p9 (s':={ s with sh:=1 + x }) (l9.trans (congrArg (fun c=>some (Obj.cells c 73 (0,0))) (show _ = stCells ({ s with sh:=1 + x }) by kernel_rfl)));clear l9 n9 p9)
    go_roundw
    case rel=>exact ⟨n - 1,_,by omega,by rw [show ((n - 1:Nat):Int) = (n:Int) - 1 by omega],h.more (by omega)⟩
    case measure=>simp [intOf];omega
   ·go_wp2_with fail
    refine (pick_any b len cap _ a 3 _ (by omega) h.cur (by omega) (by omega)).mono ?_
    rintro e w2 ⟨x,rfl,x0,x1,hc,hg⟩
    replace h:=h.step hlt hc hg
    clear hc hg
    go_wp2_with ((with_reducible show wpList _ _ _ (⟨none,Op.store 3 (Operand.tmp 34) _,_,_,_,_⟩ :: _) _ _);refine wpList_putA rfl _ _ _ rfl rfl _ 1 26 [.int .i64 (x)] _ _ rfl rfl h.ls rfl (by kernel_rfl) (by kernel_rfl) (by kernel_rfl) ?_;intro w9 p9 l9 n9;replace h:=h.put hC p9 (s':={ s with fl:=x }) (l9.trans (congrArg (fun c=>some (Obj.cells c 73 (0,0))) (show _ = stCells ({ s with fl:=x }) by kernel_rfl)));clear l9 n9 p9)
    go_roundw
    case rel=>exact ⟨n - 1,_,by omega,by rw [show ((n - 1:Nat):Int) = (n:Int) - 1 by omega],h.more (by omega)⟩
    case measure=>simp [intOf];omega
   ·go_wp2_with fail
    refine (pick_any b len cap _ a 3 _ (by omega) h.cur (by omega) (by omega)).mono ?_
    rintro e w2 ⟨x,rfl,x0,x1,hc,hg⟩
    replace h:=h.step hlt hc hg
    clear hc hg
    go_wp2_with ((with_reducible show wpList _ _ _ (⟨none,Op.store 3 (Operand.tmp 34) _,_,_,_,_⟩ :: _) _ _);refine wpList_putA rfl _ _ _ rfl rfl _ 1 26 [.int .i64 (x)] _ _ rfl rfl h.ls rfl (by kernel_rfl) (by kernel_rfl) (by kernel_rfl) ?_;intro w9 p9 l9 n9;replace h:=h.put hC p9 (s':={ s with fl:=x }) (l9.trans (congrArg (fun c=>some (Obj.cells c 73 (0,0))) (show _ = stCells ({ s with fl:=x }) by kernel_rfl)));clear l9 n9 p9)
    go_roundw
    case rel=>exact ⟨n - 1,_,by omega,by rw [show ((n - 1:Nat):Int) = (n:Int) - 1 by omega],h.more (by omega)⟩
    case measure=>simp [intOf];omega
   ·go_wp2_with fail
    refine (pick_any b len cap _ a 4 _ (by omega) h.cur (by omega) (by omega)).mono ?_
    rintro e w2 ⟨x,rfl,x0,x1,hc,hg⟩
    replace h:=h.step hlt hc hg
    clear hc hg
    go_wp2_with ((with_reducible show wpList _ _ _ (⟨none,Op.store 3 (Operand.tmp 39) _,_,_,_,_⟩ :: _) _ _);refine wpList_putA rfl _ _ _ rfl rfl _ 2 26 [.int .i64 (x)] _ _ rfl rfl h.ls rfl (by kernel_rfl) (by kernel_rfl) (by kernel_rfl) ?_;intro w9 p9 l9 n9;replace h:=h.put hC p9 (s':={ s with cl:=x }) (l9.trans (congrArg (fun c=>some (Obj.cells c 73 (0,0))) (show _ = stCells ({ s with cl:=x }) by kernel_rfl)));clear l9 n9 p9)
    go_roundw
    case rel=>exact ⟨n - 1,_,by omega,by rw [show ((n - 1:Nat):Int) = (n:Int) - 1 by omega],h.more (by omega)⟩
    case measure=>simp [intOf];omega
   ·go_wp2_with fail
    refine (size_any b len cap _ a _ (by omega) h.cur).mono ?_
    rintro e w2 ⟨z,rfl,hc,hg⟩
    replace h:=h.step hlt hc hg
    clear hc hg
    go_wp2_with ((with_reducible show wpList _ _ _ (⟨none,Op.store 71 (Operand.tmp 44) _,_,_,_,_⟩ :: _) _ _);refine wpList_putA rfl _ _ _ rfl rfl _ 3 26 [.bool z.a,.bool z.p,.int .i64 z.n] _ _ rfl rfl h.ls rfl (by kernel_rfl) (by kernel_rfl) (by kernel_rfl) ?_;intro w9 p9 l9 n9;replace h:=h.put hC p9 (s':={ s with w:=z }) (l9.trans (congrArg (fun c=>some (Obj.cells c 73 (0,0))) (show _ = stCells ({ s with w:=z }) by kernel_rfl)));clear l9 n9 p9)
    go_roundw
    case rel=>exact ⟨n - 1,_,by omega,by rw [show ((n - 1:Nat):Int) = (n:Int) - 1 by omega],h.more (by omega)⟩
    case measure=>simp [intOf];omega
   ·go_wp2_with fail
    refine (pick_any b len cap _ a 200 _ (by omega) h.cur (by omega) (by omega)).mono ?_
    rintro e w2 ⟨x,rfl,x0,x1,hc,hg⟩
    replace h:=h.step hlt hc hg
    clear hc hg
    go_wp2_with ((with_reducible show wpList _ _ _ (⟨none,Op.store 71 (Operand.tmp 51) _,_,_,_,_⟩ :: _) _ _);refine wpList_putA rfl _ _ _ rfl rfl _ 6 26 [.bool false,.bool false,.int .i64 (16 * x)] _ _ rfl rfl h.ls rfl (by kernel_rfl) (by kernel_rfl) (by kernel_rfl) ?_;intro w9 p9 l9 n9;replace h:=h.put hC p9 (s':={ s with h:=⟨false,false,16 * x⟩ }) (l9.trans (congrArg (fun c=>some (Obj.cells c 73 (0,0))) (show _ = stCells ({ s with h:=⟨false,false,16 * x⟩ }) by kernel_rfl)));clear l9 n9 p9)
    go_roundw
    case rel=>exact ⟨n - 1,_,by omega,by rw [show ((n - 1:Nat):Int) = (n:Int) - 1 by omega],h.more (by omega)⟩
    case measure=>simp [intOf];omega
   ·go_wp2_with fail
    refine (pick_any b len cap _ a 300 _ (by omega) h.cur (by omega) (by omega)).mono ?_
    rintro e w2 ⟨x,rfl,x0,x1,hc,hg⟩
    replace h:=h.step hlt hc hg
    clear hc hg
    go_wp2_with ((with_reducible show wpList _ _ _ (⟨none,Op.store 3 (Operand.tmp 57) _,_,_,_,_⟩ :: _) _ _);refine wpList_putA rfl _ _ _ rfl rfl _ 9 26 [.int .i64 (16 * x)] _ _ rfl rfl h.ls rfl (by kernel_rfl) (by kernel_rfl) (by kernel_rfl) ?_;intro w9 p9 l9 n9;replace h:=h.put hC p9 (s':={ s with mn:=16 * x }) (l9.trans (congrArg (fun c=>some (Obj.cells c 73 (0,0))) (show _ = stCells ({ s with mn:=16 * x }) by kernel_rfl)));clear l9 n9 p9)
    go_roundw
    case rel=>exact ⟨n - 1,_,by omega,by rw [show ((n - 1:Nat):Int) = (n:Int) - 1 by omega],h.more (by omega)⟩
    case measure=>simp [intOf];omega
   ·go_wp2_with fail
    refine (pick_any b len cap _ a 400 _ (by omega) h.cur (by omega) (by omega)).mono ?_
    rintro e w2 ⟨x,rfl,x0,x1,hc,hg⟩
    replace h:=h.step hlt hc hg
    clear hc hg
    go_wp2_with ((with_reducible show wpList _ _ _ (⟨none,Op.store 3 (Operand.tmp 63) _,_,_,_,_⟩ :: _) _ _);refine wpList_putA rfl _ _ _ rfl rfl _ 10 26 [.int .i64 (16 * x)] _ _ rfl rfl h.ls rfl (by kernel_rfl) (by kernel_rfl) (by kernel_rfl) ?_;intro w9 p9 l9 n9;replace h:=h.put hC p9 (s':={ s with mx:=16 * x }) (l9.trans (congrArg (fun c=>some (Obj.cells c 73 (0,0))) (show _ = stCells ({ s with mx:=16 * x }) by kernel_rfl)));clear l9 n9 p9)
    go_roundw
    case rel=>exact ⟨n - 1,_,by omega,by rw [show ((n - 1:Nat):Int) = (n:Int) - 1 by omega],h.more (by omega)⟩
    case measure=>simp [intOf];omega
   ·go_wp2_with fail
    refine (pick_any b len cap _ a 120 _ (by omega) h.cur (by omega) (by omega)).mono ?_
    rintro e w2 ⟨x,rfl,x0,x1,hc,hg⟩
    replace h:=h.step hlt hc hg
    clear hc hg
    go_wp2_with ((with_reducible show wpList _ _ _ (⟨none,Op.store 3 (Operand.tmp 70) _,_,_,_,_⟩ :: _) _ _);refine wpList_putA rfl _ _ _ rfl rfl _ 11 26 [.int .i64 (16 * (x - 40))] _ _ rfl rfl h.ls rfl (by kernel_rfl) (by kernel_rfl) (by kernel_rfl) ?_;intro w9 p9 l9 n9;replace h:=h.put hC p9 (s':={ s with mt:=16 * (x - 40) }) (l9.trans (congrArg (fun c=>some (Obj.cells c 73 (0,0))) (show _ = stCells ({ s with mt:=16 * (x - 40) }) by kernel_rfl)));clear l9 n9 p9)
    go_roundw
    case rel=>exact ⟨n - 1,_,by omega,by rw [show ((n - 1:Nat):Int) = (n:Int) - 1 by omega],h.more (by omega)⟩
    case measure=>simp [intOf];omega
   ·go_wp2_with fail
    refine (pick_any b len cap _ a 120 _ (by omega) h.cur (by omega) (by omega)).mono ?_
    rintro e w2 ⟨x,rfl,x0,x1,hc,hg⟩
    replace h:=h.step hlt hc hg
    clear hc hg
    go_wp2_with ((with_reducible show wpList _ _ _ (⟨none,Op.store 3 (Operand.tmp 77) _,_,_,_,_⟩ :: _) _ _);refine wpList_putA rfl _ _ _ rfl rfl _ 15 26 [.int .i64 (16 * (x - 40))] _ _ rfl rfl h.ls rfl (by kernel_rfl) (by kernel_rfl) (by kernel_rfl) ?_;intro w9 p9 l9 n9;replace h:=h.put hC p9 (s':={ s with mb:=16 * (x - 40) }) (l9.trans (congrArg (fun c=>some (Obj.cells c 73 (0,0))) (show _ = stCells ({ s with mb:=16 * (x - 40) }) by kernel_rfl)));clear l9 n9 p9)
    go_roundw
    case rel=>exact ⟨n - 1,_,by omega,by rw [show ((n - 1:Nat):Int) = (n:Int) - 1 by omega],h.more (by omega)⟩
    case measure=>simp [intOf];omega
   ·go_wp2_with fail
    refine (size_any b len cap _ a _ (by omega) h.cur).mono ?_
    rintro e w2 ⟨z,rfl,hc,hg⟩
    replace h:=h.step hlt hc hg
    clear hc hg
    go_wp2_with ((with_reducible show wpList _ _ _ (⟨none,Op.store 71 (Operand.tmp 82) _,_,_,_,_⟩ :: _) _ _);refine wpList_putA rfl _ _ _ rfl rfl _ 16 26 [.bool z.a,.bool z.p,.int .i64 z.n] _ _ rfl rfl h.ls rfl (by kernel_rfl) (by kernel_rfl) (by kernel_rfl) ?_;intro w9 p9 l9 n9;replace h:=h.put hC p9 (s':={ s with ml:=z }) (l9.trans (congrArg (fun c=>some (Obj.cells c 73 (0,0))) (show _ = stCells ({ s with ml:=z }) by kernel_rfl)));clear l9 n9 p9)
    go_roundw
    case rel=>exact ⟨n - 1,_,by omega,by rw [show ((n - 1:Nat):Int) = (n:Int) - 1 by omega],h.more (by omega)⟩
    case measure=>simp [intOf];omega
   ·go_wp2_with fail
    refine (size_any b len cap _ a _ (by omega) h.cur).mono ?_
    rintro e w2 ⟨z,rfl,hc,hg⟩
    replace h:=h.step hlt hc hg
    clear hc hg
    go_wp2_with ((with_reducible show wpList _ _ _ (⟨none,Op.store 71 (Operand.tmp 87) _,_,_,_,_⟩ :: _) _ _);refine wpList_putA rfl _ _ _ rfl rfl _ 12 26 [.bool z.a,.bool z.p,.int .i64 z.n] _ _ rfl rfl h.ls rfl (by kernel_rfl) (by kernel_rfl) (by kernel_rfl) ?_;intro w9 p9 l9 n9;replace h:=h.put hC p9 (s':={ s with mr:=z }) (l9.trans (congrArg (fun c=>some (Obj.cells c 73 (0,0))) (show _ = stCells ({ s with mr:=z }) by kernel_rfl)));clear l9 n9 p9)
    go_roundw
    case rel=>exact ⟨n - 1,_,by omega,by rw [show ((n - 1:Nat):Int) = (n:Int) - 1 by omega],h.more (by omega)⟩
    case measure=>simp [intOf];omega
   ·go_wp2_with fail
    refine (pick_any b len cap _ a 20 _ (by omega) h.cur (by omega) (by omega)).mono ?_
    rintro e w2 ⟨x,rfl,x0,x1,hc,hg⟩
    replace h:=h.step hlt hc hg
    clear hc hg
    go_wp2_with ((with_reducible show wpList _ _ _ (⟨none,Op.store 3 (Operand.tmp 93) _,_,_,_,_⟩ :: _) _ _);refine wpList_putA rfl _ _ _ rfl rfl _ 19 26 [.int .i64 (16 * x)] _ _ rfl rfl h.ls rfl (by kernel_rfl) (by kernel_rfl) (by kernel_rfl) ?_;intro w9 p9 l9 n9;replace h:=h.put hC p9 (s':={ s with bo:=16 * x }) (l9.trans (congrArg (fun c=>some (Obj.cells c 73 (0,0))) (show _ = stCells ({ s with bo:=16 * x }) by kernel_rfl)));clear l9 n9 p9)
    go_roundw
    case rel=>exact ⟨n - 1,_,by omega,by rw [show ((n - 1:Nat):Int) = (n:Int) - 1 by omega],h.more (by omega)⟩
    case measure=>simp [intOf];omega
   ·go_wp2_with fail
    refine (pick_any b len cap _ a 40 _ (by omega) h.cur (by omega) (by omega)).mono ?_
    rintro e w2 ⟨x,rfl,x0,x1,hc,hg⟩
    replace h:=h.step hlt hc hg
    clear hc hg
    go_wp2_with ((with_reducible show wpList _ _ _ (⟨none,Op.store 3 (Operand.tmp 99) _,_,_,_,_⟩ :: _) _ _);refine wpList_putA rfl _ _ _ rfl rfl _ 20 26 [.int .i64 (16 * x)] _ _ rfl rfl h.ls rfl (by kernel_rfl) (by kernel_rfl) (by kernel_rfl) ?_;intro w9 p9 l9 n9;replace h:=h.put hC p9 (s':={ s with pa:=16 * x }) (l9.trans (congrArg (fun c=>some (Obj.cells c 73 (0,0))) (show _ = stCells ({ s with pa:=16 * x }) by kernel_rfl)));clear l9 n9 p9)
    go_roundw
    case rel=>exact ⟨n - 1,_,by omega,by rw [show ((n - 1:Nat):Int) = (n:Int) - 1 by omega],h.more (by omega)⟩
    case measure=>simp [intOf];omega
   ·go_wp2_with fail
    refine (pick_any b len cap _ a 5 _ (by omega) h.cur (by omega) (by omega)).mono ?_
    rintro e w2 ⟨x,rfl,x0,x1,hc,hg⟩
    replace h:=h.step hlt hc hg
    clear hc hg
    go_wp2_with ((with_reducible show wpList _ _ _ (⟨none,Op.store 3 (Operand.tmp 105) _,_,_,_,_⟩ :: _) _ _);refine wpList_putA rfl _ _ _ rfl rfl _ 21 26 [.int .i64 (1 + x)] _ _ rfl rfl h.ls rfl (by kernel_rfl) (by kernel_rfl) (by kernel_rfl) ?_;intro w9 p9 l9 n9;replace h:=h.put hC p9 (s':={ s with wh:=1 + x }) (l9.trans (congrArg (fun c=>some (Obj.cells c 73 (0,0))) (show _ = stCells ({ s with wh:=1 + x }) by kernel_rfl)));clear l9 n9 p9)
    obtain ⟨s,h⟩:∃ s:St,DrS w _ _ b len cap _ a s:=⟨_,h⟩
    refine (pick_any b len cap _ a 3 _ (by omega) h.cur (by omega) (by omega)).mono ?_
    rintro e w2 ⟨x,rfl,x0,x1,hc,hg⟩
    replace h:=h.step hlt hc hg
    clear hc hg
    go_wp2_with ((with_reducible show wpList _ _ _ (⟨none,Op.store 3 (Operand.tmp 109) _,_,_,_,_⟩ :: _) _ _);refine wpList_putA rfl _ _ _ rfl rfl _ 22 26 [.int .i64 (1 + x)] _ _ rfl rfl h.ls rfl (by kernel_rfl) (by kernel_rfl) (by kernel_rfl) ?_;intro w9 p9 l9 n9;replace h:=h.put hC p9 (s':={ s with al:=1 + x }) (l9.trans (congrArg (fun c=>some (Obj.cells c 73 (0,0))) (show _ = stCells ({ s with al:=1 + x }) by kernel_rfl)));clear l9 n9 p9)
    go_roundw
    case rel=>exact ⟨n - 1,_,by omega,by rw [show ((n - 1:Nat):Int) = (n:Int) - 1 by omega],h.more (by omega)⟩
    case measure=>simp [intOf];omega
   ·go_wp2_with fail
    refine (pick_any b len cap _ a 100 _ (by omega) h.cur (by omega) (by omega)).mono ?_
    rintro e w2 ⟨x,rfl,x0,x1,hc,hg⟩
    replace h:=h.step hlt hc hg
    clear hc hg
    go_wp2_with ((with_reducible show wpList _ _ _ (⟨none,Op.store 3 (Operand.tmp 17) _,_,_,_,_⟩ :: _) _ _);refine wpList_putA rfl _ _ _ rfl rfl _ 23 26 [.int .i64 (16 * x)] _ _ rfl rfl h.ls rfl (by kernel_rfl) (by kernel_rfl) (by kernel_rfl) ?_;intro w9 p9 l9 n9;replace h:=h.put hC p9 (s':={ s with lh:=16 * x }) (l9.trans (congrArg (fun c=>some (Obj.cells c 73 (0,0))) (show _ = stCells ({ s with lh:=16 * x }) by kernel_rfl)));clear l9 n9 p9)
    obtain ⟨s,h⟩:∃ s:St,DrS w _ _ b len cap _ a s:=⟨_,h⟩
    refine (pick_any b len cap _ a 30 _ (by omega) h.cur (by omega) (by omega)).mono ?_
    rintro e w2 ⟨x,rfl,x0,x1,hc,hg⟩
    replace h:=h.step hlt hc hg
    clear hc hg
    go_wp2_with ((with_reducible show wpList _ _ _ (⟨none,Op.store 3 (Operand.tmp 22) _,_,_,_,_⟩ :: _) _ _);refine wpList_putA rfl _ _ _ rfl rfl _ 24 26 [.int .i64 (16 * (x - 10))] _ _ rfl rfl h.ls rfl (by kernel_rfl) (by kernel_rfl) (by kernel_rfl) ?_;intro w9 p9 l9 n9;replace h:=h.put hC p9 (s':={ s with ri:=16 * (x - 10) }) (l9.trans (congrArg (fun c=>some (Obj.cells c 73 (0,0))) (show _ = stCells ({ s with ri:=16 * (x - 10) }) by kernel_rfl)));clear l9 n9 p9)
    go_roundw
    case rel=>exact ⟨n - 1,_,by omega,by rw [show ((n - 1:Nat):Int) = (n:Int) - 1 by omega],h.more (by omega)⟩
    case measure=>simp [intOf];omega
  ·have hn1:n = 0:=by omega
   subst hn1
   go_wp2_with fail
   refine (pick_any b len cap _ a 60 _ (by omega) h.cur (by omega) (by omega)).mono ?_
   rintro e w1 ⟨k,rfl,k0,k1,hc,hg⟩
   replace h:=h.step hlt hc hg
   clear hc hg
   rcases (by omega:k = 0 ∨ k = 1 ∨ k = 2 ∨ k = 3 ∨ k = 4 ∨ 5 ≤ k) with rfl | rfl | rfl | rfl | rfl | hk5
   ·have h0:=h
    replace h:=h.alloc (.cells #[.int .i64 0,.int .i64 4] 3)
    go_wp2_with fail
    refine (among_any b len cap _ w1.heap.size 2 2 a _ (by omega) h.cur (by omega) (by omega) (by have:=lies_lt h0.ls;omega) (two_cells w1 0 4)).mono ?_
    rintro e w2 ⟨x,rfl,hc,hg⟩
    replace h:=h.step hlt hc hg
    clear hc hg h0
    go_wp2_with (first | ((with_reducible show wpList _ _ _ (⟨none,Op.store 3 (Operand.tmp 117) _,_,_,_,_⟩ :: _) _ _);refine wpList_putA rfl _ _ _ rfl rfl _ 0 26 [.int .i64 x] _ _ rfl rfl h.ls rfl (by kernel_rfl) (by kernel_rfl) (by kernel_rfl) ?_;intro w9 p9 l9 n9;replace h:=h.put hC p9 (s':={ s with sh:=x }) (l9.trans (congrArg (fun c=>some (Obj.cells c 73 (0,0))) (show _ = stCells ({ s with sh:=x }) by kernel_rfl)));clear l9 n9 p9) | ((with_reducible show wpList _ _ _ (⟨some 141,Op.load 73 _,_,_,_,_⟩ :: _) _ _);refine wpList_load_row rfl 73 _ rfl w8.heap.size rfl _ (stCells ({ s with sh:=x })) _ _ h.ls Tryz.underlying73 rfl (by kernel_rfl) ?_) | ((with_reducible show wpList _ _ _ (⟨none,Op.store 73 (Operand.tmp 2) (Operand.tmp 141),_,_,_,_⟩ :: _) _ _);refine wpList_putA rfl _ _ _ rfl rfl _ 0 26 (stCells ({ s with sh:=x })).toList _ _ rfl rfl h.lr rfl (by kernel_rfl) (by kernel_rfl) (by kernel_rfl) ?_;intro w9 p9 l9 n9;have lf:=l9.trans (congrArg (fun c=>some (Obj.cells c 73 (0,0))) (show _ = stCells ({ s with sh:=x }) by kernel_rfl));have cf:=put_cur hC h.cur p9 (Nat.le_refl _);have gf:=put_gro h.gro p9 (Nat.le_refl _);clear l9 n9 p9))
    exact bodyPost_ret (v:=.agg (stCells ({ s with sh:=x }))) (results_cell_row Tryz.results49 _ _ _ _ (stCells ({ s with sh:=x })) _ _ rfl lf Tryz.underlying73 rfl (by kernel_rfl)) rfl ⟨_,rfl,cf.more (by omega),gf⟩
   ·go_wp2_with (first | ((with_reducible show wpList _ _ _ (⟨none,Op.store 71 (Operand.tmp 121) _,_,_,_,_⟩ :: _) _ _);refine wpList_putA rfl _ _ _ rfl rfl _ 3 26 [.bool true,.bool false,.int .i64 1] _ _ rfl rfl h.ls rfl (by kernel_rfl) (by kernel_rfl) (by kernel_rfl) ?_;intro w9 p9 l9 n9;replace h:=h.put hC p9 (s':={ s with w:=⟨true,false,1⟩ }) (l9.trans (congrArg (fun c=>some (Obj.cells c 73 (0,0))) (show _ = stCells ({ s with w:=⟨true,false,1⟩ }) by kernel_rfl)));clear l9 n9 p9) | ((with_reducible show wpList _ _ _ (⟨some 141,Op.load 73 _,_,_,_,_⟩ :: _) _ _);refine wpList_load_row rfl 73 _ rfl w8.heap.size rfl _ (stCells ({ s with w:=⟨true,false,1⟩ })) _ _ h.ls Tryz.underlying73 rfl (by kernel_rfl) ?_) | ((with_reducible show wpList _ _ _ (⟨none,Op.store 73 (Operand.tmp 2) (Operand.tmp 141),_,_,_,_⟩ :: _) _ _);refine wpList_putA rfl _ _ _ rfl rfl _ 0 26 (stCells ({ s with w:=⟨true,false,1⟩ })).toList _ _ rfl rfl h.lr rfl (by kernel_rfl) (by kernel_rfl) (by kernel_rfl) ?_;intro w9 p9 l9 n9;have lf:=l9.trans (congrArg (fun c=>some (Obj.cells c 73 (0,0))) (show _ = stCells ({ s with w:=⟨true,false,1⟩ }) by kernel_rfl));have cf:=put_cur hC h.cur p9 (Nat.le_refl _);have gf:=put_gro h.gro p9 (Nat.le_refl _);clear l9 n9 p9))
    exact bodyPost_ret (v:=.agg (stCells ({ s with w:=⟨true,false,1⟩ }))) (results_cell_row Tryz.results49 _ _ _ _ (stCells ({ s with w:=⟨true,false,1⟩ })) _ _ rfl lf Tryz.underlying73 rfl (by kernel_rfl)) rfl ⟨_,rfl,cf.more (by omega),gf⟩
   ·have h0:=h
    replace h:=h.alloc (.cells #[.int .i64 (-1),.int .i64 64000,.int .i64 64001,.int .i64 5] 3)
    go_wp2_with fail
    refine (among_any b len cap _ w1.heap.size 4 4 a _ (by omega) h.cur (by omega) (by omega) (by have:=lies_lt h0.ls;omega) (four_cells w1 (-1) 64000 64001 5)).mono ?_
    rintro e w2 ⟨x,rfl,hc,hg⟩
    replace h:=h.step hlt hc hg
    clear hc hg h0
    go_wp2_with (first | ((with_reducible show wpList _ _ _ (⟨none,Op.store 3 (Operand.tmp 127) _,_,_,_,_⟩ :: _) _ _);refine wpList_putA rfl _ _ _ rfl rfl _ 20 26 [.int .i64 x] _ _ rfl rfl h.ls rfl (by kernel_rfl) (by kernel_rfl) (by kernel_rfl) ?_;intro w9 p9 l9 n9;replace h:=h.put hC p9 (s':={ s with pa:=x }) (l9.trans (congrArg (fun c=>some (Obj.cells c 73 (0,0))) (show _ = stCells ({ s with pa:=x }) by kernel_rfl)));clear l9 n9 p9) | ((with_reducible show wpList _ _ _ (⟨some 141,Op.load 73 _,_,_,_,_⟩ :: _) _ _);refine wpList_load_row rfl 73 _ rfl w8.heap.size rfl _ (stCells ({ s with pa:=x })) _ _ h.ls Tryz.underlying73 rfl (by kernel_rfl) ?_) | ((with_reducible show wpList _ _ _ (⟨none,Op.store 73 (Operand.tmp 2) (Operand.tmp 141),_,_,_,_⟩ :: _) _ _);refine wpList_putA rfl _ _ _ rfl rfl _ 0 26 (stCells ({ s with pa:=x })).toList _ _ rfl rfl h.lr rfl (by kernel_rfl) (by kernel_rfl) (by kernel_rfl) ?_;intro w9 p9 l9 n9;have lf:=l9.trans (congrArg (fun c=>some (Obj.cells c 73 (0,0))) (show _ = stCells ({ s with pa:=x }) by kernel_rfl));have cf:=put_cur hC h.cur p9 (Nat.le_refl _);have gf:=put_gro h.gro p9 (Nat.le_refl _);clear l9 n9 p9))
    exact bodyPost_ret (v:=.agg (stCells ({ s with pa:=x }))) (results_cell_row Tryz.results49 _ _ _ _ (stCells ({ s with pa:=x })) _ _ rfl lf Tryz.underlying73 rfl (by kernel_rfl)) rfl ⟨_,rfl,cf.more (by omega),gf⟩
   ·have h0:=h
    replace h:=h.alloc (.cells #[.int .i64 (-2),.int .i64 (-1),.int .i64 0] 3)
    go_wp2_with fail
    refine (among_any b len cap _ w1.heap.size 3 3 a _ (by omega) h.cur (by omega) (by omega) (by have:=lies_lt h0.ls;omega) (three_cells w1 (-2) (-1) 0)).mono ?_
    rintro e w2 ⟨x,rfl,hc,hg⟩
    replace h:=h.step hlt hc hg
    clear hc hg h0
    go_wp2_with (first | ((with_reducible show wpList _ _ _ (⟨none,Op.store 3 (Operand.tmp 133) _,_,_,_,_⟩ :: _) _ _);refine wpList_putA rfl _ _ _ rfl rfl _ 10 26 [.int .i64 x] _ _ rfl rfl h.ls rfl (by kernel_rfl) (by kernel_rfl) (by kernel_rfl) ?_;intro w9 p9 l9 n9;replace h:=h.put hC p9 (s':={ s with mx:=x }) (l9.trans (congrArg (fun c=>some (Obj.cells c 73 (0,0))) (show _ = stCells ({ s with mx:=x }) by kernel_rfl)));clear l9 n9 p9) | ((with_reducible show wpList _ _ _ (⟨some 141,Op.load 73 _,_,_,_,_⟩ :: _) _ _);refine wpList_load_row rfl 73 _ rfl w8.heap.size rfl _ (stCells ({ s with mx:=x })) _ _ h.ls Tryz.underlying73 rfl (by kernel_rfl) ?_) | ((with_reducible show wpList _ _ _ (⟨none,Op.store 73 (Operand.tmp 2) (Operand.tmp 141),_,_,_,_⟩ :: _) _ _);refine wpList_putA rfl _ _ _ rfl rfl _ 0 26 (stCells ({ s with mx:=x })).toList _ _ rfl rfl h.lr rfl (by kernel_rfl) (by kernel_rfl) (by kernel_rfl) ?_;intro w9 p9 l9 n9;have lf:=l9.trans (congrArg (fun c=>some (Obj.cells c 73 (0,0))) (show _ = stCells ({ s with mx:=x }) by kernel_rfl));have cf:=put_cur hC h.cur p9 (Nat.le_refl _);have gf:=put_gro h.gro p9 (Nat.le_refl _);clear l9 n9 p9))
    exact bodyPost_ret (v:=.agg (stCells ({ s with mx:=x }))) (results_cell_row Tryz.results49 _ _ _ _ (stCells ({ s with mx:=x })) _ _ rfl lf Tryz.underlying73 rfl (by kernel_rfl)) rfl ⟨_,rfl,cf.more (by omega),gf⟩
   ·have h0:=h
    replace h:=h.alloc (.cells #[.int .i64 (-16),.int .i64 1000001,.int .i64 100001] 3)
    go_wp2_with fail
    refine (among_any b len cap _ w1.heap.size 3 3 a _ (by omega) h.cur (by omega) (by omega) (by have:=lies_lt h0.ls;omega) (three_cells w1 (-16) 1000001 100001)).mono ?_
    rintro e w2 ⟨x,rfl,hc,hg⟩
    replace h:=h.step hlt hc hg
    clear hc hg h0
    go_wp2_with (first | ((with_reducible show wpList _ _ _ (⟨none,Op.store 3 (Operand.tmp 140) _,_,_,_,_⟩ :: _) _ _);refine wpList_putA rfl _ _ _ rfl rfl _ 18 26 [.int .i64 x] _ _ rfl rfl h.ls rfl (by kernel_rfl) (by kernel_rfl) (by kernel_rfl) ?_;intro w9 p9 l9 n9;replace h:=h.put hC p9 (s':={ s with ml:=⟨s.ml.a,s.ml.p,x⟩ }) (l9.trans (congrArg (fun c=>some (Obj.cells c 73 (0,0))) (show _ = stCells ({ s with ml:=⟨s.ml.a,s.ml.p,x⟩ }) by kernel_rfl)));clear l9 n9 p9) | ((with_reducible show wpList _ _ _ (⟨some 141,Op.load 73 _,_,_,_,_⟩ :: _) _ _);refine wpList_load_row rfl 73 _ rfl w8.heap.size rfl _ (stCells ({ s with ml:=⟨s.ml.a,s.ml.p,x⟩ })) _ _ h.ls Tryz.underlying73 rfl (by kernel_rfl) ?_) | ((with_reducible show wpList _ _ _ (⟨none,Op.store 73 (Operand.tmp 2) (Operand.tmp 141),_,_,_,_⟩ :: _) _ _);refine wpList_putA rfl _ _ _ rfl rfl _ 0 26 (stCells ({ s with ml:=⟨s.ml.a,s.ml.p,x⟩ })).toList _ _ rfl rfl h.lr rfl (by kernel_rfl) (by kernel_rfl) (by kernel_rfl) ?_;intro w9 p9 l9 n9;have lf:=l9.trans (congrArg (fun c=>some (Obj.cells c 73 (0,0))) (show _ = stCells ({ s with ml:=⟨s.ml.a,s.ml.p,x⟩ }) by kernel_rfl));have cf:=put_cur hC h.cur p9 (Nat.le_refl _);have gf:=put_gro h.gro p9 (Nat.le_refl _);clear l9 n9 p9))
    exact bodyPost_ret (v:=.agg (stCells ({ s with ml:=⟨s.ml.a,s.ml.p,x⟩ }))) (results_cell_row Tryz.results49 _ _ _ _ (stCells ({ s with ml:=⟨s.ml.a,s.ml.p,x⟩ })) _ _ rfl lf Tryz.underlying73 rfl (by kernel_rfl)) rfl ⟨_,rfl,cf.more (by omega),gf⟩
   ·have e0:(k == 0) = false:=by rw [beq_eq_false_iff_ne];omega
    have e1:(k == 1) = false:=by rw [beq_eq_false_iff_ne];omega
    have e2:(k == 2) = false:=by rw [beq_eq_false_iff_ne];omega
    have e3:(k == 3) = false:=by rw [beq_eq_false_iff_ne];omega
    have e4:(k == 4) = false:=by rw [beq_eq_false_iff_ne];omega
    go_wp2_with (first | ((with_reducible show wpList _ _ _ (⟨some 141,Op.load 73 _,_,_,_,_⟩ :: _) _ _);refine wpList_load_row rfl 73 _ rfl w8.heap.size rfl _ (stCells s) _ _ h.ls Tryz.underlying73 rfl (by kernel_rfl) ?_) | ((with_reducible show wpList _ _ _ (⟨none,Op.store 73 (Operand.tmp 2) (Operand.tmp 141),_,_,_,_⟩ :: _) _ _);refine wpList_putA rfl _ _ _ rfl rfl _ 0 26 (stCells s).toList _ _ rfl rfl h.lr rfl (by kernel_rfl) (by kernel_rfl) (by kernel_rfl) ?_;intro w9 p9 l9 n9;have lf:=l9.trans (congrArg (fun c=>some (Obj.cells c 73 (0,0))) (show _ = stCells s by kernel_rfl));have cf:=put_cur hC h.cur p9 (Nat.le_refl _);have gf:=put_gro h.gro p9 (Nat.le_refl _);clear l9 n9 p9))
    exact bodyPost_ret (v:=.agg (stCells s)) (results_cell_row Tryz.results49 _ _ _ _ (stCells s) _ _ rfl lf Tryz.underlying73 rfl (by kernel_rfl)) rfl ⟨_,rfl,cf.more (by omega),gf⟩
end Go.Proofs.YtjnmloaopnbpgaaGreatDoor
