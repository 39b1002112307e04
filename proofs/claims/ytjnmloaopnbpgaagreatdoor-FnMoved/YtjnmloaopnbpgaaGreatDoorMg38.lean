/-
 What the listed variable gives: the sentinel error that it holds is an interface value.
 What a byte slice that came in gives: a row of bytes.
-/
import Derived.Test.YtjnmloaopnbpgaaGreatDoorMg31
import Derived.LaidLaws
import Derived.LaidSub
import Derived.Stop.ErrReads
import Derived.MakeChecks
import Derived.ShutString
import Derived.SizedLaws
namespace Go.Proofs.YtjnmloaopnbpgaaGreatDoor
open Go.ChangeShapes Go.WideShapes Go.ChangeAt Go.RowKit
set_option linter.unusedVariables false
theorem gBey:Tryz.prog.globalNamed "loop.example/g00164/impl.errBeyond" = some 0:=by kernel_rfl
theorem gBeyType:(Tryz.prog.globals[0]?).map (·.type) = some 152:=by kernel_rfl
set_option maxRecDepth 100000 in
theorem beyond_of {W:World} (h:laidMetH Tryz.prog [("loop.example/g00164/impl.errBeyond",Rows.laid_loop_example_g00164_impl_errBeyond)] W) :
  ∃ et ev,W.cell? ⟨0,0,none⟩ = some (.iface et ev):=by
 rw [MakeChecks.laidMetH_plain _ _ _ (by kernel_rfl)] at h
 obtain ⟨ps,⟨g0,t0,cs0,f0,p0,q0,hg0,ht0,hv0,hd0,hq0,e0⟩,hnd,hrows⟩:=h
 obtain rfl:=Option.some.inj (gBey.symm.trans hg0)
 obtain rfl:=Option.some.inj (gBeyType.symm.trans ht0)
 obtain ⟨l0⟩:=cs0
 obtain ⟨f1,u,v,rfl,hn,h1⟩:=iface_of_trod Tryz.underlying152 hd0
 exact ⟨_,_,(World.var?_cell hg0 hv0 0).trans rfl⟩
theorem bytesU8:Tryz.prog.bytesOf 5 = 1:=by kernel_rfl
theorem rowB_of {w:World} {x:Addr} {len cap:Nat} {zs:List Int} (hl:len ≤ cap) (hz:zs.length = cap) (hcell:∀ i,i < zs.length → w.cell? (x.add i) = some (.int .u8 (zs.getD i 0))) (hwz:∀ n ∈ zs,(Lit.int .u8 n).wf = true):RowB w (some x) len:=by
 by_cases h0:len = 0
 ·exact .inl h0
 ·obtain ⟨b,off,spot⟩:=x
  have hspot:spot = none:=by simpa [Addr.add] using World.cell?_spot (hcell 0 (by omega))
  subst hspot
  refine .inr ⟨b,off,rfl,fun i hi=>?_⟩
  have h:=hcell i (by omega)
  have hr:=range_u8 hwz i
  refine ⟨zs.getD i 0,by rw [List.getD_eq_getElem?_getD];exact hr.1,by rw [List.getD_eq_getElem?_getD];exact hr.2,?_⟩
  by_cases hi0:i = 0
  ·subst hi0;simpa [Addr.add] using h
  ·simpa [Addr.add,hi0] using h
end Go.Proofs.YtjnmloaopnbpgaaGreatDoor
