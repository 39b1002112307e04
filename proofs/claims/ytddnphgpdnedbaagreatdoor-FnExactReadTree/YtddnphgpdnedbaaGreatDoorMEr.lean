/-
  errors.As over what the readers of sizes hand back, the target a pointer to a fault of form: nil, such a fault, a sentinel.
  errors.Is over the program's own faults, where the target is a sentinel: nil; a fault that wraps the sentinel itself, another sentinel, a fault of form.
-/
import Derived.Test.YtddnphgpdnedbaaGreatDoorRows
import Derived.Test.YtddnphgpdnedbaaGreatDoorWide
import Derived.WalkKit
import Derived.ProofKit
import Derived.LaidEql
import Derived.Stop.Asserts
import Derived.RowKitTokens
import Derived.Below
import Derived.Deep.MidRow
namespace Go.Proofs.YtddnphgpdnedbaaGreatDoor
open Go.ChangeShapes Go.WideShapes Go.ChangeAt Go.RowKit Go.Extern
set_option linter.unusedVariables false

def valueOfX : Array Value → Sem Value := fun args => ReflectliteValue.unpack (args.getD 0 (.tuple #[]))
def typeX : Array Value → Sem Value := ReflectliteValue.methodAny (ReflectliteValue.valueError "reflectlite.Value.Type" 0) fun t _ _ _ => ReflectliteType.toType t
def isNilX : Array Value → Sem Value := ReflectliteValue.method (ReflectliteValue.valueError "reflectlite.Value.IsNil" 0) ReflectliteValue.isNil
def velemX : Array Value → Sem Value := ReflectliteValue.method (ReflectliteValue.valueError "reflectlite.Value.Elem" 0) ReflectliteValue.elem
def kindX : Array Value → Sem Value := ReflectliteType.abiMethod fun t => do pure (.int .u8 (← Rtype.kind t))
def telemX : Array Value → Sem Value := ReflectliteType.method ReflectliteType.elem
def implX : Array Value → Sem Value := ReflectliteType.relation "Implements" ReflectliteType.implements_
def asgnX : Array Value → Sem Value := ReflectliteType.relation "AssignableTo" ReflectliteType.assignableTo

theorem xValueOf (v : Value) (w : World) : (valueOfX #[.iface 175 v]).run Tryz.prog w = .ok (.agg #[.pointer (some ⟨12, 175, none⟩), .pointer (some ⟨w.heap.size, 0, none⟩), .int .u64 150]) (w.alloc (.cells v.cells 175)) := by kernel_rfl
theorem xType (a : Addr) (w : World) : (typeX #[.agg #[.pointer (some ⟨12, 175, none⟩), .pointer (some a), .int .u64 150]]).run Tryz.prog w = .ok (.iface 161 (.agg #[.pointer (some ⟨12, 175, none⟩)])) w := by kernel_rfl
theorem mKind (h : Value) (w : World) : (Go.method 338 161 (.agg #[h]) "Kind").run Tryz.prog w = .ok (168, h) w := by kernel_rfl
theorem mElem (h : Value) (w : World) : (Go.method 338 161 (.agg #[h]) "Elem").run Tryz.prog w = .ok (177, .agg #[h]) w := by kernel_rfl
theorem mImpl (h : Value) (w : World) : (Go.method 338 161 (.agg #[h]) "Implements").run Tryz.prog w = .ok (178, .agg #[h]) w := by kernel_rfl
theorem mAsgn (h : Value) (w : World) : (Go.method 338 161 (.agg #[h]) "AssignableTo").run Tryz.prog w = .ok (175, .agg #[h]) w := by kernel_rfl
theorem xKind1 (w : World) : (kindX #[.pointer (some ⟨12, 175, none⟩)]).run Tryz.prog w = .ok (.int .u8 22) w := by kernel_rfl
theorem xKind2 (w : World) : (kindX #[.pointer (some ⟨12, 173, none⟩)]).run Tryz.prog w = .ok (.int .u8 22) w := by kernel_rfl
theorem xElem (w : World) : (telemX #[.agg #[.pointer (some ⟨12, 175, none⟩)]]).run Tryz.prog w = .ok (.iface 161 (.agg #[.pointer (some ⟨12, 173, none⟩)])) w := by kernel_rfl
theorem xImpl (rt : TypeId) (w : World) : (implX #[.agg #[.pointer (some ⟨12, 173, none⟩)], .iface rt (.agg #[.pointer (some ⟨12, 63, none⟩)])]).run Tryz.prog w = .ok (.bool true) w := by kernel_rfl
theorem xAsgn1 (rt : TypeId) (w : World) : (asgnX #[.agg #[.pointer (some ⟨12, 173, none⟩)], .iface rt (.agg #[.pointer (some ⟨12, 173, none⟩)])]).run Tryz.prog w = .ok (.bool true) w := by kernel_rfl
theorem xAsgn2 (rt : TypeId) (w : World) : (asgnX #[.agg #[.pointer (some ⟨12, 209, none⟩)], .iface rt (.agg #[.pointer (some ⟨12, 173, none⟩)])]).run Tryz.prog w = .ok (.bool false) w := by kernel_rfl
theorem xTypeOf1 (v : Value) (w : World) : (ReflectliteType.typeOf #[.iface 173 v]).run Tryz.prog w = .ok (.iface 161 (.agg #[.pointer (some ⟨12, 173, none⟩)])) w := by kernel_rfl
theorem xTypeOf2 (v : Value) (w : World) : (ReflectliteType.typeOf #[.iface 209 v]).run Tryz.prog w = .ok (.iface 161 (.agg #[.pointer (some ⟨12, 209, none⟩)])) w := by kernel_rfl
theorem noAsE (v : Value) (xT : TypeId) (w : World) : (Instr.typeAssert (.iface 209 v) xT 194 true).run Tryz.prog w = .ok (.tuple #[.nilIface, .bool false]) w := run_typeAssert_lacksB Tryz.underlying194 (by kernel_rfl) (by kernel_rfl) v xT w
theorem noUnE (v : Value) (xT : TypeId) (w : World) : (Instr.typeAssert (.iface 209 v) xT 166 true).run Tryz.prog w = .ok (.tuple #[.nilIface, .bool false]) w := run_typeAssert_lacksB Tryz.underlying166 (by kernel_rfl) (by kernel_rfl) v xT w
theorem noUnsE (v : Value) (xT : TypeId) (w : World) : (Instr.typeAssert (.iface 209 v) xT 168 true).run Tryz.prog w = .ok (.tuple #[.nilIface, .bool false]) w := run_typeAssert_lacksB Tryz.underlying168 (by kernel_rfl) (by kernel_rfl) v xT w

theorem as_nil (t : Value) (w : World) : Calls Tryz.prog 125 #[.nilIface, t] w fun e w' => e = .returned (.bool false) ∧ w' = w := by
  go_enter Tryz.func125, Tryz.ntmps125
  go_wp2
  go_ret
  exact ⟨rfl, rfl⟩

theorem parts1 (a : Addr) (w : World) : (ReflectliteValue.parts (.agg #[.pointer (some ⟨12, 175, none⟩), .pointer (some a), .int .u64 150])).run Tryz.prog w = .ok (some (175, a, 150)) w := by kernel_rfl
theorem parts2 (a : Addr) (w : World) : (ReflectliteValue.parts (.agg #[.pointer (some ⟨12, 173, none⟩), .pointer (some a), .int .u64 150])).run Tryz.prog w = .ok (some (173, a, 150)) w := by kernel_rfl
theorem parts3 (a : Addr) (w : World) : (ReflectliteValue.parts (.agg #[.pointer (some ⟨12, 173, none⟩), .pointer (some a), .int .u64 406])).run Tryz.prog w = .ok (some (173, a, 406)) w := by kernel_rfl
theorem agg1 (w : World) : (isAgg 175).run Tryz.prog w = .ok false w := by kernel_rfl
theorem agg2 (w : World) : (isAgg 173).run Tryz.prog w = .ok false w := by kernel_rfl
theorem elem1 (w : World) : (Rtype.elem? 175).run Tryz.prog w = .ok (some 173) w := by kernel_rfl
theorem mk1 (a : Addr) (w : World) : (ReflectliteValue.mk 173 a 256).run Tryz.prog w = .ok (.agg #[.pointer (some ⟨12, 173, none⟩), .pointer (some a), .int .u64 406]) w := by kernel_rfl
theorem dir1 (w : World) : (Rtype.directlyAssignable 173 173).run Tryz.prog w = .ok true w := by kernel_rfl
theorem sz1 : (Tryz.prog.info? 173).map (·.size) = some 1 := by kernel_rfl
theorem xValueOf1 (v : Value) (w : World) : (valueOfX #[.iface 173 v]).run Tryz.prog w = .ok (.agg #[.pointer (some ⟨12, 173, none⟩), .pointer (some ⟨w.heap.size, 0, none⟩), .int .u64 150]) (w.alloc (.cells v.cells 173)) := by kernel_rfl
theorem load_cell {t : TypeId} {a : Addr} {v : Value} {w : World} (hg : (isAgg t).run Tryz.prog w = .ok false w) (hc : w.cell? a = some v) : (loadVar t a).run Tryz.prog w = .ok v w := by
  simp [loadVar, hg, hc]
theorem xIsNil (a : Addr) (q : Addr) (w : World) (hc : w.cell? a = some (.pointer (some q))) : (isNilX #[.agg #[.pointer (some ⟨12, 175, none⟩), .pointer (some a), .int .u64 150]]).run Tryz.prog w = .ok (.bool false) w := by
  have e : isNilX #[.agg #[.pointer (some ⟨12, 175, none⟩), .pointer (some a), .int .u64 150]] = (ReflectliteValue.parts (.agg #[.pointer (some ⟨12, 175, none⟩), .pointer (some a), .int .u64 150]) >>= fun r => match r with | none => ReflectliteValue.valueError "reflectlite.Value.IsNil" 0 | some (t, a, fl) => ReflectliteValue.isNil t a fl (fl % 32)) := rfl
  rw [e, Sem.run_bind, parts1, Result.andThen_ok]
  simp [ReflectliteValue.isNil, load_cell (agg1 w) hc]
theorem xVelem (a q : Addr) (w : World) (hc : w.cell? a = some (.pointer (some q))) : (velemX #[.agg #[.pointer (some ⟨12, 175, none⟩), .pointer (some a), .int .u64 150]]).run Tryz.prog w = .ok (.agg #[.pointer (some ⟨12, 173, none⟩), .pointer (some q), .int .u64 406]) w := by
  have e : velemX #[.agg #[.pointer (some ⟨12, 175, none⟩), .pointer (some a), .int .u64 150]] = (ReflectliteValue.parts (.agg #[.pointer (some ⟨12, 175, none⟩), .pointer (some a), .int .u64 150]) >>= fun r => match r with | none => ReflectliteValue.valueError "reflectlite.Value.Elem" 0 | some (t, a, fl) => ReflectliteValue.elem t a fl (fl % 32)) := rfl
  rw [e, Sem.run_bind, parts1, Result.andThen_ok]
  simp [ReflectliteValue.elem, load_cell (agg1 w) hc, elem1, ReflectliteValue.flagAddr, mk1]
def setBody (v x : Value) : Sem Value := do
    let (some (dst, a, fl), some (src, b, _)) := (← ReflectliteValue.parts v, ← ReflectliteValue.parts x)
      | unsupported (.noEntry "extern/(internal/reflectlite.Value).Set.zeroValue")
    if fl / ReflectliteValue.flagAddr % 2 == 0 then unsupported (.noEntry "extern/(internal/reflectlite.Value).Set.unaddressable")
    let val ← loadVar src b
    if ← Rtype.directlyAssignable dst src then storeVar dst a val
    else if ← Rtype.implements dst src then
      if (← Rtype.kind src) == 20 then
        match val with
        | .nilIface => unsupported (.noEntry "extern/reflectlite: a nil value of one interface type handed on as a value of another")
        | _ => storeVar dst a val
      else storeVar dst a (.iface src val)
    else panicString ("reflectlite.Set: value of type " ++ (← Rtype.spelt src) ++ " is not assignable to type " ++ (← Rtype.spelt dst))
    pure (.tuple #[])
theorem xSet (vb : Nat) (b : Addr) (p o : Value) (w : World) (hp : p.oneCell' = true) (hpc : p.cells = #[p]) (hc : w.cell? b = some p) (hv : w.cell? ⟨vb, 0, none⟩ = some o) (hf : w.frozen? ⟨vb, 0, none⟩ = false) :
    (ReflectliteValue.set #[.agg #[.pointer (some ⟨12, 173, none⟩), .pointer (some ⟨vb, 0, none⟩), .int .u64 406], .agg #[.pointer (some ⟨12, 173, none⟩), .pointer (some b), .int .u64 150]]).run Tryz.prog w = .ok (.tuple #[]) (w.setCell ⟨vb, 0, none⟩ p) := by
  obtain ⟨j, hj, hjs⟩ := Option.map_eq_some_iff.1 sz1
  have e : ReflectliteValue.set #[.agg #[.pointer (some ⟨12, 173, none⟩), .pointer (some ⟨vb, 0, none⟩), .int .u64 406], .agg #[.pointer (some ⟨12, 173, none⟩), .pointer (some b), .int .u64 150]] = setBody (.agg #[.pointer (some ⟨12, 173, none⟩), .pointer (some ⟨vb, 0, none⟩), .int .u64 406]) (.agg #[.pointer (some ⟨12, 173, none⟩), .pointer (some b), .int .u64 150]) := rfl
  rw [e]
  have hs := run_storeCells_cells (P := Tryz.prog) vb 0 [p] 0 w (fun j hj' => by obtain rfl : j = 0 := (by simpa using hj'); simp [hv]) (fun j hj' => by obtain rfl : j = 0 := (by simpa using hj'); simpa using hf) (fun u hu => by rw [List.mem_singleton] at hu; subst hu; exact hp)
  simp only [Nat.add_zero] at hs
  have hy : p.cells.toList = [p] := by rw [hpc]
  have hsz : p.cells.size = j.size := by rw [hpc, hjs]; rfl
  have hsv : (storeVar 173 ⟨vb, 0, none⟩ p).run Tryz.prog w = .ok () (w.setCells vb 0 [p]) := by simp [storeVar, sizeOf, typeInfo, hj, hsz, hy, hs]
  simp [setBody, parts2, parts3, ReflectliteValue.flagAddr, load_cell (agg2 w) hc, dir1, hsv, World.setCells]

set_option maxRecDepth 100000 in
set_option maxHeartbeats 4000000 in
theorem as_beyond (a q : Addr) (w : World) (hET : w.cell? ⟨8, 0, none⟩ = some (.iface 161 (.agg #[.pointer (some ⟨12, 63, none⟩)]))) :
    Calls Tryz.prog 125 #[.iface 209 (.pointer (some a)), .iface 175 (.pointer (some q))] w fun e w' => e = .returned (.bool false) ∧ Below w.heap.size w w' := by
  have x73 := @run_callFunc_extern Tryz.prog 132 _ valueOfX Tryz.func132 (by kernel_rfl) (by kernel_rfl) (by kernel_rfl) (by kernel_rfl); have x74 := @run_callFunc_extern Tryz.prog 133 _ typeX Tryz.func133 (by kernel_rfl) (by kernel_rfl) (by kernel_rfl) (by kernel_rfl); have x75 := @run_callFunc_extern Tryz.prog 134 _ isNilX Tryz.func134 (by kernel_rfl) (by kernel_rfl) (by kernel_rfl) (by kernel_rfl); have x84 := @run_callFunc_extern Tryz.prog 141 _ velemX Tryz.func141 (by kernel_rfl) (by kernel_rfl) (by kernel_rfl) (by kernel_rfl); have x114 := @run_callFunc_extern Tryz.prog 168 _ kindX Tryz.func168 (by kernel_rfl) (by kernel_rfl) (by kernel_rfl) (by kernel_rfl); have x123 := @run_callFunc_extern Tryz.prog 177 _ telemX Tryz.func177 (by kernel_rfl) (by kernel_rfl) (by kernel_rfl) (by kernel_rfl); have x124 := @run_callFunc_extern Tryz.prog 178 _ implX Tryz.func178 (by kernel_rfl) (by kernel_rfl) (by kernel_rfl) (by kernel_rfl); have x121 := @run_callFunc_extern Tryz.prog 175 _ asgnX Tryz.func175 (by kernel_rfl) (by kernel_rfl) (by kernel_rfl) (by kernel_rfl); have x37 := @run_callFunc_extern Tryz.prog 107 _ ReflectliteType.typeOf Tryz.func107 (by kernel_rfl) (by kernel_rfl) (by kernel_rfl) (by kernel_rfl); have x85 := @run_callFunc_extern Tryz.prog 142 _ ReflectliteValue.set Tryz.func142 (by kernel_rfl) (by kernel_rfl) (by kernel_rfl) (by kernel_rfl); have f1 := xValueOf; have f2 := xType; have f3 := mKind; have f4 := mElem; have f5 := mImpl; have f6 := mAsgn; have f7 := xKind1; have f8 := xKind2; have f9 := xElem; have f10 := xImpl; have f11 := xAsgn1; have f12 := xAsgn2; have f13 := xTypeOf1; have f14 := xTypeOf2; have f15 := noAsE; have f16 := noUnE; have f17 := noUnsE; have f18 := xValueOf1; have f19 := xIsNil; have f20 := xVelem
  have lte : 8 < w.heap.size := World.block_lt_of_cell? _ ⟨8, 0, none⟩ hET
  have hn1 : ¬ 8 = w.heap.size := by omega
  have hn2 : ¬ 8 = w.heap.size + 1 := by omega
  go_enter Tryz.func125, Tryz.ntmps125
  go_wp2
  refine wp_loop_rounds 1 ?_
  rw [rounds_succ]
  go_wp2
  go_ret
  refine ⟨rfl, ?_⟩
  repeat (first | exact Below.refl _ _ | refine Below.drew ?_ | refine Below.setCell ?_ (by first | (simp; done) | (simp; omega)) _ | refine Below.alloc ?_ (by first | (simp; done) | (simp; omega)) _)

set_option maxRecDepth 100000 in
set_option maxHeartbeats 4000000 in
theorem as_form (a : Addr) (vb : Nat) (o : Value) (w : World) (hET : w.cell? ⟨8, 0, none⟩ = some (.iface 161 (.agg #[.pointer (some ⟨12, 63, none⟩)])))
    (hv : w.cell? ⟨vb, 0, none⟩ = some o) (hf : w.frozen? ⟨vb, 0, none⟩ = false) (hne : 8 ≠ vb) :
    Calls Tryz.prog 125 #[.iface 173 (.pointer (some a)), .iface 175 (.pointer (some ⟨vb, 0, none⟩))] w fun e w' => e = .returned (.bool true) ∧ ∀ B, B ≤ vb → B ≤ w.heap.size → Below B w w' := by
  have x73 := @run_callFunc_extern Tryz.prog 132 _ valueOfX Tryz.func132 (by kernel_rfl) (by kernel_rfl) (by kernel_rfl) (by kernel_rfl); have x74 := @run_callFunc_extern Tryz.prog 133 _ typeX Tryz.func133 (by kernel_rfl) (by kernel_rfl) (by kernel_rfl) (by kernel_rfl); have x75 := @run_callFunc_extern Tryz.prog 134 _ isNilX Tryz.func134 (by kernel_rfl) (by kernel_rfl) (by kernel_rfl) (by kernel_rfl); have x84 := @run_callFunc_extern Tryz.prog 141 _ velemX Tryz.func141 (by kernel_rfl) (by kernel_rfl) (by kernel_rfl) (by kernel_rfl); have x114 := @run_callFunc_extern Tryz.prog 168 _ kindX Tryz.func168 (by kernel_rfl) (by kernel_rfl) (by kernel_rfl) (by kernel_rfl); have x123 := @run_callFunc_extern Tryz.prog 177 _ telemX Tryz.func177 (by kernel_rfl) (by kernel_rfl) (by kernel_rfl) (by kernel_rfl); have x124 := @run_callFunc_extern Tryz.prog 178 _ implX Tryz.func178 (by kernel_rfl) (by kernel_rfl) (by kernel_rfl) (by kernel_rfl); have x121 := @run_callFunc_extern Tryz.prog 175 _ asgnX Tryz.func175 (by kernel_rfl) (by kernel_rfl) (by kernel_rfl) (by kernel_rfl); have x37 := @run_callFunc_extern Tryz.prog 107 _ ReflectliteType.typeOf Tryz.func107 (by kernel_rfl) (by kernel_rfl) (by kernel_rfl) (by kernel_rfl); have x85 := @run_callFunc_extern Tryz.prog 142 _ ReflectliteValue.set Tryz.func142 (by kernel_rfl) (by kernel_rfl) (by kernel_rfl) (by kernel_rfl); have f1 := xValueOf; have f2 := xType; have f3 := mKind; have f4 := mElem; have f5 := mImpl; have f6 := mAsgn; have f7 := xKind1; have f8 := xKind2; have f9 := xElem; have f10 := xImpl; have f11 := xAsgn1; have f12 := xAsgn2; have f13 := xTypeOf1; have f14 := xTypeOf2; have f15 := noAsE; have f16 := noUnE; have f17 := noUnsE; have f18 := xValueOf1; have f19 := xIsNil; have f20 := xVelem
  have lte : 8 < w.heap.size := World.block_lt_of_cell? _ ⟨8, 0, none⟩ hET
  have ltv : vb < w.heap.size := World.block_lt_of_cell? _ ⟨vb, 0, none⟩ hv
  have hn1 : ¬ 8 = w.heap.size := by omega
  have hn2 : ¬ 8 = w.heap.size + 1 := by omega
  have hn3 : ¬ vb = w.heap.size := by omega
  have hn4 : ¬ vb = w.heap.size + 1 := by omega
  have B3 : Below w.heap.size w (((w.alloc (.cells #[.pointer (some ⟨vb, 0, none⟩)] 175)).alloc (.cells #[.pointer (some ⟨12, 175, none⟩), .pointer (some ⟨w.heap.size, 0, none⟩), .int .u64 150] 182)).alloc (.cells #[.pointer (some ⟨12, 175, none⟩), .pointer (some ⟨w.heap.size, 0, none⟩), .int .u64 150] 182)) := (((Below.refl _ _).alloc (Nat.le_refl _) _).alloc (by simp) _).alloc (by simp; omega) _
  have B4 : Below w.heap.size w ((((w.alloc (.cells #[.pointer (some ⟨vb, 0, none⟩)] 175)).alloc (.cells #[.pointer (some ⟨12, 175, none⟩), .pointer (some ⟨w.heap.size, 0, none⟩), .int .u64 150] 182)).alloc (.cells #[.pointer (some ⟨12, 175, none⟩), .pointer (some ⟨w.heap.size, 0, none⟩), .int .u64 150] 182)).alloc (.cells #[.pointer (some a)] 173)) := B3.alloc (by simp; omega) _
  have B1 : Below (w.heap.size + 1) (w.alloc (.cells #[.pointer (some ⟨vb, 0, none⟩)] 175)) (((w.alloc (.cells #[.pointer (some ⟨vb, 0, none⟩)] 175)).alloc (.cells #[.pointer (some ⟨12, 175, none⟩), .pointer (some ⟨w.heap.size, 0, none⟩), .int .u64 150] 182)).alloc (.cells #[.pointer (some ⟨12, 175, none⟩), .pointer (some ⟨w.heap.size, 0, none⟩), .int .u64 150] 182)) := ((Below.refl _ _).alloc (by simp) _).alloc (by simp) _
  have q1 : ((((w.alloc (.cells #[.pointer (some ⟨vb, 0, none⟩)] 175)).alloc (.cells #[.pointer (some ⟨12, 175, none⟩), .pointer (some ⟨w.heap.size, 0, none⟩), .int .u64 150] 182)).alloc (.cells #[.pointer (some ⟨12, 175, none⟩), .pointer (some ⟨w.heap.size, 0, none⟩), .int .u64 150] 182))).cell? ⟨w.heap.size, 0, none⟩ = some (.pointer (some ⟨vb, 0, none⟩)) := (B1.cell (p := ⟨w.heap.size, 0, none⟩) (by simp)).trans (by simp)
  have q2 : (((((w.alloc (.cells #[.pointer (some ⟨vb, 0, none⟩)] 175)).alloc (.cells #[.pointer (some ⟨12, 175, none⟩), .pointer (some ⟨w.heap.size, 0, none⟩), .int .u64 150] 182)).alloc (.cells #[.pointer (some ⟨12, 175, none⟩), .pointer (some ⟨w.heap.size, 0, none⟩), .int .u64 150] 182)).alloc (.cells #[.pointer (some a)] 173))).cell? ⟨w.heap.size + 1 + 1 + 1, 0, none⟩ = some (.pointer (some a)) := (lies_cell (heap_at (((w.alloc (.cells #[.pointer (some ⟨vb, 0, none⟩)] 175)).alloc (.cells #[.pointer (some ⟨12, 175, none⟩), .pointer (some ⟨w.heap.size, 0, none⟩), .int .u64 150] 182)).alloc (.cells #[.pointer (some ⟨12, 175, none⟩), .pointer (some ⟨w.heap.size, 0, none⟩), .int .u64 150] 182)) (.cells #[.pointer (some a)] 173) (w.heap.size + 1 + 1 + 1) (by simp)) 0).trans rfl
  have f22 := xVelem ⟨w.heap.size, 0, none⟩ ⟨vb, 0, none⟩ (((w.alloc (.cells #[.pointer (some ⟨vb, 0, none⟩)] 175)).alloc (.cells #[.pointer (some ⟨12, 175, none⟩), .pointer (some ⟨w.heap.size, 0, none⟩), .int .u64 150] 182)).alloc (.cells #[.pointer (some ⟨12, 175, none⟩), .pointer (some ⟨w.heap.size, 0, none⟩), .int .u64 150] 182)) q1
  have f23 := xSet vb ⟨w.heap.size + 1 + 1 + 1, 0, none⟩ (.pointer (some a)) o ((((w.alloc (.cells #[.pointer (some ⟨vb, 0, none⟩)] 175)).alloc (.cells #[.pointer (some ⟨12, 175, none⟩), .pointer (some ⟨w.heap.size, 0, none⟩), .int .u64 150] 182)).alloc (.cells #[.pointer (some ⟨12, 175, none⟩), .pointer (some ⟨w.heap.size, 0, none⟩), .int .u64 150] 182)).alloc (.cells #[.pointer (some a)] 173)) rfl rfl q2 ((B4.cell (p := ⟨vb, 0, none⟩) ltv).trans hv) ((B4.frozen (p := ⟨vb, 0, none⟩) ltv).trans hf)
  clear f20 B1 q1 q2
  go_enter Tryz.func125, Tryz.ntmps125
  go_wp2
  refine wp_loop_rounds 1 ?_
  rw [rounds_succ]
  go_wp2
  go_ret
  refine ⟨rfl, fun B hB hB' => ?_⟩
  exact Below.setCell (B4.mono hB') hB _
end Go.Proofs.YtddnphgpdnedbaaGreatDoor

namespace Go.Proofs.YtddnphgpdnedbaaGreatDoor
open Go.ChangeShapes Go.WideShapes Go.ChangeAt Go.RowKit Go.Extern
set_option linter.unusedVariables false

theorem isTypeOf (v : Value) (w : World) : (Extern.ReflectliteType.typeOf #[.iface 209 v]).run Tryz.prog w = .ok (.iface 161 (.agg #[.pointer (some ⟨12, 209, none⟩)])) w := by kernel_rfl
theorem isComp : (Tryz.prog.info? 209).map (·.comparable) = some true := by kernel_rfl
theorem isSize : (Tryz.prog.info? 227).map (·.size) = some 1 := by kernel_rfl
theorem isMethodComparable (v : Value) (w : World) : (Go.method 338 161 v "Comparable").run Tryz.prog w = .ok (176, v) w := by kernel_rfl
def comparableX : Array Value → Sem Value := Extern.ReflectliteType.method fun t => do Rtype.noPackHeld "Comparable" t; pure (.bool (← typeInfo t).comparable)
theorem isComparable (w : World) : (comparableX #[.agg #[.pointer (some ⟨12, 209, none⟩)]]).run Tryz.prog w = .ok (.bool true) w := by kernel_rfl

theorem noIsS (v : Value) (xT : TypeId) (w : World) : (Instr.typeAssert (.iface 136 v) xT 163 true).run Tryz.prog w = .ok (.tuple #[.nilIface, .bool false]) w := run_typeAssert_lacksB Tryz.underlying163 (by kernel_rfl) (by kernel_rfl) v xT w
theorem hasUnwrapS (v : Value) (xT : TypeId) (w : World) : (Instr.typeAssert (.iface 136 v) xT 166 true).run Tryz.prog w = .ok (.tuple #[.iface 136 v, .bool true]) w := run_typeAssert_hasB Tryz.underlying166 (by kernel_rfl) v xT w
theorem noIsE (v : Value) (xT : TypeId) (w : World) : (Instr.typeAssert (.iface 209 v) xT 163 true).run Tryz.prog w = .ok (.tuple #[.nilIface, .bool false]) w := run_typeAssert_lacksB Tryz.underlying163 (by kernel_rfl) (by kernel_rfl) v xT w
theorem noUnwrapE (v : Value) (xT : TypeId) (w : World) : (Instr.typeAssert (.iface 209 v) xT 166 true).run Tryz.prog w = .ok (.tuple #[.nilIface, .bool false]) w := run_typeAssert_lacksB Tryz.underlying166 (by kernel_rfl) (by kernel_rfl) v xT w
theorem noUnwrapsE (v : Value) (xT : TypeId) (w : World) : (Instr.typeAssert (.iface 209 v) xT 168 true).run Tryz.prog w = .ok (.tuple #[.nilIface, .bool false]) w := run_typeAssert_lacksB Tryz.underlying168 (by kernel_rfl) (by kernel_rfl) v xT w
theorem noIsO (v : Value) (xT : TypeId) (w : World) : (Instr.typeAssert (.iface 173 v) xT 163 true).run Tryz.prog w = .ok (.tuple #[.nilIface, .bool false]) w := run_typeAssert_lacksB Tryz.underlying163 (by kernel_rfl) (by kernel_rfl) v xT w
theorem noUnwrapO (v : Value) (xT : TypeId) (w : World) : (Instr.typeAssert (.iface 173 v) xT 166 true).run Tryz.prog w = .ok (.tuple #[.nilIface, .bool false]) w := run_typeAssert_lacksB Tryz.underlying166 (by kernel_rfl) (by kernel_rfl) v xT w
theorem noUnwrapsO (v : Value) (xT : TypeId) (w : World) : (Instr.typeAssert (.iface 173 v) xT 168 true).run Tryz.prog w = .ok (.tuple #[.nilIface, .bool false]) w := run_typeAssert_lacksB Tryz.underlying168 (by kernel_rfl) (by kernel_rfl) v xT w
theorem methodUnwrap (v : Value) (w : World) : (Go.method 338 136 v "Unwrap").run Tryz.prog w = .ok (173, v) w := by kernel_rfl

/-- errors.Is(nil, x). -/
theorem is_nil (b : Addr) (w : World) :
    Calls Tryz.prog 95 #[.nilIface, .iface 209 (.pointer (some b))] w fun e w' => e = .returned (.bool false) ∧ w' = w := by
  have hn := run_eql_iface_nil_left (P := Tryz.prog) w 209 (.pointer (some b)) Tryz.underlying63
  go_enter Tryz.func95, Tryz.ntmps95
  go_wp2
  go_ret
  exact ⟨rfl, rfl⟩

set_option maxRecDepth 100000 in
set_option maxHeartbeats 2000000 in
/-- errors.Is(f, x), f a fault that wraps x itself. -/
theorem is_same (pb po : Nat) (b : Addr) (w : World) (h1 : w.cell? ⟨pb, po + 1, none⟩ = some (.iface 209 (.pointer (some b)))) :
    Calls Tryz.prog 95 #[.iface 136 (.pointer (some ⟨pb, po, none⟩)), .iface 209 (.pointer (some b))] w fun e w' => e = .returned (.bool true) ∧ w' = w := by
  obtain ⟨i, hi, hcmp⟩ := Option.map_eq_some_iff.1 isComp
  obtain ⟨j, hj, hjs⟩ := Option.map_eq_some_iff.1 isSize
  have h8 := @run_callFunc_extern Tryz.prog 107 _ Extern.ReflectliteType.typeOf Tryz.func107 (by kernel_rfl) (by kernel_rfl) (by kernel_rfl) (by kernel_rfl)
  have h32 := @run_callFunc_extern Tryz.prog 176 _ comparableX Tryz.func176 (by kernel_rfl) (by kernel_rfl) (by kernel_rfl) (by kernel_rfl)
  have tT := isTypeOf
  have cT := isComparable
  have mR := isMethodComparable
  have nS := noIsS
  have uS := hasUnwrapS
  have mU := methodUnwrap
  have heq := run_eql_iface_ptr_same (P := Tryz.prog) w b Tryz.underlying63 Tryz.underlying209 hi hcmp hj
  have hty := run_eql_iface_types (P := Tryz.prog) 136 209 (.pointer (some ⟨pb, po, none⟩)) (.pointer (some b)) Tryz.underlying63 (by decide) w
  go_enter Tryz.func95, Tryz.ntmps95
  go_wp2
  refine wp_loop_rounds 2 ?_
  rw [rounds_succ]
  go_wp2
  rw [rounds_succ]
  go_wp2
  go_ret
  exact ⟨rfl, rfl⟩

set_option maxRecDepth 100000 in
set_option maxHeartbeats 2000000 in
/-- errors.Is(f, x), f a fault that wraps another sentinel. -/
theorem is_other (pb po : Nat) (b a : Addr) (ca cb : Array Value) (ta tb : TypeId) (w : World) (h1 : w.cell? ⟨pb, po + 1, none⟩ = some (.iface 209 (.pointer (some a)))) (hne : a ≠ b) (ha : w.heap[a.block]? = some (.cells ca ta (0, 0))) (hb : w.heap[b.block]? = some (.cells cb tb (0, 0))) :
    Calls Tryz.prog 95 #[.iface 136 (.pointer (some ⟨pb, po, none⟩)), .iface 209 (.pointer (some b))] w fun e w' => e = .returned (.bool false) ∧ w' = w := by
  obtain ⟨i, hi, hcmp⟩ := Option.map_eq_some_iff.1 isComp
  obtain ⟨j, hj, hjs⟩ := Option.map_eq_some_iff.1 isSize
  have h8 := @run_callFunc_extern Tryz.prog 107 _ Extern.ReflectliteType.typeOf Tryz.func107 (by kernel_rfl) (by kernel_rfl) (by kernel_rfl) (by kernel_rfl)
  have h32 := @run_callFunc_extern Tryz.prog 176 _ comparableX Tryz.func176 (by kernel_rfl) (by kernel_rfl) (by kernel_rfl) (by kernel_rfl)
  have tT := isTypeOf
  have cT := isComparable
  have mR := isMethodComparable
  have nS := noIsS
  have uS := hasUnwrapS
  have mU := methodUnwrap
  have nE := noIsE
  have uE := noUnwrapE
  have vE := noUnwrapsE
  have heq := run_eql_iface_ptr_other (P := Tryz.prog) w Tryz.underlying63 Tryz.underlying209 hi hcmp hj (by rw [hjs]; decide) hne ha hb
  have hty := run_eql_iface_types (P := Tryz.prog) 136 209 (.pointer (some ⟨pb, po, none⟩)) (.pointer (some b)) Tryz.underlying63 (by decide) w
  go_enter Tryz.func95, Tryz.ntmps95
  go_wp2
  refine wp_loop_rounds 2 ?_
  rw [rounds_succ]
  go_wp2
  rw [rounds_succ]
  go_wp2
  go_ret
  exact ⟨rfl, rfl⟩

set_option maxRecDepth 100000 in
set_option maxHeartbeats 2000000 in
/-- errors.Is(f, x), f a fault that wraps one of form. -/
theorem is_form (pb po : Nat) (b a : Addr) (w : World) (h1 : w.cell? ⟨pb, po + 1, none⟩ = some (.iface 173 (.pointer (some a)))) :
    Calls Tryz.prog 95 #[.iface 136 (.pointer (some ⟨pb, po, none⟩)), .iface 209 (.pointer (some b))] w fun e w' => e = .returned (.bool false) ∧ w' = w := by
  have h8 := @run_callFunc_extern Tryz.prog 107 _ Extern.ReflectliteType.typeOf Tryz.func107 (by kernel_rfl) (by kernel_rfl) (by kernel_rfl) (by kernel_rfl)
  have h32 := @run_callFunc_extern Tryz.prog 176 _ comparableX Tryz.func176 (by kernel_rfl) (by kernel_rfl) (by kernel_rfl) (by kernel_rfl)
  have tT := isTypeOf
  have cT := isComparable
  have mR := isMethodComparable
  have nS := noIsS
  have uS := hasUnwrapS
  have mU := methodUnwrap
  have nE := noIsO
  have uE := noUnwrapO
  have vE := noUnwrapsO
  have heq := run_eql_iface_types (P := Tryz.prog) 173 209 (.pointer (some a)) (.pointer (some b)) Tryz.underlying63 (by decide) w
  have hty := run_eql_iface_types (P := Tryz.prog) 136 209 (.pointer (some ⟨pb, po, none⟩)) (.pointer (some b)) Tryz.underlying63 (by decide) w
  go_enter Tryz.func95, Tryz.ntmps95
  go_wp2
  refine wp_loop_rounds 2 ?_
  rw [rounds_succ]
  go_wp2
  rw [rounds_succ]
  go_wp2
  go_ret
  exact ⟨rfl, rfl⟩
end Go.Proofs.YtddnphgpdnedbaaGreatDoor
