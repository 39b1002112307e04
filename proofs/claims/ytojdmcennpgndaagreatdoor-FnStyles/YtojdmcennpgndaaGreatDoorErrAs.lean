/-
  errors.As over what the readers of sizes hand back, the target a pointer to a fault of form: nil, such a fault, a sentinel.
-/
import Derived.Test.YtojdmcennpgndaaGreatDoorRows
import Derived.Test.YtojdmcennpgndaaGreatDoorWide
import Derived.WalkKit
import Derived.ProofKit
import Derived.LaidEql
import Derived.Stop.Asserts
import Derived.RowKitTokens
import Derived.Below
import Derived.Deep.MidRow
namespace Go.Proofs.YtojdmcennpgndaaGreatDoor
open Go.ChangeShapes Go.WideShapes Go.ChangeAt Go.RowKit Go.Extern
set_option linter.unusedVariables false

def valueOfX : Array Value → Sem Value := fun args => ReflectliteValue.unpack (args.getD 0 (.tuple #[]))
def typeX : Array Value → Sem Value := ReflectliteValue.methodAny (ReflectliteValue.valueError "reflectlite.Value.Type" 0) fun t _ _ _ => ReflectliteType.toType t
def isNilX : Array Value → Sem Value := ReflectliteValue.method (ReflectliteValue.valueError "reflectlite.Value.IsNil" 0) ReflectliteValue.isNil
def velemX : Array Value → Sem Value := ReflectliteValue.method (ReflectliteValue.valueError "reflectlite.Value.Elem" 0) ReflectliteValue.elem
def kindX : Array Value → Sem Value := ReflectliteType.abiMethod fun t => do pure (.int .u8 (← Rtype.kind t))
def telemX : Array Value → Sem Value := ReflectliteType.method ReflectliteType.elem
def implX : Array Value → Sem Value := ReflectliteType.relation "Implements" ReflectliteType.implements_
def asgnX : Array Value → Sem Value := ReflectliteType.relation "AssignableTo" ReflectliteType.assignableTo

theorem xValueOf (v : Value) (w : World) : (valueOfX #[.iface 124 v]).run Tryz.prog w = .ok (.agg #[.pointer (some ⟨10, 124, none⟩), .pointer (some ⟨w.heap.size, 0, none⟩), .int .u64 150]) (w.alloc (.cells v.cells 124)) := by kernel_rfl
theorem xType (a : Addr) (w : World) : (typeX #[.agg #[.pointer (some ⟨10, 124, none⟩), .pointer (some a), .int .u64 150]]).run Tryz.prog w = .ok (.iface 107 (.agg #[.pointer (some ⟨10, 124, none⟩)])) w := by kernel_rfl
theorem mKind (h : Value) (w : World) : (Go.method 293 107 (.agg #[h]) "Kind").run Tryz.prog w = .ok (118, h) w := by kernel_rfl
theorem mElem (h : Value) (w : World) : (Go.method 293 107 (.agg #[h]) "Elem").run Tryz.prog w = .ok (128, .agg #[h]) w := by kernel_rfl
theorem mImpl (h : Value) (w : World) : (Go.method 293 107 (.agg #[h]) "Implements").run Tryz.prog w = .ok (129, .agg #[h]) w := by kernel_rfl
theorem mAsgn (h : Value) (w : World) : (Go.method 293 107 (.agg #[h]) "AssignableTo").run Tryz.prog w = .ok (126, .agg #[h]) w := by kernel_rfl
theorem xKind1 (w : World) : (kindX #[.pointer (some ⟨10, 124, none⟩)]).run Tryz.prog w = .ok (.int .u8 22) w := by kernel_rfl
theorem xKind2 (w : World) : (kindX #[.pointer (some ⟨10, 122, none⟩)]).run Tryz.prog w = .ok (.int .u8 22) w := by kernel_rfl
theorem xElem (w : World) : (telemX #[.agg #[.pointer (some ⟨10, 124, none⟩)]]).run Tryz.prog w = .ok (.iface 107 (.agg #[.pointer (some ⟨10, 122, none⟩)])) w := by kernel_rfl
theorem xImpl (rt : TypeId) (w : World) : (implX #[.agg #[.pointer (some ⟨10, 122, none⟩)], .iface rt (.agg #[.pointer (some ⟨10, 36, none⟩)])]).run Tryz.prog w = .ok (.bool true) w := by kernel_rfl
theorem xAsgn1 (rt : TypeId) (w : World) : (asgnX #[.agg #[.pointer (some ⟨10, 122, none⟩)], .iface rt (.agg #[.pointer (some ⟨10, 122, none⟩)])]).run Tryz.prog w = .ok (.bool true) w := by kernel_rfl
theorem xAsgn2 (rt : TypeId) (w : World) : (asgnX #[.agg #[.pointer (some ⟨10, 164, none⟩)], .iface rt (.agg #[.pointer (some ⟨10, 122, none⟩)])]).run Tryz.prog w = .ok (.bool false) w := by kernel_rfl
theorem xTypeOf1 (v : Value) (w : World) : (ReflectliteType.typeOf #[.iface 122 v]).run Tryz.prog w = .ok (.iface 107 (.agg #[.pointer (some ⟨10, 122, none⟩)])) w := by kernel_rfl
theorem xTypeOf2 (v : Value) (w : World) : (ReflectliteType.typeOf #[.iface 164 v]).run Tryz.prog w = .ok (.iface 107 (.agg #[.pointer (some ⟨10, 164, none⟩)])) w := by kernel_rfl
theorem noAsE (v : Value) (xT : TypeId) (w : World) : (Instr.typeAssert (.iface 164 v) xT 154 true).run Tryz.prog w = .ok (.tuple #[.nilIface, .bool false]) w := run_typeAssert_lacksB Tryz.underlying154 (by kernel_rfl) (by kernel_rfl) v xT w
theorem noUnE (v : Value) (xT : TypeId) (w : World) : (Instr.typeAssert (.iface 164 v) xT 112 true).run Tryz.prog w = .ok (.tuple #[.nilIface, .bool false]) w := run_typeAssert_lacksB Tryz.underlying112 (by kernel_rfl) (by kernel_rfl) v xT w
theorem noUnsE (v : Value) (xT : TypeId) (w : World) : (Instr.typeAssert (.iface 164 v) xT 114 true).run Tryz.prog w = .ok (.tuple #[.nilIface, .bool false]) w := run_typeAssert_lacksB Tryz.underlying114 (by kernel_rfl) (by kernel_rfl) v xT w

theorem as_nil (t : Value) (w : World) : Calls Tryz.prog 70 #[.nilIface, t] w fun e w' => e = .returned (.bool false) ∧ w' = w := by
  go_enter Tryz.func70, Tryz.ntmps70
  go_wp2
  go_ret
  exact ⟨rfl, rfl⟩

theorem parts1 (a : Addr) (w : World) : (ReflectliteValue.parts (.agg #[.pointer (some ⟨10, 124, none⟩), .pointer (some a), .int .u64 150])).run Tryz.prog w = .ok (some (124, a, 150)) w := by kernel_rfl
theorem parts2 (a : Addr) (w : World) : (ReflectliteValue.parts (.agg #[.pointer (some ⟨10, 122, none⟩), .pointer (some a), .int .u64 150])).run Tryz.prog w = .ok (some (122, a, 150)) w := by kernel_rfl
theorem parts3 (a : Addr) (w : World) : (ReflectliteValue.parts (.agg #[.pointer (some ⟨10, 122, none⟩), .pointer (some a), .int .u64 406])).run Tryz.prog w = .ok (some (122, a, 406)) w := by kernel_rfl
theorem agg1 (w : World) : (isAgg 124).run Tryz.prog w = .ok false w := by kernel_rfl
theorem agg2 (w : World) : (isAgg 122).run Tryz.prog w = .ok false w := by kernel_rfl
theorem elem1 (w : World) : (Rtype.elem? 124).run Tryz.prog w = .ok (some 122) w := by kernel_rfl
theorem mk1 (a : Addr) (w : World) : (ReflectliteValue.mk 122 a 256).run Tryz.prog w = .ok (.agg #[.pointer (some ⟨10, 122, none⟩), .pointer (some a), .int .u64 406]) w := by kernel_rfl
theorem dir1 (w : World) : (Rtype.directlyAssignable 122 122).run Tryz.prog w = .ok true w := by kernel_rfl
theorem sz1 : (Tryz.prog.info? 122).map (·.size) = some 1 := by kernel_rfl
theorem xValueOf1 (v : Value) (w : World) : (valueOfX #[.iface 122 v]).run Tryz.prog w = .ok (.agg #[.pointer (some ⟨10, 122, none⟩), .pointer (some ⟨w.heap.size, 0, none⟩), .int .u64 150]) (w.alloc (.cells v.cells 122)) := by kernel_rfl
theorem load_cell {t : TypeId} {a : Addr} {v : Value} {w : World} (hg : (isAgg t).run Tryz.prog w = .ok false w) (hc : w.cell? a = some v) : (loadVar t a).run Tryz.prog w = .ok v w := by
  simp [loadVar, hg, hc]
theorem xIsNil (a : Addr) (q : Addr) (w : World) (hc : w.cell? a = some (.pointer (some q))) : (isNilX #[.agg #[.pointer (some ⟨10, 124, none⟩), .pointer (some a), .int .u64 150]]).run Tryz.prog w = .ok (.bool false) w := by
  have e : isNilX #[.agg #[.pointer (some ⟨10, 124, none⟩), .pointer (some a), .int .u64 150]] = (ReflectliteValue.parts (.agg #[.pointer (some ⟨10, 124, none⟩), .pointer (some a), .int .u64 150]) >>= fun r => match r with | none => ReflectliteValue.valueError "reflectlite.Value.IsNil" 0 | some (t, a, fl) => ReflectliteValue.isNil t a fl (fl % 32)) := rfl
  rw [e, Sem.run_bind, parts1, Result.andThen_ok]
  simp [ReflectliteValue.isNil, load_cell (agg1 w) hc]
theorem xVelem (a q : Addr) (w : World) (hc : w.cell? a = some (.pointer (some q))) : (velemX #[.agg #[.pointer (some ⟨10, 124, none⟩), .pointer (some a), .int .u64 150]]).run Tryz.prog w = .ok (.agg #[.pointer (some ⟨10, 122, none⟩), .pointer (some q), .int .u64 406]) w := by
  have e : velemX #[.agg #[.pointer (some ⟨10, 124, none⟩), .pointer (some a), .int .u64 150]] = (ReflectliteValue.parts (.agg #[.pointer (some ⟨10, 124, none⟩), .pointer (some a), .int .u64 150]) >>= fun r => match r with | none => ReflectliteValue.valueError "reflectlite.Value.Elem" 0 | some (t, a, fl) => ReflectliteValue.elem t a fl (fl % 32)) := rfl
  rw [e, Sem.run_bind, parts1, Result.andThen_ok]
  simp [ReflectliteValue.elem, load_cell (agg1 w) hc, elem1, ReflectliteValue.flagAddr, mk1]
def setBody (v x : Value) : Sem Value := do
    let (some (dst, a, fl), some (src, b, _)) := (← ReflectliteValue.parts v, ← ReflectliteValue.parts x)
      | unsupported (.noEntry "extern/(internal/reflectlite.Value).Set.zeroValue")
    if fl / ReflectliteValue.flagAddr % 2 == 0 then unsupported (.noEntry "extern/(internal/reflectlite.Value).Set.unaddressable")
    let val ← loadVar src b
    if ← Rtype.directlyAssignable dst src then storeVar dst a val
    else if ← Rtype.implements dst src then
      if (← Rtype.kind src) == 20 then
        match val with
        | .nilIface => unsupported (.noEntry "extern/reflectlite: a nil value of one interface type handed on as a value of another")
        | _ => storeVar dst a val
      else storeVar dst a (.iface src val)
    else panicString ("reflectlite.Set: value of type " ++ (← Rtype.spelt src) ++ " is not assignable to type " ++ (← Rtype.spelt dst))
    pure (.tuple #[])
theorem xSet (vb : Nat) (b : Addr) (p o : Value) (w : World) (hp : p.oneCell' = true) (hpc : p.cells = #[p]) (hc : w.cell? b = some p) (hv : w.cell? ⟨vb, 0, none⟩ = some o) (hf : w.frozen? ⟨vb, 0, none⟩ = false) :
    (ReflectliteValue.set #[.agg #[.pointer (some ⟨10, 122, none⟩), .pointer (some ⟨vb, 0, none⟩), .int .u64 406], .agg #[.pointer (some ⟨10, 122, none⟩), .pointer (some b), .int .u64 150]]).run Tryz.prog w = .ok (.tuple #[]) (w.setCell ⟨vb, 0, none⟩ p) := by
  obtain ⟨j, hj, hjs⟩ := Option.map_eq_some_iff.1 sz1
  have e : ReflectliteValue.set #[.agg #[.pointer (some ⟨10, 122, none⟩), .pointer (some ⟨vb, 0, none⟩), .int .u64 406], .agg #[.pointer (some ⟨10, 122, none⟩), .pointer (some b), .int .u64 150]] = setBody (.agg #[.pointer (some ⟨10, 122, none⟩), .pointer (some ⟨vb, 0, none⟩), .int .u64 406]) (.agg #[.pointer (some ⟨10, 122, none⟩), .pointer (some b), .int .u64 150]) := rfl
  rw [e]
  have hs := run_storeCells_cells (P := Tryz.prog) vb 0 [p] 0 w (fun j hj' => by obtain rfl : j = 0 := (by simpa using hj'); simp [hv]) (fun j hj' => by obtain rfl : j = 0 := (by simpa using hj'); simpa using hf) (fun u hu => by rw [List.mem_singleton] at hu; subst hu; exact hp)
  simp only [Nat.add_zero] at hs
  have hy : p.cells.toList = [p] := by rw [hpc]
  have hsz : p.cells.size = j.size := by rw [hpc, hjs]; rfl
  have hsv : (storeVar 122 ⟨vb, 0, none⟩ p).run Tryz.prog w = .ok () (w.setCells vb 0 [p]) := by simp [storeVar, sizeOf, typeInfo, hj, hsz, hy, hs]
  simp [setBody, parts2, parts3, ReflectliteValue.flagAddr, load_cell (agg2 w) hc, dir1, hsv, World.setCells]

set_option maxRecDepth 100000 in
set_option maxHeartbeats 4000000 in
theorem as_beyond (a q : Addr) (w : World) (hET : w.cell? ⟨6, 0, none⟩ = some (.iface 107 (.agg #[.pointer (some ⟨10, 36, none⟩)]))) :
    Calls Tryz.prog 70 #[.iface 164 (.pointer (some a)), .iface 124 (.pointer (some q))] w fun e w' => e = .returned (.bool false) ∧ Below w.heap.size w w' := by
  have x73 := @run_callFunc_extern Tryz.prog 81 _ valueOfX Tryz.func81 (by kernel_rfl) (by kernel_rfl) (by kernel_rfl) (by kernel_rfl); have x74 := @run_callFunc_extern Tryz.prog 82 _ typeX Tryz.func82 (by kernel_rfl) (by kernel_rfl) (by kernel_rfl) (by kernel_rfl); have x75 := @run_callFunc_extern Tryz.prog 83 _ isNilX Tryz.func83 (by kernel_rfl) (by kernel_rfl) (by kernel_rfl) (by kernel_rfl); have x84 := @run_callFunc_extern Tryz.prog 94 _ velemX Tryz.func94 (by kernel_rfl) (by kernel_rfl) (by kernel_rfl) (by kernel_rfl); have x114 := @run_callFunc_extern Tryz.prog 118 _ kindX Tryz.func118 (by kernel_rfl) (by kernel_rfl) (by kernel_rfl) (by kernel_rfl); have x123 := @run_callFunc_extern Tryz.prog 128 _ telemX Tryz.func128 (by kernel_rfl) (by kernel_rfl) (by kernel_rfl) (by kernel_rfl); have x124 := @run_callFunc_extern Tryz.prog 129 _ implX Tryz.func129 (by kernel_rfl) (by kernel_rfl) (by kernel_rfl) (by kernel_rfl); have x121 := @run_callFunc_extern Tryz.prog 126 _ asgnX Tryz.func126 (by kernel_rfl) (by kernel_rfl) (by kernel_rfl) (by kernel_rfl); have x37 := @run_callFunc_extern Tryz.prog 51 _ ReflectliteType.typeOf Tryz.func51 (by kernel_rfl) (by kernel_rfl) (by kernel_rfl) (by kernel_rfl); have x85 := @run_callFunc_extern Tryz.prog 95 _ ReflectliteValue.set Tryz.func95 (by kernel_rfl) (by kernel_rfl) (by kernel_rfl) (by kernel_rfl); have f1 := xValueOf; have f2 := xType; have f3 := mKind; have f4 := mElem; have f5 := mImpl; have f6 := mAsgn; have f7 := xKind1; have f8 := xKind2; have f9 := xElem; have f10 := xImpl; have f11 := xAsgn1; have f12 := xAsgn2; have f13 := xTypeOf1; have f14 := xTypeOf2; have f15 := noAsE; have f16 := noUnE; have f17 := noUnsE; have f18 := xValueOf1; have f19 := xIsNil; have f20 := xVelem
  have lte : 6 < w.heap.size := World.block_lt_of_cell? _ ⟨6, 0, none⟩ hET
  have hn1 : ¬ 6 = w.heap.size := by omega
  have hn2 : ¬ 6 = w.heap.size + 1 := by omega
  go_enter Tryz.func70, Tryz.ntmps70
  go_wp2
  refine wp_loop_rounds 1 ?_
  rw [rounds_succ]
  go_wp2
  go_ret
  refine ⟨rfl, ?_⟩
  repeat (first | exact Below.refl _ _ | refine Below.drew ?_ | refine Below.setCell ?_ (by first | (simp; done) | (simp; omega)) _ | refine Below.alloc ?_ (by first | (simp; done) | (simp; omega)) _)

set_option maxRecDepth 100000 in
set_option maxHeartbeats 4000000 in
theorem as_form (a : Addr) (vb : Nat) (o : Value) (w : World) (hET : w.cell? ⟨6, 0, none⟩ = some (.iface 107 (.agg #[.pointer (some ⟨10, 36, none⟩)])))
    (hv : w.cell? ⟨vb, 0, none⟩ = some o) (hf : w.frozen? ⟨vb, 0, none⟩ = false) (hne : 6 ≠ vb) :
    Calls Tryz.prog 70 #[.iface 122 (.pointer (some a)), .iface 124 (.pointer (some ⟨vb, 0, none⟩))] w fun e w' => e = .returned (.bool true) ∧ ∀ B, B ≤ vb → B ≤ w.heap.size → Below B w w' := by
  have x73 := @run_callFunc_extern Tryz.prog 81 _ valueOfX Tryz.func81 (by kernel_rfl) (by kernel_rfl) (by kernel_rfl) (by kernel_rfl); have x74 := @run_callFunc_extern Tryz.prog 82 _ typeX Tryz.func82 (by kernel_rfl) (by kernel_rfl) (by kernel_rfl) (by kernel_rfl); have x75 := @run_callFunc_extern Tryz.prog 83 _ isNilX Tryz.func83 (by kernel_rfl) (by kernel_rfl) (by kernel_rfl) (by kernel_rfl); have x84 := @run_callFunc_extern Tryz.prog 94 _ velemX Tryz.func94 (by kernel_rfl) (by kernel_rfl) (by kernel_rfl) (by kernel_rfl); have x114 := @run_callFunc_extern Tryz.prog 118 _ kindX Tryz.func118 (by kernel_rfl) (by kernel_rfl) (by kernel_rfl) (by kernel_rfl); have x123 := @run_callFunc_extern Tryz.prog 128 _ telemX Tryz.func128 (by kernel_rfl) (by kernel_rfl) (by kernel_rfl) (by kernel_rfl); have x124 := @run_callFunc_extern Tryz.prog 129 _ implX Tryz.func129 (by kernel_rfl) (by kernel_rfl) (by kernel_rfl) (by kernel_rfl); have x121 := @run_callFunc_extern Tryz.prog 126 _ asgnX Tryz.func126 (by kernel_rfl) (by kernel_rfl) (by kernel_rfl) (by kernel_rfl); have x37 := @run_callFunc_extern Tryz.prog 51 _ ReflectliteType.typeOf Tryz.func51 (by kernel_rfl) (by kernel_rfl) (by kernel_rfl) (by kernel_rfl); have x85 := @run_callFunc_extern Tryz.prog 95 _ ReflectliteValue.set Tryz.func95 (by kernel_rfl) (by kernel_rfl) (by kernel_rfl) (by kernel_rfl); have f1 := xValueOf; have f2 := xType; have f3 := mKind; have f4 := mElem; have f5 := mImpl; have f6 := mAsgn; have f7 := xKind1; have f8 := xKind2; have f9 := xElem; have f10 := xImpl; have f11 := xAsgn1; have f12 := xAsgn2; have f13 := xTypeOf1; have f14 := xTypeOf2; have f15 := noAsE; have f16 := noUnE; have f17 := noUnsE; have f18 := xValueOf1; have f19 := xIsNil; have f20 := xVelem
  have lte : 6 < w.heap.size := World.block_lt_of_cell? _ ⟨6, 0, none⟩ hET
  have ltv : vb < w.heap.size := World.block_lt_of_cell? _ ⟨vb, 0, none⟩ hv
  have hn1 : ¬ 6 = w.heap.size := by omega
  have hn2 : ¬ 6 = w.heap.size + 1 := by omega
  have hn3 : ¬ vb = w.heap.size := by omega
  have hn4 : ¬ vb = w.heap.size + 1 := by omega
  have B3 : Below w.heap.size w (((w.alloc (.cells #[.pointer (some ⟨vb, 0, none⟩)] 124)).alloc (.cells #[.pointer (some ⟨10, 124, none⟩), .pointer (some ⟨w.heap.size, 0, none⟩), .int .u64 150] 136)).alloc (.cells #[.pointer (some ⟨10, 124, none⟩), .pointer (some ⟨w.heap.size, 0, none⟩), .int .u64 150] 136)) := (((Below.refl _ _).alloc (Nat.le_refl _) _).alloc (by simp) _).alloc (by simp; omega) _
  have B4 : Below w.heap.size w ((((w.alloc (.cells #[.pointer (some ⟨vb, 0, none⟩)] 124)).alloc (.cells #[.pointer (some ⟨10, 124, none⟩), .pointer (some ⟨w.heap.size, 0, none⟩), .int .u64 150] 136)).alloc (.cells #[.pointer (some ⟨10, 124, none⟩), .pointer (some ⟨w.heap.size, 0, none⟩), .int .u64 150] 136)).alloc (.cells #[.pointer (some a)] 122)) := B3.alloc (by simp; omega) _
  have B1 : Below (w.heap.size + 1) (w.alloc (.cells #[.pointer (some ⟨vb, 0, none⟩)] 124)) (((w.alloc (.cells #[.pointer (some ⟨vb, 0, none⟩)] 124)).alloc (.cells #[.pointer (some ⟨10, 124, none⟩), .pointer (some ⟨w.heap.size, 0, none⟩), .int .u64 150] 136)).alloc (.cells #[.pointer (some ⟨10, 124, none⟩), .pointer (some ⟨w.heap.size, 0, none⟩), .int .u64 150] 136)) := ((Below.refl _ _).alloc (by simp) _).alloc (by simp) _
  have q1 : ((((w.alloc (.cells #[.pointer (some ⟨vb, 0, none⟩)] 124)).alloc (.cells #[.pointer (some ⟨10, 124, none⟩), .pointer (some ⟨w.heap.size, 0, none⟩), .int .u64 150] 136)).alloc (.cells #[.pointer (some ⟨10, 124, none⟩), .pointer (some ⟨w.heap.size, 0, none⟩), .int .u64 150] 136))).cell? ⟨w.heap.size, 0, none⟩ = some (.pointer (some ⟨vb, 0, none⟩)) := (B1.cell (p := ⟨w.heap.size, 0, none⟩) (by simp)).trans (by simp)
  have q2 : (((((w.alloc (.cells #[.pointer (some ⟨vb, 0, none⟩)] 124)).alloc (.cells #[.pointer (some ⟨10, 124, none⟩), .pointer (some ⟨w.heap.size, 0, none⟩), .int .u64 150] 136)).alloc (.cells #[.pointer (some ⟨10, 124, none⟩), .pointer (some ⟨w.heap.size, 0, none⟩), .int .u64 150] 136)).alloc (.cells #[.pointer (some a)] 122))).cell? ⟨w.heap.size + 1 + 1 + 1, 0, none⟩ = some (.pointer (some a)) := (lies_cell (heap_at (((w.alloc (.cells #[.pointer (some ⟨vb, 0, none⟩)] 124)).alloc (.cells #[.pointer (some ⟨10, 124, none⟩), .pointer (some ⟨w.heap.size, 0, none⟩), .int .u64 150] 136)).alloc (.cells #[.pointer (some ⟨10, 124, none⟩), .pointer (some ⟨w.heap.size, 0, none⟩), .int .u64 150] 136)) (.cells #[.pointer (some a)] 122) (w.heap.size + 1 + 1 + 1) (by simp)) 0).trans rfl
  have f22 := xVelem ⟨w.heap.size, 0, none⟩ ⟨vb, 0, none⟩ (((w.alloc (.cells #[.pointer (some ⟨vb, 0, none⟩)] 124)).alloc (.cells #[.pointer (some ⟨10, 124, none⟩), .pointer (some ⟨w.heap.size, 0, none⟩), .int .u64 150] 136)).alloc (.cells #[.pointer (some ⟨10, 124, none⟩), .pointer (some ⟨w.heap.size, 0, none⟩), .int .u64 150] 136)) q1
  have f23 := xSet vb ⟨w.heap.size + 1 + 1 + 1, 0, none⟩ (.pointer (some a)) o ((((w.alloc (.cells #[.pointer (some ⟨vb, 0, none⟩)] 124)).alloc (.cells #[.pointer (some ⟨10, 124, none⟩), .pointer (some ⟨w.heap.size, 0, none⟩), .int .u64 150] 136)).alloc (.cells #[.pointer (some ⟨10, 124, none⟩), .pointer (some ⟨w.heap.size, 0, none⟩), .int .u64 150] 136)).alloc (.cells #[.pointer (some a)] 122)) rfl rfl q2 ((B4.cell (p := ⟨vb, 0, none⟩) ltv).trans hv) ((B4.frozen (p := ⟨vb, 0, none⟩) ltv).trans hf)
  clear f20 B1 q1 q2
  go_enter Tryz.func70, Tryz.ntmps70
  go_wp2
  refine wp_loop_rounds 1 ?_
  rw [rounds_succ]
  go_wp2
  go_ret
  refine ⟨rfl, fun B hB hB' => ?_⟩
  exact Below.setCell (B4.mono hB') hB _
end Go.Proofs.YtojdmcennpgndaaGreatDoor
