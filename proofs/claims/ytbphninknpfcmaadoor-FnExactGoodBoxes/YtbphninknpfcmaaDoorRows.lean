/-
  NARROWER THAN 'FOR EVERY INPUT', by the rows' own cells (each row's printed sentence says how): FnExactBoxesOf: ifaces, laid · FnExactGoodBoxes: ifaces, laid · FnExactBlockAcross: ifaces, laid · FnExactFloatAcross: ifaces, laid · FnExactRestOf: ifaces, laid.
  DERIVED. THE GIVEN ROWS OF THIS SEAT. 5 by the template 'for every input the law returns true; each argument reads behind the call as it read before'; 0 by the template 'total and deterministic' (their statements: YtbphninknpfcmaaDoorTotals.lean).
  GIVEN WITH THE SEED: the statements are not yours to turn. If you find one false, say at which input.
  Laid BY PROGRAM, IN A SANDBOX (cutbox-rows.mjs): the forced cells as the released guide's own fill.sh prints them over the translation 2a10c3a73b165ab4… (all of the seat's roots in one cut). By AI agents, Wed Nov 11 2026. No macro, syntax, notation, axiom, sorry.
-/
import Derived.Test.YtbphninknpfcmaaDoorChecked
import GoSem.Claim
import GoSem.ClaimJoined
import GoSem.ClaimMapViews
import Derived.JoinedTies
import Derived.KernelRfl
namespace Go.Proofs.YtbphninknpfcmaaDoor
/- THE CELL 'sum', in the pinned program and in every row, IS THE sha256 OF THE DUMP (.gsa) THAT YtbphninknpfcmaaDoorProg.lean LOADS. Nothing in Lean hashes anything: it is a label: what it is worth is what the hold of that sum in a sandbox is worth. -/
noncomputable def Tryd.pinned : Pinned := { name := "ytbphninknpfcmaadoor", sum := "2a10c3a73b165ab4e0018d0ec2a97981b178330783710b2a9e01e0aa4bf808b7", checked := Tryd.checked }
namespace Rows
def none {H : Type} : Left H := { results := [], args := [] }

/- WHAT THE LISTED PACKAGE-LEVEL VARIABLES READ AS WHEN THE CALL BEGINS. Each datum BY PROGRAM (the guide's laid-datum.mjs) off the statement by which the dump's own 'gosem.cut.vars' lays the variable. In a bare row this is a premise. The card (YtbphninknpfcmaaDoorCards.lean) ties it to the program's text. -/
def laid_loop_example_g00164_impl_errBeyond {H : Type} : DataW H := .iface "*errors.errorString" (.ptr (.agg [.lit (.string [98, 101, 121, 111, 110, 100, 32, 119, 104, 97, 116, 32, 109, 97, 121, 32, 98, 101, 32, 115, 97, 105, 100])]))

/-- 'laws.FnExactBoxesOf': WHATEVER THE INPUT: true; the input reads as it did. -/
def fnExactBoxesOfSpec : ChangeSpec := { name := "fnExactBoxesOf", vars := ["loop.example/g00164/impl.errBeyond"], fn := fun _ => fun
  | [d, g1] => { results := [.lit (.bool true)], args := [d], vars := [g1] }
  | _ => none }
def fnExactBoxesOfRow : OpenClaim := { program := "ytbphninknpfcmaadoor", sum := "2a10c3a73b165ab4e0018d0ec2a97981b178330783710b2a9e01e0aa4bf808b7", func := "loop.example/g00164/laws.FnExactBoxesOf", spec := "fnExactBoxesOf", inPlace := ["internal/bytealg.IndexByteString"], recurses := true, named := ["loop.example/g00164/impl.errBeyond"], ifaces := true, apart := false, laid := [("loop.example/g00164/impl.errBeyond", laid_loop_example_g00164_impl_errBeyond)] }
def FnExactBoxesOfSaid : Prop := fnExactBoxesOfRow.holds Tryd.pinned (OpenSpec.ofChange fnExactBoxesOfSpec)

/-- ITS FALSE NEIGHBOUR: 'it returns false'. Refute it at one input. -/
def fnExactBoxesOfWrong : ChangeSpec := { name := "fnExactBoxesOf", vars := ["loop.example/g00164/impl.errBeyond"], fn := fun _ => fun
  | [d, g1] => { results := [.lit (.bool false)], args := [d], vars := [g1] }
  | _ => none }
def FnExactBoxesOfWrongFalsely : Prop := fnExactBoxesOfRow.holds Tryd.pinned (OpenSpec.ofChange fnExactBoxesOfWrong)

/-- 'laws.FnExactGoodBoxes': WHATEVER THE INPUT: true; the input reads as it did. -/
def fnExactGoodBoxesSpec : ChangeSpec := { name := "fnExactGoodBoxes", vars := ["loop.example/g00164/impl.errBeyond"], fn := fun _ => fun
  | [d1, d2, g1] => { results := [.lit (.bool true)], args := [d1, d2], vars := [g1] }
  | _ => none }
def fnExactGoodBoxesRow : OpenClaim := { program := "ytbphninknpfcmaadoor", sum := "2a10c3a73b165ab4e0018d0ec2a97981b178330783710b2a9e01e0aa4bf808b7", func := "loop.example/g00164/laws.FnExactGoodBoxes", spec := "fnExactGoodBoxes", inPlace := ["internal/bytealg.IndexByteString"], recurses := true, named := ["loop.example/g00164/impl.errBeyond"], ifaces := true, apart := false, laid := [("loop.example/g00164/impl.errBeyond", laid_loop_example_g00164_impl_errBeyond)] }
def FnExactGoodBoxesSaid : Prop := fnExactGoodBoxesRow.holds Tryd.pinned (OpenSpec.ofChange fnExactGoodBoxesSpec)

/-- ITS FALSE NEIGHBOUR: 'it returns false'. Refute it at one input. -/
def fnExactGoodBoxesWrong : ChangeSpec := { name := "fnExactGoodBoxes", vars := ["loop.example/g00164/impl.errBeyond"], fn := fun _ => fun
  | [d1, d2, g1] => { results := [.lit (.bool false)], args := [d1, d2], vars := [g1] }
  | _ => none }
def FnExactGoodBoxesWrongFalsely : Prop := fnExactGoodBoxesRow.holds Tryd.pinned (OpenSpec.ofChange fnExactGoodBoxesWrong)

/-- 'laws.FnExactBlockAcross': WHATEVER THE INPUT: true; the input reads as it did. -/
def fnExactBlockAcrossSpec : ChangeSpec := { name := "fnExactBlockAcross", vars := ["loop.example/g00164/impl.errBeyond"], fn := fun _ => fun
  | [d1, d2, g1] => { results := [.lit (.bool true)], args := [d1, d2], vars := [g1] }
  | _ => none }
def fnExactBlockAcrossRow : OpenClaim := { program := "ytbphninknpfcmaadoor", sum := "2a10c3a73b165ab4e0018d0ec2a97981b178330783710b2a9e01e0aa4bf808b7", func := "loop.example/g00164/laws.FnExactBlockAcross", spec := "fnExactBlockAcross", named := ["loop.example/g00164/impl.errBeyond"], ifaces := true, apart := false, laid := [("loop.example/g00164/impl.errBeyond", laid_loop_example_g00164_impl_errBeyond)] }
def FnExactBlockAcrossSaid : Prop := fnExactBlockAcrossRow.holds Tryd.pinned (OpenSpec.ofChange fnExactBlockAcrossSpec)

/-- ITS FALSE NEIGHBOUR: 'it returns false'. Refute it at one input. -/
def fnExactBlockAcrossWrong : ChangeSpec := { name := "fnExactBlockAcross", vars := ["loop.example/g00164/impl.errBeyond"], fn := fun _ => fun
  | [d1, d2, g1] => { results := [.lit (.bool false)], args := [d1, d2], vars := [g1] }
  | _ => none }
def FnExactBlockAcrossWrongFalsely : Prop := fnExactBlockAcrossRow.holds Tryd.pinned (OpenSpec.ofChange fnExactBlockAcrossWrong)

/-- 'laws.FnExactFloatAcross': WHATEVER THE INPUT: true; the input reads as it did. -/
def fnExactFloatAcrossSpec : ChangeSpec := { name := "fnExactFloatAcross", vars := ["loop.example/g00164/impl.errBeyond"], fn := fun _ => fun
  | [d1, d2, d3, d4, g1] => { results := [.lit (.bool true)], args := [d1, d2, d3, d4], vars := [g1] }
  | _ => none }
def fnExactFloatAcrossRow : OpenClaim := { program := "ytbphninknpfcmaadoor", sum := "2a10c3a73b165ab4e0018d0ec2a97981b178330783710b2a9e01e0aa4bf808b7", func := "loop.example/g00164/laws.FnExactFloatAcross", spec := "fnExactFloatAcross", named := ["loop.example/g00164/impl.errBeyond"], ifaces := true, apart := false, laid := [("loop.example/g00164/impl.errBeyond", laid_loop_example_g00164_impl_errBeyond)] }
def FnExactFloatAcrossSaid : Prop := fnExactFloatAcrossRow.holds Tryd.pinned (OpenSpec.ofChange fnExactFloatAcrossSpec)

/-- ITS FALSE NEIGHBOUR: 'it returns false'. Refute it at one input. -/
def fnExactFloatAcrossWrong : ChangeSpec := { name := "fnExactFloatAcross", vars := ["loop.example/g00164/impl.errBeyond"], fn := fun _ => fun
  | [d1, d2, d3, d4, g1] => { results := [.lit (.bool false)], args := [d1, d2, d3, d4], vars := [g1] }
  | _ => none }
def FnExactFloatAcrossWrongFalsely : Prop := fnExactFloatAcrossRow.holds Tryd.pinned (OpenSpec.ofChange fnExactFloatAcrossWrong)

/-- 'laws.FnExactRestOf': WHATEVER THE INPUT: true; the input reads as it did. -/
def fnExactRestOfSpec : ChangeSpec := { name := "fnExactRestOf", vars := ["loop.example/g00164/impl.errBeyond"], fn := fun _ => fun
  | [d1, d2, d3, g1] => { results := [.lit (.bool true)], args := [d1, d2, d3], vars := [g1] }
  | _ => none }
def fnExactRestOfRow : OpenClaim := { program := "ytbphninknpfcmaadoor", sum := "2a10c3a73b165ab4e0018d0ec2a97981b178330783710b2a9e01e0aa4bf808b7", func := "loop.example/g00164/laws.FnExactRestOf", spec := "fnExactRestOf", named := ["loop.example/g00164/impl.errBeyond"], ifaces := true, apart := false, laid := [("loop.example/g00164/impl.errBeyond", laid_loop_example_g00164_impl_errBeyond)] }
def FnExactRestOfSaid : Prop := fnExactRestOfRow.holds Tryd.pinned (OpenSpec.ofChange fnExactRestOfSpec)

/-- ITS FALSE NEIGHBOUR: 'it returns false'. Refute it at one input. -/
def fnExactRestOfWrong : ChangeSpec := { name := "fnExactRestOf", vars := ["loop.example/g00164/impl.errBeyond"], fn := fun _ => fun
  | [d1, d2, d3, g1] => { results := [.lit (.bool false)], args := [d1, d2, d3], vars := [g1] }
  | _ => none }
def FnExactRestOfWrongFalsely : Prop := fnExactRestOfRow.holds Tryd.pinned (OpenSpec.ofChange fnExactRestOfWrong)

/- THE SECOND FORM. 'bulk': how many values and letters a reading holds, each counted each time it is reached (what is shared counts as often as it is met; a slice's spare places count too). A statement '..UptoSaid' is the law's where the arguments, and the package variables that the reading takes, are together of bulk at most 1048576: NARROWER than '..Said'. Prove '..Said' where nothing that the law and all that it calls make is longer than what came in: it says more and counts as full. Else prove '..UptoSaid'. A law counts once. -/
mutual
def uptoBulk {H : Type} : DataW H → Nat
  | .lit (.string bytes) => bytes.length + 1
  | .lit _ => 1
  | .nil => 1
  | .ptr d => uptoBulk d + 1
  | .slice elems spare => uptoBulkAll elems + uptoBulkAll spare + 1
  | .agg parts => uptoBulkAll parts + 1
  | .iface _ d => uptoBulk d + 1
  | .map entries => uptoBulkEntries entries + 1
  | .held _ => 1
def uptoBulkAll {H : Type} : List (DataW H) → Nat
  | [] => 0
  | d :: r => uptoBulk d + uptoBulkAll r
def uptoBulkEntries {H : Type} : List (Lit × DataW H) → Nat
  | [] => 0
  | x :: r => uptoBulkEntry x + uptoBulkEntries r
def uptoBulkEntry {H : Type} : Lit × DataW H → Nat
  | (.string bytes, d) => bytes.length + uptoBulk d + 1
  | (_, d) => uptoBulk d + 1
 end
def uptoSmall : (H : Type) → List (DataW H) → Bool := fun _ ds => decide (uptoBulkAll ds ≤ 1048576)
def OpenSpec.upto (s : _root_.Go.ChangeSpec) : _root_.Go.OpenSpec := { _root_.Go.OpenSpec.ofChange s with cond := some uptoSmall }

/-- 'laws.FnExactBoxesOf', WHERE WHAT IT READS IS OF BULK AT MOST 1048576: true; the input reads as it did. -/
def fnExactBoxesOfUptoRow : OpenClaim := { program := "ytbphninknpfcmaadoor", sum := "2a10c3a73b165ab4e0018d0ec2a97981b178330783710b2a9e01e0aa4bf808b7", func := "loop.example/g00164/laws.FnExactBoxesOf", spec := "fnExactBoxesOf", inPlace := ["internal/bytealg.IndexByteString"], recurses := true, named := ["loop.example/g00164/impl.errBeyond"], ifaces := true, apart := false, laid := [("loop.example/g00164/impl.errBeyond", laid_loop_example_g00164_impl_errBeyond)], narrowed := true }
def FnExactBoxesOfUptoSaid : Prop := fnExactBoxesOfUptoRow.holds Tryd.pinned (OpenSpec.upto fnExactBoxesOfSpec)

/-- 'laws.FnExactGoodBoxes', WHERE WHAT IT READS IS OF BULK AT MOST 1048576: true; the input reads as it did. -/
def fnExactGoodBoxesUptoRow : OpenClaim := { program := "ytbphninknpfcmaadoor", sum := "2a10c3a73b165ab4e0018d0ec2a97981b178330783710b2a9e01e0aa4bf808b7", func := "loop.example/g00164/laws.FnExactGoodBoxes", spec := "fnExactGoodBoxes", inPlace := ["internal/bytealg.IndexByteString"], recurses := true, named := ["loop.example/g00164/impl.errBeyond"], ifaces := true, apart := false, laid := [("loop.example/g00164/impl.errBeyond", laid_loop_example_g00164_impl_errBeyond)], narrowed := true }
def FnExactGoodBoxesUptoSaid : Prop := fnExactGoodBoxesUptoRow.holds Tryd.pinned (OpenSpec.upto fnExactGoodBoxesSpec)

/-- 'laws.FnExactBlockAcross', WHERE WHAT IT READS IS OF BULK AT MOST 1048576: true; the input reads as it did. -/
def fnExactBlockAcrossUptoRow : OpenClaim := { program := "ytbphninknpfcmaadoor", sum := "2a10c3a73b165ab4e0018d0ec2a97981b178330783710b2a9e01e0aa4bf808b7", func := "loop.example/g00164/laws.FnExactBlockAcross", spec := "fnExactBlockAcross", named := ["loop.example/g00164/impl.errBeyond"], ifaces := true, apart := false, laid := [("loop.example/g00164/impl.errBeyond", laid_loop_example_g00164_impl_errBeyond)], narrowed := true }
def FnExactBlockAcrossUptoSaid : Prop := fnExactBlockAcrossUptoRow.holds Tryd.pinned (OpenSpec.upto fnExactBlockAcrossSpec)

/-- 'laws.FnExactFloatAcross', WHERE WHAT IT READS IS OF BULK AT MOST 1048576: true; the input reads as it did. -/
def fnExactFloatAcrossUptoRow : OpenClaim := { program := "ytbphninknpfcmaadoor", sum := "2a10c3a73b165ab4e0018d0ec2a97981b178330783710b2a9e01e0aa4bf808b7", func := "loop.example/g00164/laws.FnExactFloatAcross", spec := "fnExactFloatAcross", named := ["loop.example/g00164/impl.errBeyond"], ifaces := true, apart := false, laid := [("loop.example/g00164/impl.errBeyond", laid_loop_example_g00164_impl_errBeyond)], narrowed := true }
def FnExactFloatAcrossUptoSaid : Prop := fnExactFloatAcrossUptoRow.holds Tryd.pinned (OpenSpec.upto fnExactFloatAcrossSpec)

/-- 'laws.FnExactRestOf', WHERE WHAT IT READS IS OF BULK AT MOST 1048576: true; the input reads as it did. -/
def fnExactRestOfUptoRow : OpenClaim := { program := "ytbphninknpfcmaadoor", sum := "2a10c3a73b165ab4e0018d0ec2a97981b178330783710b2a9e01e0aa4bf808b7", func := "loop.example/g00164/laws.FnExactRestOf", spec := "fnExactRestOf", named := ["loop.example/g00164/impl.errBeyond"], ifaces := true, apart := false, laid := [("loop.example/g00164/impl.errBeyond", laid_loop_example_g00164_impl_errBeyond)], narrowed := true }
def FnExactRestOfUptoSaid : Prop := fnExactRestOfUptoRow.holds Tryd.pinned (OpenSpec.upto fnExactRestOfSpec)

end Rows
end Go.Proofs.YtbphninknpfcmaaDoor
