/-
  No cell of these rows narrows 'for every input' (looked for: loops, veiled, ifaces, maps, wideKeys, modest, calm, conditions, laid).
  DERIVED. THE GIVEN ROWS OF THIS SEAT. 4 by the template 'for every input the law returns true; each argument reads behind the call as it read before'; 0 by the template 'total and deterministic' (their statements: YtdomolphlkeipadTotals.lean).
  GIVEN WITH THE SEED: the statements are not yours to turn. If you find one false, say at which input.
  Laid BY PROGRAM, IN A SANDBOX (cutbox-rows.mjs): the forced cells as the released guide's own fill.sh prints them over the translation 8cf62015651cfd20… (all of the seat's roots in one cut). By AI agents, Wed Nov 11 2026. No macro, syntax, notation, axiom, sorry.
-/
import Derived.Test.YtdomolphlkeipadChecked
import GoSem.Claim
import GoSem.ClaimJoined
import GoSem.ClaimMapViews
import Derived.JoinedTies
import Derived.KernelRfl
namespace Go.Proofs.Ytdomolphlkeipad
/- THE CELL 'sum', in the pinned program and in every row, IS THE sha256 OF THE DUMP (.gsa) THAT YtdomolphlkeipadProg.lean LOADS. Nothing in Lean hashes anything: it is a label: what it is worth is what the hold of that sum in a sandbox is worth. -/
noncomputable def Try.pinned : Pinned := { name := "ytdomolphlkeipad", sum := "8cf62015651cfd20aa98d408ef57b15078ad3ae318c7d7888c1241390c36e832", checked := Try.checked }
namespace Rows
def none {H : Type} : Left H := { results := [], args := [] }

/-- 'laws.FnExactClampLength': WHATEVER THE INPUT: true; the input reads as it did. -/
def fnExactClampLengthSpec : ChangeSpec := { name := "fnExactClampLength", fn := fun _ => fun
  | [d1, d2, d3] => { results := [.lit (.bool true)], args := [d1, d2, d3] }
  | _ => none }
def fnExactClampLengthRow : OpenClaim := { program := "ytdomolphlkeipad", sum := "8cf62015651cfd20aa98d408ef57b15078ad3ae318c7d7888c1241390c36e832", func := "loop.example/g00164/laws.FnExactClampLength", spec := "fnExactClampLength", apart := false }
def FnExactClampLengthSaid : Prop := fnExactClampLengthRow.holds Try.pinned (OpenSpec.ofChange fnExactClampLengthSpec)

/-- ITS FALSE NEIGHBOUR: 'it returns false'. Refute it at one input. -/
def fnExactClampLengthWrong : ChangeSpec := { name := "fnExactClampLength", fn := fun _ => fun
  | [d1, d2, d3] => { results := [.lit (.bool false)], args := [d1, d2, d3] }
  | _ => none }
def FnExactClampLengthWrongFalsely : Prop := fnExactClampLengthRow.holds Try.pinned (OpenSpec.ofChange fnExactClampLengthWrong)

/-- 'laws.FnExactReadPixels': WHATEVER THE INPUT: true; the input reads as it did. -/
def fnExactReadPixelsSpec : ChangeSpec := { name := "fnExactReadPixels", fn := fun _ => fun
  | [d] => { results := [.lit (.bool true)], args := [d] }
  | _ => none }
def fnExactReadPixelsRow : OpenClaim := { program := "ytdomolphlkeipad", sum := "8cf62015651cfd20aa98d408ef57b15078ad3ae318c7d7888c1241390c36e832", func := "loop.example/g00164/laws.FnExactReadPixels", spec := "fnExactReadPixels", inPlace := ["internal/bytealg.IndexByteString", "internal/bytealg.IndexString"], named := ["internal/bytealg.MaxLen"], apart := false }
def FnExactReadPixelsSaid : Prop := fnExactReadPixelsRow.holds Try.pinned (OpenSpec.ofChange fnExactReadPixelsSpec)

/-- ITS FALSE NEIGHBOUR: 'it returns false'. Refute it at one input. -/
def fnExactReadPixelsWrong : ChangeSpec := { name := "fnExactReadPixels", fn := fun _ => fun
  | [d] => { results := [.lit (.bool false)], args := [d] }
  | _ => none }
def FnExactReadPixelsWrongFalsely : Prop := fnExactReadPixelsRow.holds Try.pinned (OpenSpec.ofChange fnExactReadPixelsWrong)

/-- 'laws.FnExactJoinMargins': WHATEVER THE INPUT: true; the input reads as it did. -/
def fnExactJoinMarginsSpec : ChangeSpec := { name := "fnExactJoinMargins", fn := fun _ => fun
  | [d] => { results := [.lit (.bool true)], args := [d] }
  | _ => none }
def fnExactJoinMarginsRow : OpenClaim := { program := "ytdomolphlkeipad", sum := "8cf62015651cfd20aa98d408ef57b15078ad3ae318c7d7888c1241390c36e832", func := "loop.example/g00164/laws.FnExactJoinMargins", spec := "fnExactJoinMargins", unfollowed := true, recurses := true, apart := false }
def FnExactJoinMarginsSaid : Prop := fnExactJoinMarginsRow.holds Try.pinned (OpenSpec.ofChange fnExactJoinMarginsSpec)

/-- ITS FALSE NEIGHBOUR: 'it returns false'. Refute it at one input. -/
def fnExactJoinMarginsWrong : ChangeSpec := { name := "fnExactJoinMargins", fn := fun _ => fun
  | [d] => { results := [.lit (.bool false)], args := [d] }
  | _ => none }
def FnExactJoinMarginsWrongFalsely : Prop := fnExactJoinMarginsRow.holds Try.pinned (OpenSpec.ofChange fnExactJoinMarginsWrong)

/-- 'laws.FnExactHalfOf': WHATEVER THE INPUT: true; the input reads as it did. -/
def fnExactHalfOfSpec : ChangeSpec := { name := "fnExactHalfOf", fn := fun _ => fun
  | [d] => { results := [.lit (.bool true)], args := [d] }
  | _ => none }
def fnExactHalfOfRow : OpenClaim := { program := "ytdomolphlkeipad", sum := "8cf62015651cfd20aa98d408ef57b15078ad3ae318c7d7888c1241390c36e832", func := "loop.example/g00164/laws.FnExactHalfOf", spec := "fnExactHalfOf", apart := false }
def FnExactHalfOfSaid : Prop := fnExactHalfOfRow.holds Try.pinned (OpenSpec.ofChange fnExactHalfOfSpec)

/-- ITS FALSE NEIGHBOUR: 'it returns false'. Refute it at one input. -/
def fnExactHalfOfWrong : ChangeSpec := { name := "fnExactHalfOf", fn := fun _ => fun
  | [d] => { results := [.lit (.bool false)], args := [d] }
  | _ => none }
def FnExactHalfOfWrongFalsely : Prop := fnExactHalfOfRow.holds Try.pinned (OpenSpec.ofChange fnExactHalfOfWrong)

/- THE SECOND FORM. 'bulk': how many values and letters a reading holds, each counted each time it is reached (what is shared counts as often as it is met; a slice's spare places count too). A statement '..UptoSaid' is the law's where the arguments, and the package variables that the reading takes, are together of bulk at most 1048576: NARROWER than '..Said'. Prove '..Said' where nothing that the law and all that it calls make is longer than what came in: it says more and counts as full. Else prove '..UptoSaid'. A law counts once. -/
mutual
def uptoBulk {H : Type} : DataW H → Nat
  | .lit (.string bytes) => bytes.length + 1
  | .lit _ => 1
  | .nil => 1
  | .ptr d => uptoBulk d + 1
  | .slice elems spare => uptoBulkAll elems + uptoBulkAll spare + 1
  | .agg parts => uptoBulkAll parts + 1
  | .iface _ d => uptoBulk d + 1
  | .map entries => uptoBulkEntries entries + 1
  | .held _ => 1
def uptoBulkAll {H : Type} : List (DataW H) → Nat
  | [] => 0
  | d :: r => uptoBulk d + uptoBulkAll r
def uptoBulkEntries {H : Type} : List (Lit × DataW H) → Nat
  | [] => 0
  | x :: r => uptoBulkEntry x + uptoBulkEntries r
def uptoBulkEntry {H : Type} : Lit × DataW H → Nat
  | (.string bytes, d) => bytes.length + uptoBulk d + 1
  | (_, d) => uptoBulk d + 1
 end
def uptoSmall : (H : Type) → List (DataW H) → Bool := fun _ ds => decide (uptoBulkAll ds ≤ 1048576)
def OpenSpec.upto (s : _root_.Go.ChangeSpec) : _root_.Go.OpenSpec := { _root_.Go.OpenSpec.ofChange s with cond := some uptoSmall }

/-- 'laws.FnExactClampLength', WHERE WHAT IT READS IS OF BULK AT MOST 1048576: true; the input reads as it did. -/
def fnExactClampLengthUptoRow : OpenClaim := { program := "ytdomolphlkeipad", sum := "8cf62015651cfd20aa98d408ef57b15078ad3ae318c7d7888c1241390c36e832", func := "loop.example/g00164/laws.FnExactClampLength", spec := "fnExactClampLength", apart := false, narrowed := true }
def FnExactClampLengthUptoSaid : Prop := fnExactClampLengthUptoRow.holds Try.pinned (OpenSpec.upto fnExactClampLengthSpec)

/-- 'laws.FnExactReadPixels', WHERE WHAT IT READS IS OF BULK AT MOST 1048576: true; the input reads as it did. -/
def fnExactReadPixelsUptoRow : OpenClaim := { program := "ytdomolphlkeipad", sum := "8cf62015651cfd20aa98d408ef57b15078ad3ae318c7d7888c1241390c36e832", func := "loop.example/g00164/laws.FnExactReadPixels", spec := "fnExactReadPixels", inPlace := ["internal/bytealg.IndexByteString", "internal/bytealg.IndexString"], named := ["internal/bytealg.MaxLen"], apart := false, narrowed := true }
def FnExactReadPixelsUptoSaid : Prop := fnExactReadPixelsUptoRow.holds Try.pinned (OpenSpec.upto fnExactReadPixelsSpec)

/-- 'laws.FnExactJoinMargins', WHERE WHAT IT READS IS OF BULK AT MOST 1048576: true; the input reads as it did. -/
def fnExactJoinMarginsUptoRow : OpenClaim := { program := "ytdomolphlkeipad", sum := "8cf62015651cfd20aa98d408ef57b15078ad3ae318c7d7888c1241390c36e832", func := "loop.example/g00164/laws.FnExactJoinMargins", spec := "fnExactJoinMargins", unfollowed := true, recurses := true, apart := false, narrowed := true }
def FnExactJoinMarginsUptoSaid : Prop := fnExactJoinMarginsUptoRow.holds Try.pinned (OpenSpec.upto fnExactJoinMarginsSpec)

/-- 'laws.FnExactHalfOf', WHERE WHAT IT READS IS OF BULK AT MOST 1048576: true; the input reads as it did. -/
def fnExactHalfOfUptoRow : OpenClaim := { program := "ytdomolphlkeipad", sum := "8cf62015651cfd20aa98d408ef57b15078ad3ae318c7d7888c1241390c36e832", func := "loop.example/g00164/laws.FnExactHalfOf", spec := "fnExactHalfOf", apart := false, narrowed := true }
def FnExactHalfOfUptoSaid : Prop := fnExactHalfOfUptoRow.holds Try.pinned (OpenSpec.upto fnExactHalfOfSpec)

end Rows
end Go.Proofs.Ytdomolphlkeipad
