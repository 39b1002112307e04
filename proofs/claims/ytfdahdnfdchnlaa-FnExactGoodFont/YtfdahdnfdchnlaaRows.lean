/-
  No cell of these rows narrows 'for every input' (looked for: loops, veiled, ifaces, maps, wideKeys, modest, calm, conditions, laid).
  DERIVED. THE GIVEN ROWS OF THIS SEAT. 2 by the template 'for every input the law returns true; each argument reads behind the call as it read before'; 0 by the template 'total and deterministic' (their statements: YtfdahdnfdchnlaaTotals.lean).
  GIVEN WITH THE SEED: the statements are not yours to turn. If you find one false, say at which input.
  Laid BY PROGRAM, IN A SANDBOX (cutbox-rows.mjs): the forced cells as the released guide's own fill.sh prints them over the translation 4c62eb9fd0e16d5f… (all of the seat's roots in one cut). By AI agents, Wed Nov 11 2026. No macro, syntax, notation, axiom, sorry.
-/
import Derived.Test.YtfdahdnfdchnlaaChecked
import GoSem.Claim
import GoSem.ClaimJoined
import GoSem.ClaimMapViews
import Derived.JoinedTies
import Derived.KernelRfl
namespace Go.Proofs.Ytfdahdnfdchnlaa
/- THE CELL 'sum', in the pinned program and in every row, IS THE sha256 OF THE DUMP (.gsa) THAT YtfdahdnfdchnlaaProg.lean LOADS. Nothing in Lean hashes anything: it is a label: what it is worth is what the hold of that sum in a sandbox is worth. -/
noncomputable def Try.pinned : Pinned := { name := "ytfdahdnfdchnlaa", sum := "4c62eb9fd0e16d5f72bc000f78848f7acd8bfd240fc78aab81e62f8deacbff9a", checked := Try.checked }
namespace Rows
def none {H : Type} : Left H := { results := [], args := [] }

/-- 'laws.FnExactGoodFont': WHATEVER THE INPUT: true; the input reads as it did. -/
def fnExactGoodFontSpec : ChangeSpec := { name := "fnExactGoodFont", fn := fun _ => fun
  | [d] => { results := [.lit (.bool true)], args := [d] }
  | _ => none }
def fnExactGoodFontRow : OpenClaim := { program := "ytfdahdnfdchnlaa", sum := "4c62eb9fd0e16d5f72bc000f78848f7acd8bfd240fc78aab81e62f8deacbff9a", func := "loop.example/g00164/laws.FnExactGoodFont", spec := "fnExactGoodFont", apart := false }
def FnExactGoodFontSaid : Prop := fnExactGoodFontRow.holds Try.pinned (OpenSpec.ofChange fnExactGoodFontSpec)

/-- ITS FALSE NEIGHBOUR: 'it returns false'. Refute it at one input. -/
def fnExactGoodFontWrong : ChangeSpec := { name := "fnExactGoodFont", fn := fun _ => fun
  | [d] => { results := [.lit (.bool false)], args := [d] }
  | _ => none }
def FnExactGoodFontWrongFalsely : Prop := fnExactGoodFontRow.holds Try.pinned (OpenSpec.ofChange fnExactGoodFontWrong)

/-- 'laws.FnExactLineParts': WHATEVER THE INPUT: true; the input reads as it did. -/
def fnExactLinePartsSpec : ChangeSpec := { name := "fnExactLineParts", fn := fun _ => fun
  | [d1, d2] => { results := [.lit (.bool true)], args := [d1, d2] }
  | _ => none }
def fnExactLinePartsRow : OpenClaim := { program := "ytfdahdnfdchnlaa", sum := "4c62eb9fd0e16d5f72bc000f78848f7acd8bfd240fc78aab81e62f8deacbff9a", func := "loop.example/g00164/laws.FnExactLineParts", spec := "fnExactLineParts", apart := false }
def FnExactLinePartsSaid : Prop := fnExactLinePartsRow.holds Try.pinned (OpenSpec.ofChange fnExactLinePartsSpec)

/-- ITS FALSE NEIGHBOUR: 'it returns false'. Refute it at one input. -/
def fnExactLinePartsWrong : ChangeSpec := { name := "fnExactLineParts", fn := fun _ => fun
  | [d1, d2] => { results := [.lit (.bool false)], args := [d1, d2] }
  | _ => none }
def FnExactLinePartsWrongFalsely : Prop := fnExactLinePartsRow.holds Try.pinned (OpenSpec.ofChange fnExactLinePartsWrong)

/- THE SECOND FORM. 'bulk': how many values and letters a reading holds, each counted each time it is reached (what is shared counts as often as it is met; a slice's spare places count too). A statement '..UptoSaid' is the law's where the arguments, and the package variables that the reading takes, are together of bulk at most 1048576: NARROWER than '..Said'. Prove '..Said' where nothing that the law and all that it calls make is longer than what came in: it says more and counts as full. Else prove '..UptoSaid'. A law counts once. -/
mutual
def uptoBulk {H : Type} : DataW H → Nat
  | .lit (.string bytes) => bytes.length + 1
  | .lit _ => 1
  | .nil => 1
  | .ptr d => uptoBulk d + 1
  | .slice elems spare => uptoBulkAll elems + uptoBulkAll spare + 1
  | .agg parts => uptoBulkAll parts + 1
  | .iface _ d => uptoBulk d + 1
  | .map entries => uptoBulkEntries entries + 1
  | .held _ => 1
def uptoBulkAll {H : Type} : List (DataW H) → Nat
  | [] => 0
  | d :: r => uptoBulk d + uptoBulkAll r
def uptoBulkEntries {H : Type} : List (Lit × DataW H) → Nat
  | [] => 0
  | x :: r => uptoBulkEntry x + uptoBulkEntries r
def uptoBulkEntry {H : Type} : Lit × DataW H → Nat
  | (.string bytes, d) => bytes.length + uptoBulk d + 1
  | (_, d) => uptoBulk d + 1
 end
def uptoSmall : (H : Type) → List (DataW H) → Bool := fun _ ds => decide (uptoBulkAll ds ≤ 1048576)
def OpenSpec.upto (s : _root_.Go.ChangeSpec) : _root_.Go.OpenSpec := { _root_.Go.OpenSpec.ofChange s with cond := some uptoSmall }

/-- 'laws.FnExactGoodFont', WHERE WHAT IT READS IS OF BULK AT MOST 1048576: true; the input reads as it did. -/
def fnExactGoodFontUptoRow : OpenClaim := { program := "ytfdahdnfdchnlaa", sum := "4c62eb9fd0e16d5f72bc000f78848f7acd8bfd240fc78aab81e62f8deacbff9a", func := "loop.example/g00164/laws.FnExactGoodFont", spec := "fnExactGoodFont", apart := false, narrowed := true }
def FnExactGoodFontUptoSaid : Prop := fnExactGoodFontUptoRow.holds Try.pinned (OpenSpec.upto fnExactGoodFontSpec)

/-- 'laws.FnExactLineParts', WHERE WHAT IT READS IS OF BULK AT MOST 1048576: true; the input reads as it did. -/
def fnExactLinePartsUptoRow : OpenClaim := { program := "ytfdahdnfdchnlaa", sum := "4c62eb9fd0e16d5f72bc000f78848f7acd8bfd240fc78aab81e62f8deacbff9a", func := "loop.example/g00164/laws.FnExactLineParts", spec := "fnExactLineParts", apart := false, narrowed := true }
def FnExactLinePartsUptoSaid : Prop := fnExactLinePartsUptoRow.holds Try.pinned (OpenSpec.upto fnExactLinePartsSpec)

end Rows
end Go.Proofs.Ytfdahdnfdchnlaa
