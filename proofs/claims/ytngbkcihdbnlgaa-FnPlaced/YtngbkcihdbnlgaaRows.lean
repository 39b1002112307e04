/-
  No cell of these rows narrows 'for every input' (looked for: loops, veiled, ifaces, maps, wideKeys, modest, calm, conditions, laid).
  DERIVED. THE GIVEN ROWS OF THIS SEAT. 6 by the template 'for every input the law returns true; each argument reads behind the call as it read before'; 0 by the template 'total and deterministic' (their statements: YtngbkcihdbnlgaaTotals.lean).
  GIVEN WITH THE SEED: the statements are not yours to turn. If you find one false, say at which input.
  Laid BY PROGRAM, IN A SANDBOX (cutbox-rows.mjs): the forced cells as the released guide's own fill.sh prints them over the translation 4065d0f6a63978f1… (all of the seat's roots in one cut). By AI agents, Wed Nov 11 2026. No macro, syntax, notation, axiom, sorry.
-/
import Derived.Test.YtngbkcihdbnlgaaChecked
import GoSem.Claim
import GoSem.ClaimJoined
import GoSem.ClaimMapViews
import Derived.JoinedTies
import Derived.KernelRfl
namespace Go.Proofs.Ytngbkcihdbnlgaa
/- THE CELL 'sum', in the pinned program and in every row, IS THE sha256 OF THE DUMP (.gsa) THAT YtngbkcihdbnlgaaProg.lean LOADS. Nothing in Lean hashes anything: it is a label: what it is worth is what the hold of that sum in a sandbox is worth. -/
noncomputable def Try.pinned : Pinned := { name := "ytngbkcihdbnlgaa", sum := "4065d0f6a63978f1d919a17f1f61dc2c042527cdda76f73cd2d1d6fa4ddfae91", checked := Try.checked }
namespace Rows
def none {H : Type} : Left H := { results := [], args := [] }

/-- 'laws.FnPlaced': WHATEVER THE INPUT: true; the input reads as it did. -/
def fnPlacedSpec : ChangeSpec := { name := "fnPlaced", fn := fun _ => fun
  | [d] => { results := [.lit (.bool true)], args := [d] }
  | _ => none }
def fnPlacedRow : OpenClaim := { program := "ytngbkcihdbnlgaa", sum := "4065d0f6a63978f1d919a17f1f61dc2c042527cdda76f73cd2d1d6fa4ddfae91", func := "loop.example/g00164/laws.FnPlaced", spec := "fnPlaced", unfollowed := true, recurses := true, apart := false }
def FnPlacedSaid : Prop := fnPlacedRow.holds Try.pinned (OpenSpec.ofChange fnPlacedSpec)

/-- ITS FALSE NEIGHBOUR: 'it returns false'. Refute it at one input. -/
def fnPlacedWrong : ChangeSpec := { name := "fnPlaced", fn := fun _ => fun
  | [d] => { results := [.lit (.bool false)], args := [d] }
  | _ => none }
def FnPlacedWrongFalsely : Prop := fnPlacedRow.holds Try.pinned (OpenSpec.ofChange fnPlacedWrong)

/-- 'laws.FnExactGoodFloats': WHATEVER THE INPUT: true; the input reads as it did. -/
def fnExactGoodFloatsSpec : ChangeSpec := { name := "fnExactGoodFloats", fn := fun _ => fun
  | [d] => { results := [.lit (.bool true)], args := [d] }
  | _ => none }
def fnExactGoodFloatsRow : OpenClaim := { program := "ytngbkcihdbnlgaa", sum := "4065d0f6a63978f1d919a17f1f61dc2c042527cdda76f73cd2d1d6fa4ddfae91", func := "loop.example/g00164/laws.FnExactGoodFloats", spec := "fnExactGoodFloats", apart := false }
def FnExactGoodFloatsSaid : Prop := fnExactGoodFloatsRow.holds Try.pinned (OpenSpec.ofChange fnExactGoodFloatsSpec)

/-- ITS FALSE NEIGHBOUR: 'it returns false'. Refute it at one input. -/
def fnExactGoodFloatsWrong : ChangeSpec := { name := "fnExactGoodFloats", fn := fun _ => fun
  | [d] => { results := [.lit (.bool false)], args := [d] }
  | _ => none }
def FnExactGoodFloatsWrongFalsely : Prop := fnExactGoodFloatsRow.holds Try.pinned (OpenSpec.ofChange fnExactGoodFloatsWrong)

/-- 'laws.FnExactRoomAt': WHATEVER THE INPUT: true; the input reads as it did. -/
def fnExactRoomAtSpec : ChangeSpec := { name := "fnExactRoomAt", fn := fun _ => fun
  | [d1, d2, d3, d4, d5] => { results := [.lit (.bool true)], args := [d1, d2, d3, d4, d5] }
  | _ => none }
def fnExactRoomAtRow : OpenClaim := { program := "ytngbkcihdbnlgaa", sum := "4065d0f6a63978f1d919a17f1f61dc2c042527cdda76f73cd2d1d6fa4ddfae91", func := "loop.example/g00164/laws.FnExactRoomAt", spec := "fnExactRoomAt", unfollowed := true, recurses := true, apart := false }
def FnExactRoomAtSaid : Prop := fnExactRoomAtRow.holds Try.pinned (OpenSpec.ofChange fnExactRoomAtSpec)

/-- ITS FALSE NEIGHBOUR: 'it returns false'. Refute it at one input. -/
def fnExactRoomAtWrong : ChangeSpec := { name := "fnExactRoomAt", fn := fun _ => fun
  | [d1, d2, d3, d4, d5] => { results := [.lit (.bool false)], args := [d1, d2, d3, d4, d5] }
  | _ => none }
def FnExactRoomAtWrongFalsely : Prop := fnExactRoomAtRow.holds Try.pinned (OpenSpec.ofChange fnExactRoomAtWrong)

/-- 'laws.FnExactAnyAt': WHATEVER THE INPUT: true; the input reads as it did. -/
def fnExactAnyAtSpec : ChangeSpec := { name := "fnExactAnyAt", fn := fun _ => fun
  | [d1, d2, d3] => { results := [.lit (.bool true)], args := [d1, d2, d3] }
  | _ => none }
def fnExactAnyAtRow : OpenClaim := { program := "ytngbkcihdbnlgaa", sum := "4065d0f6a63978f1d919a17f1f61dc2c042527cdda76f73cd2d1d6fa4ddfae91", func := "loop.example/g00164/laws.FnExactAnyAt", spec := "fnExactAnyAt", unfollowed := true, recurses := true, apart := false }
def FnExactAnyAtSaid : Prop := fnExactAnyAtRow.holds Try.pinned (OpenSpec.ofChange fnExactAnyAtSpec)

/-- ITS FALSE NEIGHBOUR: 'it returns false'. Refute it at one input. -/
def fnExactAnyAtWrong : ChangeSpec := { name := "fnExactAnyAt", fn := fun _ => fun
  | [d1, d2, d3] => { results := [.lit (.bool false)], args := [d1, d2, d3] }
  | _ => none }
def FnExactAnyAtWrongFalsely : Prop := fnExactAnyAtRow.holds Try.pinned (OpenSpec.ofChange fnExactAnyAtWrong)

/-- 'laws.FnExactNextBottom': WHATEVER THE INPUT: true; the input reads as it did. -/
def fnExactNextBottomSpec : ChangeSpec := { name := "fnExactNextBottom", fn := fun _ => fun
  | [d1, d2] => { results := [.lit (.bool true)], args := [d1, d2] }
  | _ => none }
def fnExactNextBottomRow : OpenClaim := { program := "ytngbkcihdbnlgaa", sum := "4065d0f6a63978f1d919a17f1f61dc2c042527cdda76f73cd2d1d6fa4ddfae91", func := "loop.example/g00164/laws.FnExactNextBottom", spec := "fnExactNextBottom", unfollowed := true, recurses := true, apart := false }
def FnExactNextBottomSaid : Prop := fnExactNextBottomRow.holds Try.pinned (OpenSpec.ofChange fnExactNextBottomSpec)

/-- ITS FALSE NEIGHBOUR: 'it returns false'. Refute it at one input. -/
def fnExactNextBottomWrong : ChangeSpec := { name := "fnExactNextBottom", fn := fun _ => fun
  | [d1, d2] => { results := [.lit (.bool false)], args := [d1, d2] }
  | _ => none }
def FnExactNextBottomWrongFalsely : Prop := fnExactNextBottomRow.holds Try.pinned (OpenSpec.ofChange fnExactNextBottomWrong)

/-- 'laws.FnExactPlaceFloat': WHATEVER THE INPUT: true; the input reads as it did. -/
def fnExactPlaceFloatSpec : ChangeSpec := { name := "fnExactPlaceFloat", fn := fun _ => fun
  | [d1, d2, d3, d4, d5, d6, d7] => { results := [.lit (.bool true)], args := [d1, d2, d3, d4, d5, d6, d7] }
  | _ => none }
def fnExactPlaceFloatRow : OpenClaim := { program := "ytngbkcihdbnlgaa", sum := "4065d0f6a63978f1d919a17f1f61dc2c042527cdda76f73cd2d1d6fa4ddfae91", func := "loop.example/g00164/laws.FnExactPlaceFloat", spec := "fnExactPlaceFloat", unfollowed := true, recurses := true, apart := false }
def FnExactPlaceFloatSaid : Prop := fnExactPlaceFloatRow.holds Try.pinned (OpenSpec.ofChange fnExactPlaceFloatSpec)

/-- ITS FALSE NEIGHBOUR: 'it returns false'. Refute it at one input. -/
def fnExactPlaceFloatWrong : ChangeSpec := { name := "fnExactPlaceFloat", fn := fun _ => fun
  | [d1, d2, d3, d4, d5, d6, d7] => { results := [.lit (.bool false)], args := [d1, d2, d3, d4, d5, d6, d7] }
  | _ => none }
def FnExactPlaceFloatWrongFalsely : Prop := fnExactPlaceFloatRow.holds Try.pinned (OpenSpec.ofChange fnExactPlaceFloatWrong)

/- THE SECOND FORM. 'bulk': how many values and letters a reading holds, each counted each time it is reached (what is shared counts as often as it is met; a slice's spare places count too). A statement '..UptoSaid' is the law's where the arguments, and the package variables that the reading takes, are together of bulk at most 1048576: NARROWER than '..Said'. Prove '..Said' where nothing that the law and all that it calls make is longer than what came in: it says more and counts as full. Else prove '..UptoSaid'. A law counts once. -/
mutual
def uptoBulk {H : Type} : DataW H → Nat
  | .lit (.string bytes) => bytes.length + 1
  | .lit _ => 1
  | .nil => 1
  | .ptr d => uptoBulk d + 1
  | .slice elems spare => uptoBulkAll elems + uptoBulkAll spare + 1
  | .agg parts => uptoBulkAll parts + 1
  | .iface _ d => uptoBulk d + 1
  | .map entries => uptoBulkEntries entries + 1
  | .held _ => 1
def uptoBulkAll {H : Type} : List (DataW H) → Nat
  | [] => 0
  | d :: r => uptoBulk d + uptoBulkAll r
def uptoBulkEntries {H : Type} : List (Lit × DataW H) → Nat
  | [] => 0
  | x :: r => uptoBulkEntry x + uptoBulkEntries r
def uptoBulkEntry {H : Type} : Lit × DataW H → Nat
  | (.string bytes, d) => bytes.length + uptoBulk d + 1
  | (_, d) => uptoBulk d + 1
 end
def uptoSmall : (H : Type) → List (DataW H) → Bool := fun _ ds => decide (uptoBulkAll ds ≤ 1048576)
def OpenSpec.upto (s : _root_.Go.ChangeSpec) : _root_.Go.OpenSpec := { _root_.Go.OpenSpec.ofChange s with cond := some uptoSmall }

/-- 'laws.FnPlaced', WHERE WHAT IT READS IS OF BULK AT MOST 1048576: true; the input reads as it did. -/
def fnPlacedUptoRow : OpenClaim := { program := "ytngbkcihdbnlgaa", sum := "4065d0f6a63978f1d919a17f1f61dc2c042527cdda76f73cd2d1d6fa4ddfae91", func := "loop.example/g00164/laws.FnPlaced", spec := "fnPlaced", unfollowed := true, recurses := true, apart := false, narrowed := true }
def FnPlacedUptoSaid : Prop := fnPlacedUptoRow.holds Try.pinned (OpenSpec.upto fnPlacedSpec)

/-- 'laws.FnExactGoodFloats', WHERE WHAT IT READS IS OF BULK AT MOST 1048576: true; the input reads as it did. -/
def fnExactGoodFloatsUptoRow : OpenClaim := { program := "ytngbkcihdbnlgaa", sum := "4065d0f6a63978f1d919a17f1f61dc2c042527cdda76f73cd2d1d6fa4ddfae91", func := "loop.example/g00164/laws.FnExactGoodFloats", spec := "fnExactGoodFloats", apart := false, narrowed := true }
def FnExactGoodFloatsUptoSaid : Prop := fnExactGoodFloatsUptoRow.holds Try.pinned (OpenSpec.upto fnExactGoodFloatsSpec)

/-- 'laws.FnExactRoomAt', WHERE WHAT IT READS IS OF BULK AT MOST 1048576: true; the input reads as it did. -/
def fnExactRoomAtUptoRow : OpenClaim := { program := "ytngbkcihdbnlgaa", sum := "4065d0f6a63978f1d919a17f1f61dc2c042527cdda76f73cd2d1d6fa4ddfae91", func := "loop.example/g00164/laws.FnExactRoomAt", spec := "fnExactRoomAt", unfollowed := true, recurses := true, apart := false, narrowed := true }
def FnExactRoomAtUptoSaid : Prop := fnExactRoomAtUptoRow.holds Try.pinned (OpenSpec.upto fnExactRoomAtSpec)

/-- 'laws.FnExactAnyAt', WHERE WHAT IT READS IS OF BULK AT MOST 1048576: true; the input reads as it did. -/
def fnExactAnyAtUptoRow : OpenClaim := { program := "ytngbkcihdbnlgaa", sum := "4065d0f6a63978f1d919a17f1f61dc2c042527cdda76f73cd2d1d6fa4ddfae91", func := "loop.example/g00164/laws.FnExactAnyAt", spec := "fnExactAnyAt", unfollowed := true, recurses := true, apart := false, narrowed := true }
def FnExactAnyAtUptoSaid : Prop := fnExactAnyAtUptoRow.holds Try.pinned (OpenSpec.upto fnExactAnyAtSpec)

/-- 'laws.FnExactNextBottom', WHERE WHAT IT READS IS OF BULK AT MOST 1048576: true; the input reads as it did. -/
def fnExactNextBottomUptoRow : OpenClaim := { program := "ytngbkcihdbnlgaa", sum := "4065d0f6a63978f1d919a17f1f61dc2c042527cdda76f73cd2d1d6fa4ddfae91", func := "loop.example/g00164/laws.FnExactNextBottom", spec := "fnExactNextBottom", unfollowed := true, recurses := true, apart := false, narrowed := true }
def FnExactNextBottomUptoSaid : Prop := fnExactNextBottomUptoRow.holds Try.pinned (OpenSpec.upto fnExactNextBottomSpec)

/-- 'laws.FnExactPlaceFloat', WHERE WHAT IT READS IS OF BULK AT MOST 1048576: true; the input reads as it did. -/
def fnExactPlaceFloatUptoRow : OpenClaim := { program := "ytngbkcihdbnlgaa", sum := "4065d0f6a63978f1d919a17f1f61dc2c042527cdda76f73cd2d1d6fa4ddfae91", func := "loop.example/g00164/laws.FnExactPlaceFloat", spec := "fnExactPlaceFloat", unfollowed := true, recurses := true, apart := false, narrowed := true }
def FnExactPlaceFloatUptoSaid : Prop := fnExactPlaceFloatUptoRow.holds Try.pinned (OpenSpec.upto fnExactPlaceFloatSpec)

end Rows
end Go.Proofs.Ytngbkcihdbnlgaa
