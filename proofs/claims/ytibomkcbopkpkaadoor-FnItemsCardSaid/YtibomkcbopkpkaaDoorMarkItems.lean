/-
  markItemS and heldItemS.
-/
import Derived.Test.YtibomkcbopkpkaaDoorMarks
namespace Go.Proofs.YtibomkcbopkpkaaDoor
open Go.ChangeShapes Go.WideShapes Go.ChangeAt Go.RowKit Go.Sort
end Go.Proofs.YtibomkcbopkpkaaDoor
