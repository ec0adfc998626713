/-
  The laws' comparing of two lists of items that are alike.
-/
import Derived.Test.YtibomkcbopkpkaaDoorItemsTo
import Derived.Lib.QuietBelow
import Derived.Deep.RegionWith
import Derived.BigQuiet
namespace Go.Proofs.YtibomkcbopkpkaaDoor
open Go.ChangeShapes Go.WideShapes Go.ChangeAt Go.RowKit Go.Sort
end Go.Proofs.YtibomkcbopkpkaaDoor
