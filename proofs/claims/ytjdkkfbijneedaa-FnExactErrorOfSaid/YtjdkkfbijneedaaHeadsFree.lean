/-
  The laws' copy of head lines: what it holds may be written.
-/
import Derived.Test.YtjdkkfbijneedaaHeadsTo
namespace Go.Proofs.Ytjdkkfbijneedaa
open Go.ChangeShapes Go.WideShapes Go.ChangeAt Go.RowKit Go.Sort
end Go.Proofs.Ytjdkkfbijneedaa
