/-
  Head lines that came in, opened.
-/
import Derived.Test.YtbandckkgdnlpaaHeadsAt
namespace Go.Proofs.Ytbandckkgdnlpaa
open Go.ChangeShapes Go.WideShapes Go.ChangeAt Go.RowKit Go.Deep
theorem hOneS : Try.prog.cellsOf 9 = 1 := by kernel_rfl
end Go.Proofs.Ytbandckkgdnlpaa
