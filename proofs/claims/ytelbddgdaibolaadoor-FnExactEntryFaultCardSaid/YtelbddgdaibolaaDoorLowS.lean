/-
  What the model's l1Lower answers.
-/
import Derived.Test.YtelbddgdaibolaaDoorBase
import Derived.Test.YtelbddgdaibolaaDoorRow
namespace Go.Proofs.YtelbddgdaibolaaDoor
open Go.ChangeShapes Go.WideShapes Go.ChangeAt Go.RowKit
def lowS (s : ByteArray) : ByteArray := ⟨(s.data.toList.map lowU).toArray⟩
end Go.Proofs.YtelbddgdaibolaaDoor
