/-
  What the model's l1Lower answers.
-/
import Derived.Test.YtjdkkfbijneedaaBase
import Derived.Test.YtjdkkfbijneedaaRow
namespace Go.Proofs.Ytjdkkfbijneedaa
open Go.ChangeShapes Go.WideShapes Go.ChangeAt Go.RowKit
def lowS (s : ByteArray) : ByteArray := ⟨(s.data.toList.map lowU).toArray⟩
end Go.Proofs.Ytjdkkfbijneedaa
