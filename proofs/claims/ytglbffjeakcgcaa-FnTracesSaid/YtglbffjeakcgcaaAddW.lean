/-
  What AddTime's model and AddTime itself answer, for any two numbers: one contract a function and a case.
-/
import Derived.Test.YtglbffjeakcgcaaBase
namespace Go.Proofs.Ytglbffjeakcgcaa
open Go.ChangeShapes Go.WideShapes Go.ChangeAt Go.RowKit
end Go.Proofs.Ytglbffjeakcgcaa
