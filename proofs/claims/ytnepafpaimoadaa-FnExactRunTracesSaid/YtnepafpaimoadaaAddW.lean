/-
  What AddTime's model and AddTime itself answer, for any two numbers: one contract a function and a case.
-/
import Derived.Test.YtnepafpaimoadaaBase
namespace Go.Proofs.Ytnepafpaimoadaa
open Go.ChangeShapes Go.WideShapes Go.ChangeAt Go.RowKit
end Go.Proofs.Ytnepafpaimoadaa
