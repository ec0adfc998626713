/-
  What AddTime's model and AddTime itself answer, for any two numbers: one contract a function and a case.
-/
import Derived.Test.YtelbddgdaibolaaDoorBase
namespace Go.Proofs.YtelbddgdaibolaaDoor
open Go.ChangeShapes Go.WideShapes Go.ChangeAt Go.RowKit
end Go.Proofs.YtelbddgdaibolaaDoor
