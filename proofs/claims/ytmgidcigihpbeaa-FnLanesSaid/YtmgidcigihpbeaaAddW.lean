/-
  What AddTime's model and AddTime itself answer, for any two numbers: one contract a function and a case.
-/
import Derived.Test.YtmgidcigihpbeaaBase
namespace Go.Proofs.Ytmgidcigihpbeaa
open Go.ChangeShapes Go.WideShapes Go.ChangeAt Go.RowKit
end Go.Proofs.Ytmgidcigihpbeaa
