/-
  The order of a triple and numbers at places, in the program (own work).
-/
import Derived.Test.YthckbobbnkhnpaaTrO
namespace Go.Proofs.Ythckbobbnkhnpaa
open Go.ChangeShapes Go.WideShapes Go.ChangeAt Go.RowKit
set_option linter.unusedVariables false
set_option linter.unusedSimpArgs false
set_option maxRecDepth 100000

end Go.Proofs.Ythckbobbnkhnpaa
