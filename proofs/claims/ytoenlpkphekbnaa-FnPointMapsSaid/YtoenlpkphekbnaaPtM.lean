/-
  The law's helper that marks a list of points (own work).
-/
import Derived.Test.YtoenlpkphekbnaaPtL
namespace Go.Proofs.Ytoenlpkphekbnaa
open Go.ChangeShapes Go.WideShapes Go.ChangeAt Go.RowKit
set_option linter.unusedVariables false
set_option maxRecDepth 100000
set_option linter.unusedSimpArgs false

end Go.Proofs.Ytoenlpkphekbnaa
