/-
  The law's helper that marks a list of points (own work).
-/
import Derived.Test.YtibmkmcdggokbaaPtL
namespace Go.Proofs.Ytibmkmcdggokbaa
open Go.ChangeShapes Go.WideShapes Go.ChangeAt Go.RowKit
set_option linter.unusedVariables false
set_option linter.unusedSimpArgs false

end Go.Proofs.Ytibmkmcdggokbaa
