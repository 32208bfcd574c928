/-
  laws.FnExactLengthOfSpot, walked (own work).
-/
import Derived.Test.YtjjblgmokmalaaaDoorSpL
import Derived.Test.YtjjblgmokmalaaaDoorWLengthOfSpot
namespace Go.Proofs.YtjjblgmokmalaaaDoor
open Go.ChangeShapes Go.WideShapes Go.ChangeAt Go.RowKit
set_option linter.unusedVariables false
set_option maxRecDepth 100000
set_option linter.unusedSimpArgs false
set_option maxRecDepth 100000

theorem walkFnExactLengthOfSpot_at (x0 x1 x2 : Int) (eF : Addr) (eS : Addr) (w : World) (hF : EA w 3 eF) (hS : EA w 0 eS) (nS : eS ≠ eF) :
    Calls Tryd.prog 5 #[.agg #[.int .i64 x0, .int .i64 x1, .int .i64 x2]] w fun e w' => e = .returned (.bool true) ∧ Below w.heap.size w w' :=
  walkFnExactLengthOfSpot_any x0 x1 x2 (leV x0 x1 x2) (leK x0 x1 x2) eF eS w hF hS (fun w => spec_LengthOfSpot_any x0 x1 x2 w) (fun w hF hS => impl_LengthOfSpot_any x0 x1 x2 eF eS w hF hS nS)
end Go.Proofs.YtjjblgmokmalaaaDoor
