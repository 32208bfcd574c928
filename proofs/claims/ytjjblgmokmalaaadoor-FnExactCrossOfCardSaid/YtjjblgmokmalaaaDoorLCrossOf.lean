/-
  laws.FnExactCrossOf, walked (own work).
-/
import Derived.Test.YtjjblgmokmalaaaDoorSpL
import Derived.Test.YtjjblgmokmalaaaDoorWCrossOf
namespace Go.Proofs.YtjjblgmokmalaaaDoor
open Go.ChangeShapes Go.WideShapes Go.ChangeAt Go.RowKit
set_option linter.unusedVariables false
set_option maxRecDepth 100000
set_option linter.unusedSimpArgs false
set_option maxRecDepth 100000

theorem walkFnExactCrossOf_at (x0 x1 x2 x3 x4 x5 : Int) (eF : Addr) (eS : Addr) (w : World) (hF : EA w 3 eF) (hS : EA w 0 eS) (nS : eS ≠ eF) :
    Calls Tryd.prog 3 #[.agg #[.int .i64 x0, .int .i64 x1, .int .i64 x2], .agg #[.int .i64 x3, .int .i64 x4, .int .i64 x5]] w fun e w' => e = .returned (.bool true) ∧ Below w.heap.size w w' :=
  walkFnExactCrossOf_any x0 x1 x2 x3 x4 x5 (crK x0 x1 x2 x3 x4 x5) (crL x0 x1 x2 x3 x4 x5) eF eS w hF hS (crL_len x0 x1 x2 x3 x4 x5) (fun w => spec_CrossOf_any x0 x1 x2 x3 x4 x5 w) (fun w hF hS => impl_CrossOf_any x0 x1 x2 x3 x4 x5 eF eS w hF hS nS)
end Go.Proofs.YtjjblgmokmalaaaDoor
