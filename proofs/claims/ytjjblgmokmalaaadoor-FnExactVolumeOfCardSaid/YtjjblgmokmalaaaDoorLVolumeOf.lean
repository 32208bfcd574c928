/-
  laws.FnExactVolumeOf, walked (own work).
-/
import Derived.Test.YtjjblgmokmalaaaDoorSpL
import Derived.Test.YtjjblgmokmalaaaDoorWVolumeOf
namespace Go.Proofs.YtjjblgmokmalaaaDoor
open Go.ChangeShapes Go.WideShapes Go.ChangeAt Go.RowKit
set_option linter.unusedVariables false
set_option maxRecDepth 100000
set_option linter.unusedSimpArgs false
set_option maxRecDepth 100000

theorem walkFnExactVolumeOf_at (x0 x1 x2 x3 x4 x5 x6 x7 x8 x9 x10 x11 : Int) (eF : Addr) (eT : Addr) (w : World) (hF : EA w 3 eF) (hT : EA w 2 eT) (nT : eT ≠ eF) :
    Calls Tryd.prog 10 #[.agg #[.int .i64 x0, .int .i64 x1, .int .i64 x2, .int .i64 x3, .int .i64 x4, .int .i64 x5, .int .i64 x6, .int .i64 x7, .int .i64 x8, .int .i64 x9, .int .i64 x10, .int .i64 x11]] w fun e w' => e = .returned (.bool true) ∧ Below w.heap.size w w' :=
  walkFnExactVolumeOf_any x0 x1 x2 x3 x4 x5 x6 x7 x8 x9 x10 x11 (vtV x0 x1 x2 x3 x4 x5 x6 x7 x8 x9 x10 x11) (bok (isTe x0 x1 x2 x3 x4 x5 x6 x7 x8 x9 x10 x11)) eF eT w hF hT (fun w => spec_VolumeOf_any x0 x1 x2 x3 x4 x5 x6 x7 x8 x9 x10 x11 w) (fun w hF hT => impl_VolumeOf_any x0 x1 x2 x3 x4 x5 x6 x7 x8 x9 x10 x11 eF eT w hF hT nT)
end Go.Proofs.YtjjblgmokmalaaaDoor
