/-
  Contracts of chapter 1's AreaOf, LengthOf, DistanceOf, PrimitiveOf, AddPoints in the model and in the program (own work).
-/
import Derived.Test.YtibmkmcdggokbaaAlg2
namespace Go.Proofs.Ytibmkmcdggokbaa
open Go.ChangeShapes Go.WideShapes Go.ChangeAt Go.RowKit
set_option linter.unusedVariables false
set_option linter.unusedSimpArgs false

theorem det_tn {x0 y0 x1 y1 x2 y2 : Int} (k0 : isPt (x0, y0) = true) (k1 : isPt (x1, y1) = true) (k2 : isPt (x2, y2) = true) : Tn (detP (x1 - x0, y1 - y0) (x2 - x0, y2 - y0)) := by
  have := isPt_c1 k0; have := isPt_c2 k0; have := isPt_c1 k1; have := isPt_c2 k1; have := isPt_c1 k2; have := isPt_c2 k2
  have m1 := mul_bd (A := 2000000) (B := 2000000) (a := x1 - x0) (b := y2 - y0) (by omega) (by omega) (by omega) (by omega)
  have m2 := mul_bd (A := 2000000) (B := 2000000) (a := y1 - y0) (b := x2 - x0) (by omega) (by omega) (by omega) (by omega)
  unfold Tn detP
  dsimp only
  omega







end Go.Proofs.Ytibmkmcdggokbaa
