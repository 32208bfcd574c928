/-
  Chapter 8 in the model: the exported functions (own work).
-/
import Derived.Test.YtjjblgmokmalaaaSpC
import Derived.Test.YtjjblgmokmalaaaMkE
import Derived.Test.YtjjblgmokmalaaaSpE
namespace Go.Proofs.Ytjjblgmokmalaaa
open Go.ChangeShapes Go.WideShapes Go.ChangeAt Go.RowKit
set_option linter.unusedVariables false
set_option linter.unusedSimpArgs false
set_option maxRecDepth 100000

def inV (x y z : Int) : Bool := decide (0 ≤ x) && decide (0 ≤ y) && decide (0 ≤ z)
def crK (a0 a1 a2 b0 b1 b2 : Int) : Int := bok (isSp a0 a1 a2 && isSp b0 b1 b2)
def crL (a0 a1 a2 b0 b1 b2 : Int) : List Int := bls (isSp a0 a1 a2 && isSp b0 b1 b2) [crX a0 a1 a2 b0 b1 b2, crY a0 a1 a2 b0 b1 b2, crZ a0 a1 a2 b0 b1 b2]
def dsK (a0 a1 a2 b0 b1 b2 c0 c1 c2 : Int) : Int := bok (isSp a0 a1 a2 && isSp b0 b1 b2 && isSp c0 c1 c2)
def dsV (a0 a1 a2 b0 b1 b2 c0 c1 c2 : Int) : Int := bvl (isSp a0 a1 a2 && isSp b0 b1 b2 && isSp c0 c1 c2) (detV a0 a1 a2 b0 b1 b2 c0 c1 c2)
def leK (a0 a1 a2 : Int) : Int := bok (isSp a0 a1 a2)
def leV (a0 a1 a2 : Int) : Int := bvl (isSp a0 a1 a2) (lenV a0 a1 a2)
def ciO (c0 c1 c2 c3 c4 c5 c6 c7 c8 a0 a1 a2 : Int) : Bool := isCo c0 c1 c2 c3 c4 c5 c6 c7 c8 && isSp a0 a1 a2
def ciL (c0 c1 c2 c3 c4 c5 c6 c7 c8 a0 a1 a2 : Int) : List Int := bls (ciO c0 c1 c2 c3 c4 c5 c6 c7 c8 a0 a1 a2) [co0 c0 c1 c2 c3 c4 c5 c6 c7 c8 a0 a1 a2, co1 c0 c1 c2 c3 c4 c5 c6 c7 c8 a0 a1 a2, co2 c0 c1 c2 c3 c4 c5 c6 c7 c8 a0 a1 a2]
def icV (c0 c1 c2 c3 c4 c5 c6 c7 c8 a0 a1 a2 : Int) : Bool := ciO c0 c1 c2 c3 c4 c5 c6 c7 c8 a0 a1 a2 && inV (co0 c0 c1 c2 c3 c4 c5 c6 c7 c8 a0 a1 a2) (co1 c0 c1 c2 c3 c4 c5 c6 c7 c8 a0 a1 a2) (co2 c0 c1 c2 c3 c4 c5 c6 c7 c8 a0 a1 a2)
def rcV (c0 c1 c2 c3 c4 c5 c6 c7 c8 : Int) : Bool := isCo c0 c1 c2 c3 c4 c5 c6 c7 c8 && (absI (detV c0 c1 c2 c3 c4 c5 c6 c7 c8) == 1)
def vtV (t0 t1 t2 t3 t4 t5 t6 t7 t8 t9 t10 t11 : Int) : Int := bvl (isTe t0 t1 t2 t3 t4 t5 t6 t7 t8 t9 t10 t11) (voV t0 t1 t2 t3 t4 t5 t6 t7 t8 t9 t10 t11)
theorem crL_len (a0 a1 a2 b0 b1 b2 : Int) : (crL a0 a1 a2 b0 b1 b2).length ≤ 8388608 := by unfold crL bls; cases (isSp a0 a1 a2 && isSp b0 b1 b2) <;> simp
theorem ciL_len (c0 c1 c2 c3 c4 c5 c6 c7 c8 a0 a1 a2 : Int) : (ciL c0 c1 c2 c3 c4 c5 c6 c7 c8 a0 a1 a2).length ≤ 8388608 := by unfold ciL bls; cases (ciO c0 c1 c2 c3 c4 c5 c6 c7 c8 a0 a1 a2) <;> simp
end Go.Proofs.Ytjjblgmokmalaaa
