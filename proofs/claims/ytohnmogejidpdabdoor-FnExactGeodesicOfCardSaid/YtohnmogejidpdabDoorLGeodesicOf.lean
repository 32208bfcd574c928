/-
  laws.FnExactGeodesicOf, walked (own work).
-/
import Derived.Test.YtohnmogejidpdabDoorGeS
import Derived.Test.YtohnmogejidpdabDoorWGeodesicOf
namespace Go.Proofs.YtohnmogejidpdabDoor
open Go.ChangeShapes Go.WideShapes Go.ChangeAt Go.RowKit
set_option linter.unusedVariables false
set_option maxRecDepth 100000
set_option linter.unusedSimpArgs false
set_option maxRecDepth 100000

theorem geL_len (a b c d : Int) : (geL a b c d).length ≤ 8388608 := by
  unfold geL
  split
  · next hk =>
    split
    · simp
    · have h1 := (wy_len (mvY a b c d).toNat (mvX a b c d) (mvY a b c d)).1
      have h2 : mvY a b c d ≤ 1000000 := by
        unfold geK at hk
        split at hk
        · next hf =>
          split at hk
          · next hp => exact (isPt_c2 hp).2
          · cases hk
        · next hf => exact absurd hk (frE_ne (by simpa using hf))
      simp only [List.length_cons, List.length_reverse, List.length_map]
      omega
  · simp
theorem walkFnExactGeodesicOf_at (x0 x1 x2 x3 : Int) (a0 a1 : Addr) (w : World) (hs : Snt w a0 a1) :
    Calls Tryd.prog 4 #[.agg #[.int .i64 x0, .int .i64 x1], .agg #[.int .i64 x2, .int .i64 x3]] w fun e w' => e = .returned (.bool true) ∧ Below w.heap.size w w' :=
  walkFnExactGeodesicOf_any x0 x1 x2 x3 (geK x0 x1 x2 x3) (geL x0 x1 x2 x3).length (flat (geL x0 x1 x2 x3)) a0 a1 w hs (geL_len x0 x1 x2 x3) (fun w => spec_GeodesicOf_any x0 x1 x2 x3 w) (fun w h => impl_GeodesicOf_any x0 x1 x2 x3 a0 a1 w h)
end Go.Proofs.YtohnmogejidpdabDoor
