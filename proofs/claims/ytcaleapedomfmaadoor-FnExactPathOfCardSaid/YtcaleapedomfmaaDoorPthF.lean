/-
  PathOf in the program, through the door (own work).
-/
import Derived.Test.YtcaleapedomfmaaDoorPthI
namespace Go.Proofs.YtcaleapedomfmaaDoor
open Go.ChangeShapes Go.WideShapes Go.ChangeAt Go.RowKit
set_option linter.unusedVariables false
set_option maxRecDepth 100000
set_option linter.unusedSimpArgs false
set_option maxRecDepth 100000

set_option maxHeartbeats 1600000 in
theorem cl_PathOf_ok (p : Nat) (a b : Int) (a0 a1 : Addr) (W : World) (hs : Snt W a0 a1) (h : allFr [(a, b)] = true) (c0 : W.cell? ⟨p, 0, none⟩ = some (.int .i64 a)) (d0 : W.cell? ⟨p, 1, none⟩ = some (.int .i64 b)) :
    Calls Tryd.prog 60 #[.pointer (some ⟨p, 0, none⟩)] W fun e w' => e = .returned (.tuple #[.string (ptV a b), .int .i64 (ptK a b)]) ∧ Below W.heap.size W w' := by
  have HE := Lib.hid (demE_yes (a0 := a0) (a1 := a1) h)
  have HS := Lib.hid hs
  have f0 := frs1 h
  have lp : p < W.heap.size := World.block_lt_of_cell? _ _ c0
  have HX : Hid (∀ w', Below W.heap.size W w' → w'.cell? ⟨p, 0, none⟩ = some (.int .i64 a) ∧ w'.cell? ⟨p, 1, none⟩ = some (.int .i64 b)) := fun w' hw => ⟨(hw.cell (p := ⟨p, 0, none⟩) lp).trans c0, (hw.cell (p := ⟨p, 1, none⟩) lp).trans d0⟩
  by_cases hlow : a < 1 ∨ b < 1
  · obtain ⟨e1, e2⟩ := pt_low h hlow
    rw [e1, e2]
    have hd : (decide (a < 1) || decide (b < 1)) = true := by simpa using hlow
    clear h f0 e1 e2 hs
    go_enter Tryd.func60, Tryd.ntmps60
    go_wp2_with fail
    go_at_call 43
    refine (demand1_any a b a0 a1 _ _ _ _ HE.out (HS.out.below (by (repeat' (first | (with_reducible exact Below.refl _ _) | (with_reducible refine Below.alloc ?_ ?_ _) | (with_reducible refine Below.setCell ?_ ?_ _) | (with_reducible refine Below.drew ?_) | (with_reducible refine below_drewN ?_ _) | (with_reducible assumption) | (with_reducible refine below_after (by with_reducible assumption) ?_) | go_size)))) (by simp) (by go_cell) (by go_cell)).mono ?_
    rintro e w1 ⟨rfl, hb1⟩
    have hb2 : Below W.heap.size W w1 := below_after hb1 (by (repeat' (first | (with_reducible exact Below.refl _ _) | (with_reducible refine Below.alloc ?_ ?_ _) | (with_reducible refine Below.setCell ?_ ?_ _) | (with_reducible refine Below.drew ?_) | (with_reducible refine below_drewN ?_ _) | (with_reducible assumption) | (with_reducible refine below_after (by with_reducible assumption) ?_) | go_size)))
    clear hb1 c0 d0
    obtain ⟨c0, d0⟩ := HX.out _ hb2
    by_cases ha : a < 1
    · go_wp2_with fail
      go_ret2
      exact ⟨rfl, hb2⟩
    · have hb : b < 1 := by omega
      go_wp2_with fail
      go_ret2
      exact ⟨rfl, hb2⟩
  · obtain ⟨e1, e2⟩ := pt_ok h hlow
    rw [e1, e2]
    have na : ¬ a < 1 := by omega
    have nb : ¬ b < 1 := by omega
    have b1 := isPt_c1 (isFr_pt f0)
    have b2 := isPt_c2 (isFr_pt f0)
    have HP := Lib.hid (fun w => pathTo_any a b w (by omega) b1.2 (by omega) b2.2 (by have := isFr_gcd f0; unfold gcdI at this; omega))
    generalize paB a b = V at *
    generalize paC a b = C at *
    clear h f0 e1 e2 hs hlow b1 b2
    go_enter Tryd.func60, Tryd.ntmps60
    go_wp2_with fail
    go_at_call 43
    refine (demand1_any a b a0 a1 _ _ _ _ HE.out (HS.out.below (by (repeat' (first | (with_reducible exact Below.refl _ _) | (with_reducible refine Below.alloc ?_ ?_ _) | (with_reducible refine Below.setCell ?_ ?_ _) | (with_reducible refine Below.drew ?_) | (with_reducible refine below_drewN ?_ _) | (with_reducible assumption) | (with_reducible refine below_after (by with_reducible assumption) ?_) | go_size)))) (by simp) (by go_cell) (by go_cell)).mono ?_
    rintro e w1 ⟨rfl, hb1⟩
    have hb2 : Below W.heap.size W w1 := below_after hb1 (by (repeat' (first | (with_reducible exact Below.refl _ _) | (with_reducible refine Below.alloc ?_ ?_ _) | (with_reducible refine Below.setCell ?_ ?_ _) | (with_reducible refine Below.drew ?_) | (with_reducible refine below_drewN ?_ _) | (with_reducible assumption) | (with_reducible refine below_after (by with_reducible assumption) ?_) | go_size)))
    have HB2 := Lib.hid hb2
    clear hb1 hb2 c0 d0
    obtain ⟨c0, d0⟩ := HX.out _ HB2.out
    go_wp2_with fail
    go_at_call 61
    refine (HP.out _).mono ?_
    rintro e w2 ⟨rfl, hb1⟩
    have hb3 : Below W.heap.size W w2 := below_after hb1 HB2.out
    clear hb1 c0 d0
    go_wp2_with fail
    go_ret2
    exact ⟨rfl, hb3⟩
theorem impl_PathOf_any (a b : Int) (a0 a1 : Addr) (w : World) (hs : Snt w a0 a1) :
    Calls Tryd.prog 29 #[.agg #[.int .i64 a, .int .i64 b]] w fun e w' => e = .returned (.tuple #[.string (ptV a b), .int .i64 (ptK a b)]) ∧ Below w.heap.size w w' := by
  cases h : allFr [(a, b)]
  · obtain ⟨e1, e2⟩ := pt_fr h
    rw [e1, e2]
    exact impl_PathOf_fail a b _ a0 a1 w hs h rfl
  · exact impl_PathOf_of a b _ (.string (ptV a b)) a0 a1 w hs (fun p W hs c0 d0 => cl_PathOf_ok p a b a0 a1 W hs h c0 d0)
end Go.Proofs.YtcaleapedomfmaaDoor
