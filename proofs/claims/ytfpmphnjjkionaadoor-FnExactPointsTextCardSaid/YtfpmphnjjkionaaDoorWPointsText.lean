/-
  The walk of laws.FnExactPointsText: for all arguments it returns true and leaves memory as it was, in every world in which strconv.FormatInt answers by its contract.
-/
import Derived.Test.YtfpmphnjjkionaaDoorPsx
namespace Go.Proofs.YtfpmphnjjkionaaDoor
open Go.ChangeShapes Go.WideShapes Go.ChangeAt Go.RowKit
set_option linter.unusedVariables false
set_option linter.unusedSimpArgs false
set_option maxRecDepth 100000

theorem own_pts {B : Nat} {W : World} {a : Option Addr} {n cp : Nat} {ps : List (Int × Int)} (h : OwnF B W (.slice a n cp) n (flat ps)) (hN : ps.length = n) (h1 : 1 ≤ n) : ∃ g, a = some ⟨g, 0, none⟩ ∧ g < W.heap.size ∧ PtCells W g 0 ps := by
  obtain ⟨a', c', e, hv⟩ := own_viewF h
  simp only [Value.slice.injEq] at e
  obtain ⟨rfl, _, rfl⟩ := e
  obtain ⟨g, rfl, _, hl, hc, _⟩ := hv (by omega)
  refine ⟨g, rfl, hl, fun i hi => ?_⟩
  obtain ⟨f0, f1⟩ := flat_getD ps i
  have c0 := hc (i * 2) (by omega)
  have c1 := hc (i * 2 + 1) (by omega)
  rw [f0] at c0
  rw [f1] at c1
  rw [Nat.zero_add]
  exact ⟨c0, c1⟩
theorem spec_PointsText_own {B : Nat} {W : World} {a : Option Addr} {n cp : Nat} {ps : List (Int × Int)} (h : OwnF B W (.slice a n cp) n (flat ps)) (hN : ps.length = n) (hl : n ≤ 1048576) :
    Calls Tryd.prog 14 #[.slice a n cp] W fun e w' => e = .returned (.tuple #[.string (jnV ps), .int .i64 (jnC ps)]) ∧ Below W.heap.size W w' := by
  by_cases hz : n = 0
  · subst hz
    have hps : ps = [] := List.length_eq_zero_iff.1 hN
    subst hps
    exact spec_PointsText_none a cp W
  · obtain ⟨g, rfl, hg, hc⟩ := own_pts h hN (by omega)
    exact spec_PointsText_some ps g cp n W hN (by omega) hl hg hc
theorem impl_PointsText_own {B B' : Nat} {W : World} {a : Option Addr} {n cp : Nat} {ps : List (Int × Int)} (h : OwnF B W (.slice a n cp) n (flat ps)) (hN : ps.length = n) (hl : n ≤ 1048576) (hB : B' ≤ W.heap.size) (hF : FmtAt B' W) :
    Calls Tryd.prog 16 #[.slice a n cp] W fun e w' => e = .returned (.tuple #[.string (jnV ps), .int .i64 (jnC ps)]) ∧ Below W.heap.size W w' := by
  by_cases hz : n = 0
  · subst hz
    have hps : ps = [] := List.length_eq_zero_iff.1 hN
    subst hps
    exact impl_PointsText_none a cp W
  · obtain ⟨g, rfl, hg, hc⟩ := own_pts h hN (by omega)
    exact impl_PointsText_some B' ps g cp n W hB hF hN (by omega) hl hg hc
set_option maxHeartbeats 1600000 in
theorem walkFnExactPointsText (a : Option Addr) (n cap : Nat) (ps : List (Int × Int)) (w : World) (hR : RowP w a n ps ∧ n ≤ maxLen) (hF : FmtAt w.heap.size w) : Calls Tryd.prog 5 #[.slice a n cap] w fun e w' => e = .returned (.bool true) ∧ Below w.heap.size w w' := by
  have hm : n ≤ 9223372036854775807 := by have := hR.2; unfold maxLen at this; omega
  have hz := fun w => szPointS_any a n cap w hm
  by_cases hbig : (1048576 : Int) < (n : Int)
  · have HZ : Hid (∀ w, Calls Tryd.prog 13 #[.slice a n cap, .int .i64 1048576] w fun e w' => e = .returned (.int .i64 (-1)) ∧ w = w') := fun w => by have := hz w; rw [if_pos hbig] at this; exact this
    clear hz hR hF
    go_enter Tryd.func5, Tryd.ntmps5
    go_wp2_with (go_at_call 13; refine (HZ.out _).mono ?_; rintro e wn ⟨rfl, rfl⟩)
    go_ret
    exact ⟨rfl, by (repeat' (first | (with_reducible exact Below.refl _ _) | (with_reducible refine Below.alloc ?_ ?_ _) | (with_reducible refine Below.setCell ?_ ?_ _) | (with_reducible refine Below.drew ?_) | (with_reducible refine below_drewN ?_ _) | (with_reducible assumption) | (with_reducible refine below_after (by with_reducible assumption) ?_) | go_size))⟩
  · have hl : n ≤ 1048576 := by omega
    have HZ : Hid (∀ w, Calls Tryd.prog 13 #[.slice a n cap, .int .i64 1048576] w fun e w' => e = .returned (.int .i64 (1048576 - n)) ∧ w = w') := fun w => by have := hz w; rw [if_neg hbig] at this; exact this
    have HR := Lib.hid hR.1
    have HF := Lib.hid hF
    have HL := Lib.hid hl
    have hN := hR.1.1
    have HN := Lib.hid hN
    have i1 : ¬ (1048576 : Int) - (n : Int) < 0 := by omega
    have HT : Hid (∀ w1, Below w.heap.size w w1 → Calls Tryd.prog 15 #[.slice a n cap] w1 (RetP w1 n (flat ps))) := fun w1 hb => toPointS_any a n cap ps w1 (RowP.below HR.out hb) hl
    obtain ⟨V, hV⟩ : ∃ V, jnV ps = V := ⟨_, rfl⟩
    obtain ⟨C, hC⟩ : ∃ C, jnC ps = C := ⟨_, rfl⟩
    have HV := Lib.hid hV
    have HC := Lib.hid hC
    clear hz hR hF hN hV hC
    go_enter Tryd.func5, Tryd.ntmps5
    go_wp2_with (go_at_call 13; refine (HZ.out _).mono ?_; rintro e wn ⟨rfl, rfl⟩)
    go_at_call 15
    refine (HT.out w (Below.refl _ _)).mono ?_
    rintro e w1 ⟨v1, rfl, o1, b1⟩
    obtain ⟨a1, c1, rfl, _⟩ := own_viewF o1
    have O1 := Lib.hid o1
    clear o1
    go_wp2_with fail
    go_at_call 14
    refine (spec_PointsText_own O1.out HN.out HL.out).mono ?_
    rw [HV.out, HC.out]
    rintro e w2 ⟨rfl, b2⟩
    have B2 : Hid (Below w.heap.size w w2) := below_after b2 b1
    go_wp2_with fail
    go_at_call 15
    refine (HT.out w2 B2.out).mono ?_
    rintro e w3 ⟨v3, rfl, o3, b3⟩
    obtain ⟨a3, c3, rfl, _⟩ := own_viewF o3
    have O3 := Lib.hid o3
    have B3 : Hid (Below w.heap.size w w3) := below_after b3 B2.out
    clear o3
    go_wp2_with fail
    go_at_call 16
    refine (impl_PointsText_own O3.out HN.out HL.out B3.out.size (FmtAt.on HF.out B3.out)).mono ?_
    rw [HV.out, HC.out]
    rintro e w4 ⟨rfl, b4⟩
    have B4 : Hid (Below w.heap.size w w4) := below_after b4 B3.out
    have O4 := Lib.hid (OwnF.below O3.out b4)
    go_wp2_with fail
    go_at_call 15
    refine (HT.out w4 B4.out).mono ?_
    rintro e w5 ⟨v5, rfl, o5, b5⟩
    obtain ⟨a5, c5, rfl, _⟩ := own_viewF o5
    have O5 := Lib.hid o5
    have O6 := Lib.hid (OwnF.below O4.out b5)
    have B5 : Hid (Below w.heap.size w w5) := below_after b5 B4.out
    clear o5
    go_wp2_with fail
    go_at_call 17
    refine (eqPointS_same _ _ _ _ _ _ _ O6.out O5.out (by have := HL.out; omega)).mono ?_
    rintro e w6 ⟨rfl, b6⟩
    go_wp2
    go_ret
    exact ⟨rfl, below_after b6 B5.out⟩
end Go.Proofs.YtfpmphnjjkionaaDoor
