/-
  The walk of laws.FnExactReducePair: for all arguments it returns true and leaves memory as it was. No conditions.
-/
import Derived.Test.YtmjhejmkmdgikaaPtM
import Derived.Test.YtmjhejmkmdgikaaEq
import Derived.Test.YtmjhejmkmdgikaaOwn
import Derived.Test.YtmjhejmkmdgikaaRpI
import Derived.Deep.DeepCutAuto
namespace Go.Proofs.Ytmjhejmkmdgikaa
open Go.ChangeShapes Go.WideShapes Go.ChangeAt Go.RowKit
set_option linter.unusedVariables false
set_option maxRecDepth 100000
set_option linter.unusedSimpArgs false

set_option maxHeartbeats 3200000 in
theorem walkFnExactReducePair_any (x0 x1 x2 x3 k : Int) (n : Nat) (zs : List Int) (w : World) (hx : n ≤ 1000001)
    (hS : ∀ w, Calls Try.prog 48 #[.agg #[.int .i64 x0, .int .i64 x1], .agg #[.int .i64 x2, .int .i64 x3]] w fun e w' => ∃ v, e = .returned (.tuple #[v, .int .i64 k]) ∧ OwnF w.heap.size w' v n zs ∧ Below w.heap.size w w')
    (hI : ∀ w, Calls Try.prog 49 #[.agg #[.int .i64 x0, .int .i64 x1], .agg #[.int .i64 x2, .int .i64 x3]] w fun e w' => ∃ v, e = .returned (.tuple #[v, .int .i64 k]) ∧ OwnF w.heap.size w' v n zs ∧ Below w.heap.size w w') :
    Calls Try.prog 13 #[.agg #[.int .i64 x0, .int .i64 x1], .agg #[.int .i64 x2, .int .i64 x3]] w fun e w' => e = .returned (.bool true) ∧ Below w.heap.size w w' := by
  have HS := Lib.hid hS
  have HI := Lib.hid hI
  clear hS hI
  have hs20 : w.heap.size < w.heap.size + 1 + 1 := (by omega); have hs30 : w.heap.size < w.heap.size + 1 + 1 + 1 := (by omega); have hs31 : w.heap.size + 1 < w.heap.size + 1 + 1 + 1 := (by omega); have hs40 : w.heap.size < w.heap.size + 1 + 1 + 1 + 1 := (by omega); have hs41 : w.heap.size + 1 < w.heap.size + 1 + 1 + 1 + 1 := (by omega); have hs42 : w.heap.size + 1 + 1 < w.heap.size + 1 + 1 + 1 + 1 := (by omega)
  go_enter Try.func13, Try.ntmps13
  go_upto_region 1 with fail
  obtain ⟨wB, hwB⟩ : ∃ wB, wB = (w.alloc (.cells #[.int .i64 x0, .int .i64 x1] 31)).alloc (.cells #[.int .i64 x2, .int .i64 x3] 31) := ⟨_, rfl⟩
  rw [← hwB]
  have hbs : wB.heap.size = w.heap.size + 1 + 1 := by rw [hwB]; simp
  have HBW : Hid (Below w.heap.size w wB) := by
    show Below w.heap.size w wB
    rw [hwB]; (repeat' (first | (with_reducible exact Below.refl _ _) | (with_reducible refine Below.alloc ?_ ?_ _) | (with_reducible refine Below.setCell ?_ ?_ _) | (with_reducible refine Below.drew ?_) | (with_reducible refine below_drewN ?_ _) | (with_reducible assumption) | (with_reducible refine below_after (by with_reducible assumption) ?_) | go_size))
  have HK : Hid (∀ W', Below wB.heap.size wB W' → W'.cell? ⟨w.heap.size, 0, none⟩ = some (.int .i64 x0) ∧ W'.cell? ⟨w.heap.size, 1, none⟩ = some (.int .i64 x1) ∧ W'.cell? ⟨w.heap.size + 1, 0, none⟩ = some (.int .i64 x2) ∧ W'.cell? ⟨w.heap.size + 1, 1, none⟩ = some (.int .i64 x3) ∧ w.heap.size + 1 < W'.heap.size) := by
    intro W' hB
    have hz := hB.size
    refine ⟨?_, ?_, ?_, ?_, by omega⟩
    all_goals (rw [(bcell hB).1 _ _ (by omega), hwB]; go_cell)
  have hbs2 : w.heap.size + 1 + 1 ≤ wB.heap.size := by omega
  have hbs3 : wB.heap.size ≤ w.heap.size + 1 + 1 := by omega
  clear hwB hbs
  go_cut [5, 6] (fun v7 v8 wx => ∃ (a : Option Addr) (cp : Nat), v7 = .slice a n cp ∧ v8 = .int .i64 k ∧ OwnF wB.heap.size wx (.slice a n cp) n zs ∧ Below wB.heap.size wB wx)
  case first =>
    go_region_held3 (fun W => W.cell? ⟨w.heap.size, 0, none⟩ = some (.int .i64 x0) ∧ W.cell? ⟨w.heap.size, 1, none⟩ = some (.int .i64 x1) ∧ W.cell? ⟨w.heap.size + 1, 0, none⟩ = some (.int .i64 x2) ∧ W.cell? ⟨w.heap.size + 1, 1, none⟩ = some (.int .i64 x3) ∧ w.heap.size + 1 < W.heap.size) ((refine (HK.out _ ?_); repeat' (first | (with_reducible refine Below.alloc ?_ ?_ _) | (with_reducible refine Below.setCell ?_ ?_ _) | (with_reducible refine Below.drew ?_) | (with_reducible exact Below.refl _ _) | (with_reducible refine below_after (by with_reducible assumption) ?_) | (first | omega | (simp only [World.size_alloc, World.size_drew, World.size_setCell]; omega))))) (first | (go_at_call 44; refine (toPoint_any _ _ _).mono ?_; rintro e wn ⟨rfl, hb⟩; have hsz := hb.size; (try simp only [World.size_alloc, World.size_setCell, World.size_drew] at hsz); first | (revert hb; with_reducible change Below (World.heap (World.alloc _ _)).size (World.alloc _ _) _ → _; intro hb; have hnw := after_new hb; (try simp only [World.size_alloc, World.size_drew] at hnw)) | (revert hb; with_reducible change Below (World.heap (World.drew (World.alloc _ _))).size (World.drew (World.alloc _ _)) _ → _; intro hb; have hnw := after_newd hb; (try simp only [World.size_alloc, World.size_drew] at hnw)) | (revert hnw; with_reducible change (World.cell? _ _ = some _ ∧ World.cell? _ _ = some _ ∧ World.frozen? _ _ = false ∧ World.frozen? _ _ = false ∧ (_ : Nat) < _) → _; intro hnw; have hnw := after_old hb hnw) | skip) | (go_at_call 48; refine (HS.out _).mono ?_; rintro e wn ⟨vv, rfl, ho, hb⟩; obtain ⟨va, vc, rfl, _⟩ := own_viewF ho; have hsz := hb.size; (try simp only [World.size_alloc, World.size_setCell, World.size_drew] at hsz)))
    all_goals
      go_wp2_with fail
      go_meet
      refine ⟨_, _, rfl, rfl, ?_, ?_⟩
      · first | (exact own_up (OwnF.below ho (by (repeat' (first | (with_reducible exact Below.refl _ _) | (with_reducible refine Below.alloc ?_ ?_ _) | (with_reducible refine Below.setCell ?_ ?_ _) | (with_reducible refine Below.drew ?_) | (with_reducible refine below_drewN ?_ _) | (with_reducible assumption) | (with_reducible refine below_after (by with_reducible assumption) ?_) | go_size)))) (by first | omega | (simp only [World.size_alloc, World.size_drew, World.size_setCell]; omega))) | (refine own_up ho ?_; first | omega | (simp only [World.size_alloc, World.size_drew, World.size_setCell]; omega))
      · first | ((repeat' (first | (with_reducible exact Below.refl _ _) | (with_reducible refine Below.alloc ?_ ?_ _) | (with_reducible refine Below.setCell ?_ ?_ _) | (with_reducible refine Below.drew ?_) | (with_reducible refine below_drewN ?_ _) | (with_reducible assumption) | (with_reducible refine below_after (by with_reducible assumption) ?_) | go_size)); done) | exact hb
  case rest =>
    obtain ⟨a0, c0, rfl, rfl, o0, hBx⟩ := hcut
    obtain ⟨w1, rfl⟩ : ∃ w1, w1 = wc := ⟨_, rfl⟩
    have O0 := Lib.hid o0
    have L0 : Hid (∀ k, (Value.slice a0 n c0).ownBlock = some k → k < w1.heap.size) := fun k hk => (World.ownsRow.lt o0 k hk).2
    have hxs := hBx.size
    have HB1 := Lib.hid hBx
    have HK2 : Hid (∀ W', Below w1.heap.size w1 W' → W'.cell? ⟨w.heap.size, 0, none⟩ = some (.int .i64 x0) ∧ W'.cell? ⟨w.heap.size, 1, none⟩ = some (.int .i64 x1) ∧ W'.cell? ⟨w.heap.size + 1, 0, none⟩ = some (.int .i64 x2) ∧ W'.cell? ⟨w.heap.size + 1, 1, none⟩ = some (.int .i64 x3) ∧ w.heap.size + 1 < W'.heap.size) := by
      intro W' hB
      exact HK.out W' (HB1.out.trans (hB.mono hxs))
    clear o0 hBx
    go_upto_region 2 with fail
    go_cut [7, 8] (fun v7 v8 wx => ∃ (a : Option Addr) (cp : Nat), v7 = .slice a n cp ∧ v8 = .int .i64 k ∧ OwnF w1.heap.size wx (.slice a n cp) n zs ∧ Below w1.heap.size w1 wx)
    case first =>
      go_region_held3 (fun W => W.cell? ⟨w.heap.size, 0, none⟩ = some (.int .i64 x0) ∧ W.cell? ⟨w.heap.size, 1, none⟩ = some (.int .i64 x1) ∧ W.cell? ⟨w.heap.size + 1, 0, none⟩ = some (.int .i64 x2) ∧ W.cell? ⟨w.heap.size + 1, 1, none⟩ = some (.int .i64 x3) ∧ w.heap.size + 1 < W.heap.size) ((refine (HK2.out _ ?_); repeat' (first | (with_reducible refine Below.alloc ?_ ?_ _) | (with_reducible refine Below.setCell ?_ ?_ _) | (with_reducible refine Below.drew ?_) | (with_reducible exact Below.refl _ _) | (with_reducible refine below_after (by with_reducible assumption) ?_) | (first | omega | (simp only [World.size_alloc, World.size_drew, World.size_setCell]; omega))))) (first | (go_at_call 44; refine (toPoint_any _ _ _).mono ?_; rintro e wn ⟨rfl, hb⟩; have hsz := hb.size; (try simp only [World.size_alloc, World.size_setCell, World.size_drew] at hsz); first | (revert hb; with_reducible change Below (World.heap (World.alloc _ _)).size (World.alloc _ _) _ → _; intro hb; have hnw := after_new hb; (try simp only [World.size_alloc, World.size_drew] at hnw)) | (revert hb; with_reducible change Below (World.heap (World.drew (World.alloc _ _))).size (World.drew (World.alloc _ _)) _ → _; intro hb; have hnw := after_newd hb; (try simp only [World.size_alloc, World.size_drew] at hnw)) | (revert hnw; with_reducible change (World.cell? _ _ = some _ ∧ World.cell? _ _ = some _ ∧ World.frozen? _ _ = false ∧ World.frozen? _ _ = false ∧ (_ : Nat) < _) → _; intro hnw; have hnw := after_old hb hnw) | skip) | (go_at_call 49; refine (HI.out _).mono ?_; rintro e wn ⟨vv, rfl, ho, hb⟩; obtain ⟨va, vc, rfl, _⟩ := own_viewF ho; have hsz := hb.size; (try simp only [World.size_alloc, World.size_setCell, World.size_drew] at hsz)))
      all_goals
        go_wp2_with fail
        go_meet
        refine ⟨_, _, rfl, rfl, ?_, ?_⟩
        · first | (exact own_up (OwnF.below ho (by (repeat' (first | (with_reducible exact Below.refl _ _) | (with_reducible refine Below.alloc ?_ ?_ _) | (with_reducible refine Below.setCell ?_ ?_ _) | (with_reducible refine Below.drew ?_) | (with_reducible refine below_drewN ?_ _) | (with_reducible assumption) | (with_reducible refine below_after (by with_reducible assumption) ?_) | go_size)))) (by first | omega | (simp only [World.size_alloc, World.size_drew, World.size_setCell]; omega))) | (refine own_up ho ?_; first | omega | (simp only [World.size_alloc, World.size_drew, World.size_setCell]; omega))
        · first | ((repeat' (first | (with_reducible exact Below.refl _ _) | (with_reducible refine Below.alloc ?_ ?_ _) | (with_reducible refine Below.setCell ?_ ?_ _) | (with_reducible refine Below.drew ?_) | (with_reducible refine below_drewN ?_ _) | (with_reducible assumption) | (with_reducible refine below_after (by with_reducible assumption) ?_) | go_size)); done) | exact hb
    case rest =>
      obtain ⟨a1, c1, rfl, rfl, o1, hBy⟩ := hcut
      obtain ⟨w2, rfl⟩ : ∃ w2, w2 = wc := ⟨_, rfl⟩
      have O1 := Lib.hid o1
      have O0a := Lib.hid (OwnF.below O0.out hBy)
      have HB2 : Hid (Below wB.heap.size wB w2) := HB1.out.trans (hBy.mono hxs)
      have hlt1 : ∀ k, (Value.slice a1 n c1).ownBlock = some k → w1.heap.size ≤ k := fun k hk => (World.ownsRow.lt o1 k hk).1
      clear o1
      go_wp2_with fail
      refine (eqPointS_same _ _ _ _ _ _ _ O1.out O0a.out (by omega)).mono ?_
      rintro e w3 ⟨rfl, b3⟩
      have O1b := Lib.hid (OwnF.below O1.out b3)
      have O0b := Lib.hid (OwnF.below O0a.out b3)
      have HB3 : Hid (Below wB.heap.size wB w3) := below_after b3 HB2.out
      go_wp2_with fail
      refine (markPointS_any _ _ _ _ _ _ O1b.out (by omega) (by omega) (by omega)).mono ?_
      rintro e w4 ⟨rfl, o1c, g4⟩
      have O0c : Hid (OwnF wB.heap.size w4 (.slice a0 n c0) n zs) := by
        refine World.ownsRow.kept O0b.out g4 ?_
        cases h0 : (Value.slice a0 n c0).ownBlock with
        | none => exact .inl rfl
        | some k =>
          right
          cases h1 : (Value.slice a1 n c1).ownBlock with
          | none => simp
          | some k' =>
            have a := L0.out k h0
            have b := hlt1 k' h1
            simp; omega
      have HB4 : Hid (Below wB.heap.size wB w4) := Below.grown HB3.out g4 HB3.out.size (fun k hk => by have := hlt1 k hk; omega)
      have O1c := Lib.hid o1c
      clear o1c g4 hlt1
      go_wp2_with fail
      go_at_call 23
      refine (heldPointS_marks _ _ _ _ _ O1c.out (by omega) (by omega) (by omega)).mono ?_
      rintro e w5 ⟨rfl, rfl⟩
      have hx4 := HB4.out.size
      have HK4 : Hid (∀ W', Below w4.heap.size w4 W' → W'.cell? ⟨w.heap.size, 0, none⟩ = some (.int .i64 x0) ∧ W'.cell? ⟨w.heap.size, 1, none⟩ = some (.int .i64 x1) ∧ W'.cell? ⟨w.heap.size + 1, 0, none⟩ = some (.int .i64 x2) ∧ W'.cell? ⟨w.heap.size + 1, 1, none⟩ = some (.int .i64 x3) ∧ w.heap.size + 1 < W'.heap.size) := by
        intro W' hB
        exact HK.out W' (HB4.out.trans (hB.mono hx4))
      go_upto_region 3 with fail
      go_cut [11, 12] (fun v7 v8 wx => ∃ (a : Option Addr) (cp : Nat), v7 = .slice a n cp ∧ v8 = .int .i64 k ∧ OwnF w4.heap.size wx (.slice a n cp) n zs ∧ Below w4.heap.size w4 wx)
      case first =>
        go_region_held3 (fun W => W.cell? ⟨w.heap.size, 0, none⟩ = some (.int .i64 x0) ∧ W.cell? ⟨w.heap.size, 1, none⟩ = some (.int .i64 x1) ∧ W.cell? ⟨w.heap.size + 1, 0, none⟩ = some (.int .i64 x2) ∧ W.cell? ⟨w.heap.size + 1, 1, none⟩ = some (.int .i64 x3) ∧ w.heap.size + 1 < W.heap.size) ((refine (HK4.out _ ?_); repeat' (first | (with_reducible refine Below.alloc ?_ ?_ _) | (with_reducible refine Below.setCell ?_ ?_ _) | (with_reducible refine Below.drew ?_) | (with_reducible exact Below.refl _ _) | (with_reducible refine below_after (by with_reducible assumption) ?_) | (first | omega | (simp only [World.size_alloc, World.size_drew, World.size_setCell]; omega))))) (first | (go_at_call 44; refine (toPoint_any _ _ _).mono ?_; rintro e wn ⟨rfl, hb⟩; have hsz := hb.size; (try simp only [World.size_alloc, World.size_setCell, World.size_drew] at hsz); first | (revert hb; with_reducible change Below (World.heap (World.alloc _ _)).size (World.alloc _ _) _ → _; intro hb; have hnw := after_new hb; (try simp only [World.size_alloc, World.size_drew] at hnw)) | (revert hb; with_reducible change Below (World.heap (World.drew (World.alloc _ _))).size (World.drew (World.alloc _ _)) _ → _; intro hb; have hnw := after_newd hb; (try simp only [World.size_alloc, World.size_drew] at hnw)) | (revert hnw; with_reducible change (World.cell? _ _ = some _ ∧ World.cell? _ _ = some _ ∧ World.frozen? _ _ = false ∧ World.frozen? _ _ = false ∧ (_ : Nat) < _) → _; intro hnw; have hnw := after_old hb hnw) | skip) | (go_at_call 49; refine (HI.out _).mono ?_; rintro e wn ⟨vv, rfl, ho, hb⟩; obtain ⟨va, vc, rfl, _⟩ := own_viewF ho; have hsz := hb.size; (try simp only [World.size_alloc, World.size_setCell, World.size_drew] at hsz)))
        all_goals
          go_wp2_with fail
          go_meet
          refine ⟨_, _, rfl, rfl, ?_, ?_⟩
          · first | (exact own_up (OwnF.below ho (by (repeat' (first | (with_reducible exact Below.refl _ _) | (with_reducible refine Below.alloc ?_ ?_ _) | (with_reducible refine Below.setCell ?_ ?_ _) | (with_reducible refine Below.drew ?_) | (with_reducible refine below_drewN ?_ _) | (with_reducible assumption) | (with_reducible refine below_after (by with_reducible assumption) ?_) | go_size)))) (by first | omega | (simp only [World.size_alloc, World.size_drew, World.size_setCell]; omega))) | (refine own_up ho ?_; first | omega | (simp only [World.size_alloc, World.size_drew, World.size_setCell]; omega))
          · first | ((repeat' (first | (with_reducible exact Below.refl _ _) | (with_reducible refine Below.alloc ?_ ?_ _) | (with_reducible refine Below.setCell ?_ ?_ _) | (with_reducible refine Below.drew ?_) | (with_reducible refine below_drewN ?_ _) | (with_reducible assumption) | (with_reducible refine below_after (by with_reducible assumption) ?_) | go_size)); done) | exact hb
      case rest =>
        obtain ⟨a2, c2, rfl, rfl, o2, hBz⟩ := hcut
        obtain ⟨w6, rfl⟩ : ∃ w6, w6 = wc := ⟨_, rfl⟩
        have O2 := Lib.hid o2
        have O0d := Lib.hid (OwnF.below O0c.out hBz)
        have O1d := Lib.hid (OwnF.below O1c.out hBz)
        have HB6 : Hid (Below wB.heap.size wB w6) := HB4.out.trans (hBz.mono hx4)
        clear o2
        go_wp2_with fail
        refine (eqPointS_same _ _ _ _ _ _ _ O2.out O0d.out (by omega)).mono ?_
        rintro e w7 ⟨rfl, b7⟩
        have O1e := Lib.hid (OwnF.below O1d.out b7)
        have HB7 : Hid (Below wB.heap.size wB w7) := below_after b7 HB6.out
        go_wp2_with fail
        go_at_call 23
        refine (heldPointS_marks _ _ _ _ _ O1e.out (by omega) (by omega) (by omega)).mono ?_
        rintro e w8 ⟨rfl, rfl⟩
        go_wp2
        go_ret
        exact ⟨rfl, below_after HB7.out HBW.out⟩

theorem walkFnExactReducePair (x0 x1 x2 x3 : Int) (wx0 : (Lit.int .i64 x0).wf = true) (wx1 : (Lit.int .i64 x1).wf = true) (wx2 : (Lit.int .i64 x2).wf = true) (wx3 : (Lit.int .i64 x3).wf = true) (w : World) :
    Calls Try.prog 13 #[.agg #[.int .i64 x0, .int .i64 x1], .agg #[.int .i64 x2, .int .i64 x3]] w fun e w' => e = .returned (.bool true) ∧ Below w.heap.size w w' :=
  walkFnExactReducePair_any x0 x1 x2 x3 (prC x0 x1 x2 x3) (rpL x0 x1 x2 x3).length (flat (rpL x0 x1 x2 x3)) w (by have := rpL_len x0 x1 x2 x3; omega) (fun w => spec_ReducePair_any x0 x1 x2 x3 w) (fun w => impl_ReducePair_any x0 x1 x2 x3 w)
end Go.Proofs.Ytmjhejmkmdgikaa
