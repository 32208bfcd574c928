/-
  AreNeighbours: the model and the program, by one contract (own work).
-/
import Derived.Test.YtcaleapedomfmaaDoorNbAreNeighbours
namespace Go.Proofs.YtcaleapedomfmaaDoor
open Go.ChangeShapes Go.WideShapes Go.ChangeAt Go.RowKit Go.Shelf
set_option linter.unusedVariables false
set_option maxRecDepth 100000
set_option linter.unusedSimpArgs false
set_option maxRecDepth 100000

/-- Whether both are fractions and neighbours. -/
def anV (x0 y0 x1 y1 : Int) : Bool := allFr [(x0, y0), (x1, y1)] && nearB x0 y0 x1 y1
theorem spec_AreNeighbours_any (x0 y0 x1 y1 : Int) (w : World) :
    Calls Tryd.prog 13 #[.agg #[.int .i64 x0, .int .i64 y0], .agg #[.int .i64 x1, .int .i64 y1]] w fun e w' => e = .returned (.tuple #[.bool (anV x0 y0 x1 y1), .int .i64 (frE [(x0, y0), (x1, y1)])]) ∧ Below w.heap.size w w' := by
  unfold anV
  cases h : allFr [(x0, y0), (x1, y1)]
  · exact spec_AreNeighbours_fail x0 y0 x1 y1 _ w h rfl
  · rw [frE_yes h, Bool.true_and]
    obtain ⟨f0, f1⟩ := frs2 h
    have HK := Lib.hid (frE_yes h)
    have H0 := Lib.hid (isFr_pt f0)
    have H1 := Lib.hid (isFr_pt f1)
    clear h f0 f1
    have hs20 : w.heap.size < w.heap.size + 1 + 1 := (by omega); have hs30 : w.heap.size < w.heap.size + 1 + 1 + 1 := (by omega); have hs31 : w.heap.size + 1 < w.heap.size + 1 + 1 + 1 := (by omega); have hs40 : w.heap.size < w.heap.size + 1 + 1 + 1 + 1 := (by omega); have hs41 : w.heap.size + 1 < w.heap.size + 1 + 1 + 1 + 1 := (by omega); have hs42 : w.heap.size + 1 + 1 < w.heap.size + 1 + 1 + 1 + 1 := (by omega)
    go_enter Tryd.func13, Tryd.ntmps13
    go_wp2_with (first | (go_at_call 39; refine (l05Code2_any x0 y0 x1 y1 0 _ _ _ HK.out (by simp) (by go_cell) (by go_cell) (by go_cell) (by go_cell)).mono ?_; rintro e wn ⟨rfl, hb⟩; first | (have h2 := after_call2 hb hcl hfr hlt (by ((repeat' (first | (with_reducible exact Below.refl _ _) | (with_reducible refine Below.alloc ?_ ?_ _) | (with_reducible refine Below.setCell ?_ ?_ _) | (with_reducible refine Below.drew ?_) | (with_reducible refine below_drewN ?_ _) | (with_reducible assumption) | (with_reducible refine below_after (by with_reducible assumption) ?_) | go_size)); done)); obtain ⟨hclx, hfrx, hltx, hsz⟩ := after_call hb; (try simp only [World.size_alloc, World.size_setCell, World.size_drew] at hclx hfrx hltx hsz); (try (have hszl := Nat.lt_of_succ_le hsz)); obtain ⟨hcl, hfr, hlt⟩ := h2) | (obtain ⟨hcl, hfr, hlt, hsz⟩ := after_call hb; (try simp only [World.size_alloc, World.size_setCell, World.size_drew] at hcl hfr hlt hsz))) | (go_at_call 40; refine (l05Near_any _ _ _ _ _ H0.out H1.out).mono ?_; rintro e wn ⟨rfl, hb⟩; first | (have h2 := after_call2 hb hcl hfr hlt (by ((repeat' (first | (with_reducible exact Below.refl _ _) | (with_reducible refine Below.alloc ?_ ?_ _) | (with_reducible refine Below.setCell ?_ ?_ _) | (with_reducible refine Below.drew ?_) | (with_reducible refine below_drewN ?_ _) | (with_reducible assumption) | (with_reducible refine below_after (by with_reducible assumption) ?_) | go_size)); done)); obtain ⟨hclx, hfrx, hltx, hsz⟩ := after_call hb; (try simp only [World.size_alloc, World.size_setCell, World.size_drew] at hclx hfrx hltx hsz); (try (have hszl := Nat.lt_of_succ_le hsz)); obtain ⟨hcl, hfr, hlt⟩ := h2) | (obtain ⟨hcl, hfr, hlt, hsz⟩ := after_call hb; (try simp only [World.size_alloc, World.size_setCell, World.size_drew] at hcl hfr hlt hsz))))
    go_ret2
    exact ⟨rfl, by (repeat' (first | (with_reducible exact Below.refl _ _) | (with_reducible refine Below.alloc ?_ ?_ _) | (with_reducible refine Below.setCell ?_ ?_ _) | (with_reducible refine Below.drew ?_) | (with_reducible refine below_drewN ?_ _) | (with_reducible assumption) | (with_reducible refine below_after (by with_reducible assumption) ?_) | go_size))⟩
set_option maxHeartbeats 800000 in
theorem cl_AreNeighbours_ok (p q : Nat) (x0 y0 x1 y1 : Int) (a0 a1 : Addr) (W : World) (hs : Snt W a0 a1) (h : allFr [(x0, y0), (x1, y1)] = true) (c0 : W.cell? ⟨p, 0, none⟩ = some (.int .i64 x0)) (d0 : W.cell? ⟨p, 1, none⟩ = some (.int .i64 y0)) (c1 : W.cell? ⟨q, 0, none⟩ = some (.int .i64 x1)) (d1 : W.cell? ⟨q, 1, none⟩ = some (.int .i64 y1)) :
    Calls Tryd.prog 42 #[.pointer (some ⟨p, 0, none⟩), .pointer (some ⟨q, 0, none⟩)] W fun e w' => e = .returned (.tuple #[.bool (nearB x0 y0 x1 y1), .int .i64 0]) ∧ Below W.heap.size W w' := by
  have HE := Lib.hid (demE_yes (a0 := a0) (a1 := a1) h)
  have HS := Lib.hid hs
  obtain ⟨f0, f1⟩ := frs2 h
  have H0 := Lib.hid (isFr_pt f0)
  have H1 := Lib.hid (isFr_pt f1)
  have lp : p < W.heap.size := World.block_lt_of_cell? _ _ c0
  have lq : q < W.heap.size := World.block_lt_of_cell? _ _ c1
  have HX : Hid (∀ w', Below W.heap.size W w' → w'.cell? ⟨p, 0, none⟩ = some (.int .i64 x0) ∧ w'.cell? ⟨p, 1, none⟩ = some (.int .i64 y0) ∧ w'.cell? ⟨q, 0, none⟩ = some (.int .i64 x1) ∧ w'.cell? ⟨q, 1, none⟩ = some (.int .i64 y1)) := fun w' hw => ⟨(hw.cell (p := ⟨p, 0, none⟩) lp).trans c0, (hw.cell (p := ⟨p, 1, none⟩) lp).trans d0, (hw.cell (p := ⟨q, 0, none⟩) lq).trans c1, (hw.cell (p := ⟨q, 1, none⟩) lq).trans d1⟩
  clear hs h f0 f1
  go_enter Tryd.func42, Tryd.ntmps42
  go_wp2_with fail
  go_at_call 43
  refine (demand2_any x0 y0 x1 y1 a0 a1 _ _ _ _ HE.out (HS.out.below (by (repeat' (first | (with_reducible exact Below.refl _ _) | (with_reducible refine Below.alloc ?_ ?_ _) | (with_reducible refine Below.setCell ?_ ?_ _) | (with_reducible refine Below.drew ?_) | (with_reducible refine below_drewN ?_ _) | (with_reducible assumption) | (with_reducible refine below_after (by with_reducible assumption) ?_) | go_size)))) (by simp) (by go_cell) (by go_cell) (by go_cell) (by go_cell)).mono ?_
  rintro e w1 ⟨rfl, hb⟩
  have hb2 : Below W.heap.size W w1 := below_after hb (by (repeat' (first | (with_reducible exact Below.refl _ _) | (with_reducible refine Below.alloc ?_ ?_ _) | (with_reducible refine Below.setCell ?_ ?_ _) | (with_reducible refine Below.drew ?_) | (with_reducible refine below_drewN ?_ _) | (with_reducible assumption) | (with_reducible refine below_after (by with_reducible assumption) ?_) | go_size)))
  have HB := Lib.hid hb2
  clear hb hb2 c0 d0 c1 d1
  obtain ⟨c0, d0, c1, d1⟩ := HX.out _ HB.out
  go_wp2_with fail
  go_at_call 44
  refine (areNear_any _ _ _ _ _ H0.out H1.out).mono ?_
  rintro e w2 ⟨rfl, hb⟩
  have hb2 : Below W.heap.size W w2 := below_after hb HB.out
  clear hb c0 d0 c1 d1
  go_wp2_with fail
  go_ret2
  exact ⟨rfl, hb2⟩
theorem impl_AreNeighbours_any (x0 y0 x1 y1 : Int) (a0 a1 : Addr) (w : World) (hs : Snt w a0 a1) :
    Calls Tryd.prog 15 #[.agg #[.int .i64 x0, .int .i64 y0], .agg #[.int .i64 x1, .int .i64 y1]] w fun e w' => e = .returned (.tuple #[.bool (anV x0 y0 x1 y1), .int .i64 (frE [(x0, y0), (x1, y1)])]) ∧ Below w.heap.size w w' := by
  unfold anV
  cases h : allFr [(x0, y0), (x1, y1)]
  · exact impl_AreNeighbours_fail x0 y0 x1 y1 _ a0 a1 w hs h rfl
  · rw [frE_yes h, Bool.true_and]
    exact impl_AreNeighbours_of x0 y0 x1 y1 0 (.bool (nearB x0 y0 x1 y1)) a0 a1 w hs (fun p q W hs c0 d0 c1 d1 => cl_AreNeighbours_ok p q x0 y0 x1 y1 a0 a1 W hs h c0 d0 c1 d1)
end Go.Proofs.YtcaleapedomfmaaDoor
