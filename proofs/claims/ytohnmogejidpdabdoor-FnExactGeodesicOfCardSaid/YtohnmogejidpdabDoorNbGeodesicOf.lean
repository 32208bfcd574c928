/-
  GeodesicOf: where something is no fraction, and the frame round what lies behind the door (own work).
-/
import Derived.Shelf.Abstract
import Derived.Test.YtohnmogejidpdabDoorNb0
import Derived.Test.YtohnmogejidpdabDoorDoor
import Derived.Test.YtohnmogejidpdabDoorOwn
import Derived.Test.YtohnmogejidpdabDoorPtL
namespace Go.Proofs.YtohnmogejidpdabDoor
open Go.ChangeShapes Go.WideShapes Go.ChangeAt Go.RowKit Go.Shelf
set_option linter.unusedVariables false
set_option maxRecDepth 100000
set_option linter.unusedSimpArgs false
set_option maxRecDepth 100000

set_option maxHeartbeats 800000 in
theorem spec_GeodesicOf_fail (x0 y0 x1 y1 K : Int) (w : World) (h : allFr [(x0, y0), (x1, y1)] = false) (hK : frE [(x0, y0), (x1, y1)] = K) :
    Calls Tryd.prog 8 #[.agg #[.int .i64 x0, .int .i64 y0], .agg #[.int .i64 x1, .int .i64 y1]] w fun e w' => e = .returned (.tuple #[.slice none 0 0, .int .i64 K]) ∧ Below w.heap.size w w' := by
  obtain ⟨_, _, k1, k2, _⟩ := isFr_code (a0 := default) (a1 := default) h
  rw [hK] at k1 k2
  have HK := Lib.hid hK
  clear hK h
  have hs20 : w.heap.size < w.heap.size + 1 + 1 := (by omega); have hs30 : w.heap.size < w.heap.size + 1 + 1 + 1 := (by omega); have hs31 : w.heap.size + 1 < w.heap.size + 1 + 1 + 1 := (by omega); have hs40 : w.heap.size < w.heap.size + 1 + 1 + 1 + 1 := (by omega); have hs41 : w.heap.size + 1 < w.heap.size + 1 + 1 + 1 + 1 := (by omega); have hs42 : w.heap.size + 1 + 1 < w.heap.size + 1 + 1 + 1 + 1 := (by omega)
  go_enter Tryd.func8, Tryd.ntmps8
  go_wp2_with (go_at_call 22; refine (l05Code2_any x0 y0 x1 y1 K _ _ _ HK.out (by simp) (by go_cell) (by go_cell) (by go_cell) (by go_cell)).mono ?_; rintro e wn ⟨rfl, hb⟩; first | (have h2 := after_call2 hb hcl hfr hlt (by ((repeat' (first | (with_reducible exact Below.refl _ _) | (with_reducible refine Below.alloc ?_ ?_ _) | (with_reducible refine Below.setCell ?_ ?_ _) | (with_reducible refine Below.drew ?_) | (with_reducible refine below_drewN ?_ _) | (with_reducible assumption) | (with_reducible refine below_after (by with_reducible assumption) ?_) | go_size)); done)); obtain ⟨hclx, hfrx, hltx, hsz⟩ := after_call hb; (try simp only [World.size_alloc, World.size_setCell, World.size_drew] at hclx hfrx hltx hsz); (try (have hszl := Nat.lt_of_succ_le hsz)); obtain ⟨hcl, hfr, hlt⟩ := h2) | (obtain ⟨hcl, hfr, hlt, hsz⟩ := after_call hb; (try simp only [World.size_alloc, World.size_setCell, World.size_drew] at hcl hfr hlt hsz)))
  go_ret2
  exact ⟨rfl, by (repeat' (first | (with_reducible exact Below.refl _ _) | (with_reducible refine Below.alloc ?_ ?_ _) | (with_reducible refine Below.setCell ?_ ?_ _) | (with_reducible refine Below.drew ?_) | (with_reducible refine below_drewN ?_ _) | (with_reducible assumption) | (with_reducible refine below_after (by with_reducible assumption) ?_) | go_size))⟩
set_option maxHeartbeats 800000 in
theorem cl_GeodesicOf_pan (p q : Nat) (x0 y0 x1 y1 : Int) (a0 a1 a : Addr) (W : World) (hs : Snt W a0 a1) (hE : demE a0 a1 [(x0, y0), (x1, y1)] = pan a) (c0 : W.cell? ⟨p, 0, none⟩ = some (.int .i64 x0)) (d0 : W.cell? ⟨p, 1, none⟩ = some (.int .i64 y0)) (c1 : W.cell? ⟨q, 0, none⟩ = some (.int .i64 x1)) (d1 : W.cell? ⟨q, 1, none⟩ = some (.int .i64 y1)) :
    Calls Tryd.prog 31 #[.pointer (some ⟨p, 0, none⟩), .pointer (some ⟨q, 0, none⟩)] W fun e w' => e = pan a ∧ Below W.heap.size W w' := by
  have HE := Lib.hid hE
  have HS := Lib.hid hs
  have lp : p < W.heap.size := World.block_lt_of_cell? _ _ c0
  have lq : q < W.heap.size := World.block_lt_of_cell? _ _ c1
  clear hE hs
  go_enter Tryd.func31, Tryd.ntmps31
  go_wp2_with fail
  go_at_call 32
  refine (demand2_any x0 y0 x1 y1 a0 a1 _ _ _ _ HE.out (HS.out.below (by (repeat' (first | (with_reducible exact Below.refl _ _) | (with_reducible refine Below.alloc ?_ ?_ _) | (with_reducible refine Below.setCell ?_ ?_ _) | (with_reducible refine Below.drew ?_) | (with_reducible refine below_drewN ?_ _) | (with_reducible assumption) | (with_reducible refine below_after (by with_reducible assumption) ?_) | go_size)))) (by simp) (by go_cell) (by go_cell) (by go_cell) (by go_cell)).mono ?_
  rintro e w1 ⟨rfl, hb⟩
  have hb2 : Below W.heap.size W w1 := below_after hb (by (repeat' (first | (with_reducible exact Below.refl _ _) | (with_reducible refine Below.alloc ?_ ?_ _) | (with_reducible refine Below.setCell ?_ ?_ _) | (with_reducible refine Below.drew ?_) | (with_reducible refine below_drewN ?_ _) | (with_reducible assumption) | (with_reducible refine below_after (by with_reducible assumption) ?_) | go_size)))
  clear hb
  go_wp2_with fail
  exact ⟨rfl, rfl, hb2⟩
set_option maxHeartbeats 800000 in
theorem impl_GeodesicOf_fail (x0 y0 x1 y1 K : Int) (a0 a1 : Addr) (w : World) (hs : Snt w a0 a1) (h : allFr [(x0, y0), (x1, y1)] = false) (hK : frE [(x0, y0), (x1, y1)] = K) :
    Calls Tryd.prog 10 #[.agg #[.int .i64 x0, .int .i64 y0], .agg #[.int .i64 x1, .int .i64 y1]] w fun e w' => e = .returned (.tuple #[.slice none 0 0, .int .i64 K]) ∧ Below w.heap.size w w' := by
  obtain ⟨a, hE, _, _, hC⟩ := isFr_code (a0 := a0) (a1 := a1) h
  rw [hK] at hC
  have hmf : ∀ (fn : Fn) (first cap : Array Value) (w : World), (Instr.makeFunc fn first cap).run Tryd.prog w = .ok (.func fn first cap) w := fun _ _ _ _ => rfl
  have HE := Lib.hid hE
  have HC := Lib.hid hC
  have HS := Lib.hid hs
  clear hE hC hs h hK
  have hs20 : w.heap.size < w.heap.size + 1 + 1 := (by omega); have hs30 : w.heap.size < w.heap.size + 1 + 1 + 1 := (by omega); have hs31 : w.heap.size + 1 < w.heap.size + 1 + 1 + 1 := (by omega); have hs40 : w.heap.size < w.heap.size + 1 + 1 + 1 + 1 := (by omega); have hs41 : w.heap.size + 1 < w.heap.size + 1 + 1 + 1 + 1 := (by omega); have hs42 : w.heap.size + 1 + 1 < w.heap.size + 1 + 1 + 1 + 1 := (by omega)
  go_enter Tryd.func10, Tryd.ntmps10
  go_wp2_with fail
  go_at_call 30
  refine (door_pan_pts 31 _ a K _ (enters_of Tryd.func31 (by kernel_rfl) rfl) (fun W hW => HC.out W (HS.out.below (below_after hW (by (repeat' (first | (with_reducible exact Below.refl _ _) | (with_reducible refine Below.alloc ?_ ?_ _) | (with_reducible refine Below.setCell ?_ ?_ _) | (with_reducible refine Below.drew ?_) | (with_reducible refine below_drewN ?_ _) | (with_reducible assumption) | (with_reducible refine below_after (by with_reducible assumption) ?_) | go_size)))))) (fun W hW => cl_GeodesicOf_pan _ _ x0 y0 x1 y1 a0 a1 a W (HS.out.below (below_after hW (by (repeat' (first | (with_reducible exact Below.refl _ _) | (with_reducible refine Below.alloc ?_ ?_ _) | (with_reducible refine Below.setCell ?_ ?_ _) | (with_reducible refine Below.drew ?_) | (with_reducible refine below_drewN ?_ _) | (with_reducible assumption) | (with_reducible refine below_after (by with_reducible assumption) ?_) | go_size))))) HE.out ((hW.cell (p := ⟨w.heap.size, 0, none⟩) (by simp <;> omega)).trans (by go_cell)) ((hW.cell (p := ⟨w.heap.size, 1, none⟩) (by simp <;> omega)).trans (by go_cell)) ((hW.cell (p := ⟨w.heap.size + 1, 0, none⟩) (by simp <;> omega)).trans (by go_cell)) ((hW.cell (p := ⟨w.heap.size + 1, 1, none⟩) (by simp <;> omega)).trans (by go_cell)))).mono ?_
  rintro e w1 ⟨rfl, hb⟩
  have hb2 : Below w.heap.size w w1 := below_after hb (by (repeat' (first | (with_reducible exact Below.refl _ _) | (with_reducible refine Below.alloc ?_ ?_ _) | (with_reducible refine Below.setCell ?_ ?_ _) | (with_reducible refine Below.drew ?_) | (with_reducible refine below_drewN ?_ _) | (with_reducible assumption) | (with_reducible refine below_after (by with_reducible assumption) ?_) | go_size)))
  clear hb
  go_wp2_with fail
  go_ret2
  exact ⟨rfl, hb2⟩
set_option maxHeartbeats 800000 in
theorem impl_GeodesicOf_of (x0 y0 x1 y1 c : Int) (n : Nat) (zs : List Int) (a0 a1 : Addr) (w : World) (hs : Snt w a0 a1)
    (hcl : ∀ p q W, Snt W a0 a1 → W.cell? ⟨p, 0, none⟩ = some (.int .i64 x0) → W.cell? ⟨p, 1, none⟩ = some (.int .i64 y0) → W.cell? ⟨q, 0, none⟩ = some (.int .i64 x1) → W.cell? ⟨q, 1, none⟩ = some (.int .i64 y1) → Calls Tryd.prog 31 #[.pointer (some ⟨p, 0, none⟩), .pointer (some ⟨q, 0, none⟩)] W fun e w' => ∃ v, e = .returned (.tuple #[v, .int .i64 c]) ∧ OwnF W.heap.size w' v n zs ∧ Below W.heap.size W w') :
    Calls Tryd.prog 10 #[.agg #[.int .i64 x0, .int .i64 y0], .agg #[.int .i64 x1, .int .i64 y1]] w fun e w' => ∃ v, e = .returned (.tuple #[v, .int .i64 c]) ∧ OwnF w.heap.size w' v n zs ∧ Below w.heap.size w w' := by
  have hmf : ∀ (fn : Fn) (first cap : Array Value) (w : World), (Instr.makeFunc fn first cap).run Tryd.prog w = .ok (.func fn first cap) w := fun _ _ _ _ => rfl
  have HCL := Lib.hid hcl
  have HS := Lib.hid hs
  clear hcl hs
  have hs20 : w.heap.size < w.heap.size + 1 + 1 := (by omega); have hs30 : w.heap.size < w.heap.size + 1 + 1 + 1 := (by omega); have hs31 : w.heap.size + 1 < w.heap.size + 1 + 1 + 1 := (by omega); have hs40 : w.heap.size < w.heap.size + 1 + 1 + 1 + 1 := (by omega); have hs41 : w.heap.size + 1 < w.heap.size + 1 + 1 + 1 + 1 := (by omega); have hs42 : w.heap.size + 1 + 1 < w.heap.size + 1 + 1 + 1 + 1 := (by omega)
  go_enter Tryd.func10, Tryd.ntmps10
  go_wp2_with fail
  obtain ⟨wB, hwB⟩ : ∃ wB, wB = ((w.alloc (.cells #[.int .i64 x0, .int .i64 y0] 23)).alloc (.cells #[.int .i64 x1, .int .i64 y1] 23)) := ⟨_, rfl⟩
  rw [← hwB]
  have HBB : Hid (Below w.heap.size w wB) := by show Below w.heap.size w wB; rw [hwB]; (repeat' (first | (with_reducible exact Below.refl _ _) | (with_reducible refine Below.alloc ?_ ?_ _) | (with_reducible refine Below.setCell ?_ ?_ _) | (with_reducible refine Below.drew ?_) | (with_reducible refine below_drewN ?_ _) | (with_reducible assumption) | (with_reducible refine below_after (by with_reducible assumption) ?_) | go_size))
  have hzB : wB.heap.size = w.heap.size + 1 + 1 := by rw [hwB]; simp
  have HK : Hid (∀ W, Below wB.heap.size wB W → W.cell? ⟨w.heap.size, 0, none⟩ = some (.int .i64 x0) ∧ W.cell? ⟨w.heap.size, 1, none⟩ = some (.int .i64 y0) ∧ W.cell? ⟨w.heap.size + 1, 0, none⟩ = some (.int .i64 x1) ∧ W.cell? ⟨w.heap.size + 1, 1, none⟩ = some (.int .i64 y1)) := by
    intro W hW
    have hz := hzB
    have f00 : W.cell? ⟨w.heap.size, 0, none⟩ = some (.int .i64 x0) := (hW.cell (p := ⟨w.heap.size, 0, none⟩) (by show w.heap.size < _; omega)).trans (by rw [hwB]; go_cell)
    have f01 : W.cell? ⟨w.heap.size, 1, none⟩ = some (.int .i64 y0) := (hW.cell (p := ⟨w.heap.size, 1, none⟩) (by show w.heap.size < _; omega)).trans (by rw [hwB]; go_cell)
    have f10 : W.cell? ⟨w.heap.size + 1, 0, none⟩ = some (.int .i64 x1) := (hW.cell (p := ⟨w.heap.size + 1, 0, none⟩) (by show w.heap.size + 1 < _; omega)).trans (by rw [hwB]; go_cell)
    have f11 : W.cell? ⟨w.heap.size + 1, 1, none⟩ = some (.int .i64 y1) := (hW.cell (p := ⟨w.heap.size + 1, 1, none⟩) (by show w.heap.size + 1 < _; omega)).trans (by rw [hwB]; go_cell)
    exact ⟨f00, f01, f10, f11⟩
  clear hwB
  go_at_call 30
  refine (door_ret_pts 31 _ c (fun v W => OwnF (wB.heap.size + 1) W v n zs) wB (enters_of Tryd.func31 (by kernel_rfl) rfl) (fun v W x hv => ownsRow_setCell_below hv (Nat.lt_succ_self _) _) (fun W hW hlt => ?_)).mono ?_
  · refine (HCL.out _ _ W (HS.out.below (below_after hW HBB.out)) (HK.out W hW).1 (HK.out W hW).2.1 (HK.out W hW).2.2.1 (HK.out W hW).2.2.2).mono ?_
    rintro e w2 ⟨v, rfl, hv, hb⟩
    exact ⟨v, rfl, own_up hv hlt, hb⟩
  rintro e w1 ⟨v, rfl, hv, hb⟩
  obtain ⟨va, vc, rfl, _⟩ := own_viewF hv
  have HV : Hid (OwnF w.heap.size w1 (.slice va n vc) n zs) := own_up hv (by have := HBB.out.size; omega)
  have hb2 : Below w.heap.size w w1 := below_after hb HBB.out
  clear hb hv
  go_wp2_with fail
  go_ret2
  exact ⟨_, rfl, HV.out, hb2⟩
end Go.Proofs.YtohnmogejidpdabDoor
