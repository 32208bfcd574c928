/-
  ReflectFraction: where something is no fraction, and the frame round what lies behind the door (own work).
-/
import Derived.Shelf.Abstract
import Derived.Test.YtcaleapedomfmaaDoorNb0
import Derived.Test.YtcaleapedomfmaaDoorDoor
import Derived.Test.YtcaleapedomfmaaDoorOwn
import Derived.Test.YtcaleapedomfmaaDoorPtL
namespace Go.Proofs.YtcaleapedomfmaaDoor
open Go.ChangeShapes Go.WideShapes Go.ChangeAt Go.RowKit Go.Shelf
set_option linter.unusedVariables false
set_option maxRecDepth 100000
set_option linter.unusedSimpArgs false
set_option maxRecDepth 100000

set_option maxHeartbeats 800000 in
theorem spec_ReflectFraction_fail (x0 y0 x1 y1 x2 y2 K : Int) (w : World) (h : allFr [(x0, y0), (x1, y1), (x2, y2)] = false) (hK : frE [(x0, y0), (x1, y1), (x2, y2)] = K) :
    Calls Tryd.prog 21 #[.agg #[.int .i64 x0, .int .i64 y0], .agg #[.int .i64 x1, .int .i64 y1], .agg #[.int .i64 x2, .int .i64 y2]] w fun e w' => e = .returned (.tuple #[.agg #[.int .i64 0, .int .i64 0], .int .i64 K]) ∧ Below w.heap.size w w' := by
  obtain ⟨_, _, k1, k2, _⟩ := isFr_code (a0 := default) (a1 := default) h
  rw [hK] at k1 k2
  have HK := Lib.hid hK
  clear hK h
  have hs20 : w.heap.size < w.heap.size + 1 + 1 := (by omega); have hs30 : w.heap.size < w.heap.size + 1 + 1 + 1 := (by omega); have hs31 : w.heap.size + 1 < w.heap.size + 1 + 1 + 1 := (by omega); have hs40 : w.heap.size < w.heap.size + 1 + 1 + 1 + 1 := (by omega); have hs41 : w.heap.size + 1 < w.heap.size + 1 + 1 + 1 + 1 := (by omega); have hs42 : w.heap.size + 1 + 1 < w.heap.size + 1 + 1 + 1 + 1 := (by omega); have hs50 : w.heap.size < w.heap.size + 1 + 1 + 1 + 1 + 1 := (by omega); have hs51 : w.heap.size + 1 < w.heap.size + 1 + 1 + 1 + 1 + 1 := (by omega); have hs52 : w.heap.size + 1 + 1 < w.heap.size + 1 + 1 + 1 + 1 + 1 := (by omega); have hs53 : w.heap.size + 1 + 1 + 1 < w.heap.size + 1 + 1 + 1 + 1 + 1 := (by omega)
  go_enter Tryd.func21, Tryd.ntmps21
  go_wp2_with (go_at_call 39; refine (l05Code3_any x0 y0 x1 y1 x2 y2 K _ _ _ HK.out (by simp) (by go_cell) (by go_cell) (by go_cell) (by go_cell) (by go_cell) (by go_cell)).mono ?_; rintro e wn ⟨rfl, hb⟩; first | (have h2 := after_call2 hb hcl hfr hlt (by ((repeat' (first | (with_reducible exact Below.refl _ _) | (with_reducible refine Below.alloc ?_ ?_ _) | (with_reducible refine Below.setCell ?_ ?_ _) | (with_reducible refine Below.drew ?_) | (with_reducible refine below_drewN ?_ _) | (with_reducible assumption) | (with_reducible refine below_after (by with_reducible assumption) ?_) | go_size)); done)); obtain ⟨hclx, hfrx, hltx, hsz⟩ := after_call hb; (try simp only [World.size_alloc, World.size_setCell, World.size_drew] at hclx hfrx hltx hsz); (try (have hszl := Nat.lt_of_succ_le hsz)); obtain ⟨hcl, hfr, hlt⟩ := h2) | (obtain ⟨hcl, hfr, hlt, hsz⟩ := after_call hb; (try simp only [World.size_alloc, World.size_setCell, World.size_drew] at hcl hfr hlt hsz)))
  refine bodyPost_ret (v := .tuple #[.agg #[.int .i64 0, .int .i64 0], .int .i64 K]) (by simp (maxDischargeDepth := 8) [results, Tryd.results21, go_sem, *]) rfl ?_
  exact ⟨rfl, by (repeat' (first | (with_reducible exact Below.refl _ _) | (with_reducible refine Below.alloc ?_ ?_ _) | (with_reducible refine Below.setCell ?_ ?_ _) | (with_reducible refine Below.drew ?_) | (with_reducible refine below_drewN ?_ _) | (with_reducible assumption) | (with_reducible refine below_after (by with_reducible assumption) ?_) | go_size))⟩
set_option maxHeartbeats 800000 in
theorem cl_ReflectFraction_pan (p q r : Nat) (x0 y0 x1 y1 x2 y2 : Int) (a0 a1 a : Addr) (W : World) (hs : Snt W a0 a1) (hE : demE a0 a1 [(x0, y0), (x1, y1), (x2, y2)] = pan a) (c0 : W.cell? ⟨p, 0, none⟩ = some (.int .i64 x0)) (d0 : W.cell? ⟨p, 1, none⟩ = some (.int .i64 y0)) (c1 : W.cell? ⟨q, 0, none⟩ = some (.int .i64 x1)) (d1 : W.cell? ⟨q, 1, none⟩ = some (.int .i64 y1)) (c2 : W.cell? ⟨r, 0, none⟩ = some (.int .i64 x2)) (d2 : W.cell? ⟨r, 1, none⟩ = some (.int .i64 y2)) :
    Calls Tryd.prog 53 #[.pointer (some ⟨p, 0, none⟩), .pointer (some ⟨q, 0, none⟩), .pointer (some ⟨r, 0, none⟩)] W fun e w' => e = pan a ∧ Below W.heap.size W w' := by
  have HE := Lib.hid hE
  have HS := Lib.hid hs
  have lp : p < W.heap.size := World.block_lt_of_cell? _ _ c0
  have lq : q < W.heap.size := World.block_lt_of_cell? _ _ c1
  have lr : r < W.heap.size := World.block_lt_of_cell? _ _ c2
  clear hE hs
  go_enter Tryd.func53, Tryd.ntmps53
  go_wp2_with fail
  go_at_call 43
  refine (demand3_any x0 y0 x1 y1 x2 y2 a0 a1 _ _ _ _ HE.out (HS.out.below (by (repeat' (first | (with_reducible exact Below.refl _ _) | (with_reducible refine Below.alloc ?_ ?_ _) | (with_reducible refine Below.setCell ?_ ?_ _) | (with_reducible refine Below.drew ?_) | (with_reducible refine below_drewN ?_ _) | (with_reducible assumption) | (with_reducible refine below_after (by with_reducible assumption) ?_) | go_size)))) (by simp) (by go_cell) (by go_cell) (by go_cell) (by go_cell) (by go_cell) (by go_cell)).mono ?_
  rintro e w1 ⟨rfl, hb⟩
  have hb2 : Below W.heap.size W w1 := below_after hb (by (repeat' (first | (with_reducible exact Below.refl _ _) | (with_reducible refine Below.alloc ?_ ?_ _) | (with_reducible refine Below.setCell ?_ ?_ _) | (with_reducible refine Below.drew ?_) | (with_reducible refine below_drewN ?_ _) | (with_reducible assumption) | (with_reducible refine below_after (by with_reducible assumption) ?_) | go_size)))
  clear hb
  go_wp2_with fail
  exact ⟨rfl, rfl, hb2⟩
set_option maxHeartbeats 800000 in
theorem impl_ReflectFraction_fail (x0 y0 x1 y1 x2 y2 K : Int) (a0 a1 : Addr) (w : World) (hs : Snt w a0 a1) (h : allFr [(x0, y0), (x1, y1), (x2, y2)] = false) (hK : frE [(x0, y0), (x1, y1), (x2, y2)] = K) :
    Calls Tryd.prog 22 #[.agg #[.int .i64 x0, .int .i64 y0], .agg #[.int .i64 x1, .int .i64 y1], .agg #[.int .i64 x2, .int .i64 y2]] w fun e w' => e = .returned (.tuple #[.agg #[.int .i64 0, .int .i64 0], .int .i64 K]) ∧ Below w.heap.size w w' := by
  obtain ⟨a, hE, _, _, hC⟩ := isFr_code (a0 := a0) (a1 := a1) h
  rw [hK] at hC
  have hmf : ∀ (fn : Fn) (first cap : Array Value) (w : World), (Instr.makeFunc fn first cap).run Tryd.prog w = .ok (.func fn first cap) w := fun _ _ _ _ => rfl
  have HE := Lib.hid hE
  have HC := Lib.hid hC
  have HS := Lib.hid hs
  clear hE hC hs h hK
  have hs20 : w.heap.size < w.heap.size + 1 + 1 := (by omega); have hs30 : w.heap.size < w.heap.size + 1 + 1 + 1 := (by omega); have hs31 : w.heap.size + 1 < w.heap.size + 1 + 1 + 1 := (by omega); have hs40 : w.heap.size < w.heap.size + 1 + 1 + 1 + 1 := (by omega); have hs41 : w.heap.size + 1 < w.heap.size + 1 + 1 + 1 + 1 := (by omega); have hs42 : w.heap.size + 1 + 1 < w.heap.size + 1 + 1 + 1 + 1 := (by omega); have hs50 : w.heap.size < w.heap.size + 1 + 1 + 1 + 1 + 1 := (by omega); have hs51 : w.heap.size + 1 < w.heap.size + 1 + 1 + 1 + 1 + 1 := (by omega); have hs52 : w.heap.size + 1 + 1 < w.heap.size + 1 + 1 + 1 + 1 + 1 := (by omega); have hs53 : w.heap.size + 1 + 1 + 1 < w.heap.size + 1 + 1 + 1 + 1 + 1 := (by omega)
  go_enter Tryd.func22, Tryd.ntmps22
  go_wp2_with fail
  go_at_call 52
  refine (door_pan_pt 53 _ a K _ (enters_of Tryd.func53 (by kernel_rfl) rfl) (fun W hW => HC.out W (HS.out.below (below_after hW (by (repeat' (first | (with_reducible exact Below.refl _ _) | (with_reducible refine Below.alloc ?_ ?_ _) | (with_reducible refine Below.setCell ?_ ?_ _) | (with_reducible refine Below.drew ?_) | (with_reducible refine below_drewN ?_ _) | (with_reducible assumption) | (with_reducible refine below_after (by with_reducible assumption) ?_) | go_size)))))) (fun W hW => cl_ReflectFraction_pan _ _ _ x0 y0 x1 y1 x2 y2 a0 a1 a W (HS.out.below (below_after hW (by (repeat' (first | (with_reducible exact Below.refl _ _) | (with_reducible refine Below.alloc ?_ ?_ _) | (with_reducible refine Below.setCell ?_ ?_ _) | (with_reducible refine Below.drew ?_) | (with_reducible refine below_drewN ?_ _) | (with_reducible assumption) | (with_reducible refine below_after (by with_reducible assumption) ?_) | go_size))))) HE.out ((hW.cell (p := ⟨w.heap.size, 0, none⟩) (by simp <;> omega)).trans (by go_cell)) ((hW.cell (p := ⟨w.heap.size, 1, none⟩) (by simp <;> omega)).trans (by go_cell)) ((hW.cell (p := ⟨w.heap.size + 1, 0, none⟩) (by simp <;> omega)).trans (by go_cell)) ((hW.cell (p := ⟨w.heap.size + 1, 1, none⟩) (by simp <;> omega)).trans (by go_cell)) ((hW.cell (p := ⟨w.heap.size + 1 + 1, 0, none⟩) (by simp <;> omega)).trans (by go_cell)) ((hW.cell (p := ⟨w.heap.size + 1 + 1, 1, none⟩) (by simp <;> omega)).trans (by go_cell)))).mono ?_
  rintro e w1 ⟨rfl, hb⟩
  have hb2 : Below w.heap.size w w1 := below_after hb (by (repeat' (first | (with_reducible exact Below.refl _ _) | (with_reducible refine Below.alloc ?_ ?_ _) | (with_reducible refine Below.setCell ?_ ?_ _) | (with_reducible refine Below.drew ?_) | (with_reducible refine below_drewN ?_ _) | (with_reducible assumption) | (with_reducible refine below_after (by with_reducible assumption) ?_) | go_size)))
  have r0 : w1.cell? ⟨w.heap.size + 1 + 1 + 1, 0, none⟩ = some (.int .i64 0) := (hb.cell (p := ⟨w.heap.size + 1 + 1 + 1, 0, none⟩) (by simp <;> omega)).trans (by go_cell)
  have r1 : w1.cell? ⟨w.heap.size + 1 + 1 + 1, 1, none⟩ = some (.int .i64 0) := (hb.cell (p := ⟨w.heap.size + 1 + 1 + 1, 1, none⟩) (by simp <;> omega)).trans (by go_cell)
  have s0 : w1.frozen? ⟨w.heap.size + 1 + 1 + 1, 0, none⟩ = false := by rw [(bcell hb).2 _ _ (by simp <;> omega)]; go_cell
  have s1 : w1.frozen? ⟨w.heap.size + 1 + 1 + 1, 1, none⟩ = false := by rw [(bcell hb).2 _ _ (by simp <;> omega)]; go_cell
  clear hb
  go_wp2_with fail
  refine bodyPost_ret (v := .tuple #[.agg #[.int .i64 0, .int .i64 0], .int .i64 K]) (by simp (maxDischargeDepth := 8) [results, Tryd.results22, go_sem, *]) rfl ?_
  exact ⟨rfl, Below.setCell (Below.setCell hb2 (by show w.heap.size ≤ w.heap.size + 1 + 1 + 1; omega) _) (by show w.heap.size ≤ w.heap.size + 1 + 1 + 1; omega) _⟩
set_option maxHeartbeats 800000 in
theorem impl_ReflectFraction_of (x0 y0 x1 y1 x2 y2 X Y c : Int) (a0 a1 : Addr) (w : World) (hs : Snt w a0 a1)
    (hcl : ∀ p q r W, Snt W a0 a1 → W.cell? ⟨p, 0, none⟩ = some (.int .i64 x0) → W.cell? ⟨p, 1, none⟩ = some (.int .i64 y0) → W.cell? ⟨q, 0, none⟩ = some (.int .i64 x1) → W.cell? ⟨q, 1, none⟩ = some (.int .i64 y1) → W.cell? ⟨r, 0, none⟩ = some (.int .i64 x2) → W.cell? ⟨r, 1, none⟩ = some (.int .i64 y2) → Calls Tryd.prog 53 #[.pointer (some ⟨p, 0, none⟩), .pointer (some ⟨q, 0, none⟩), .pointer (some ⟨r, 0, none⟩)] W fun e w' => e = .returned (.tuple #[.agg #[.int .i64 X, .int .i64 Y], .int .i64 c]) ∧ Below W.heap.size W w') :
    Calls Tryd.prog 22 #[.agg #[.int .i64 x0, .int .i64 y0], .agg #[.int .i64 x1, .int .i64 y1], .agg #[.int .i64 x2, .int .i64 y2]] w fun e w' => e = .returned (.tuple #[.agg #[.int .i64 X, .int .i64 Y], .int .i64 c]) ∧ Below w.heap.size w w' := by
  have hmf : ∀ (fn : Fn) (first cap : Array Value) (w : World), (Instr.makeFunc fn first cap).run Tryd.prog w = .ok (.func fn first cap) w := fun _ _ _ _ => rfl
  have HCL := Lib.hid hcl
  have HS := Lib.hid hs
  clear hcl hs
  have hs20 : w.heap.size < w.heap.size + 1 + 1 := (by omega); have hs30 : w.heap.size < w.heap.size + 1 + 1 + 1 := (by omega); have hs31 : w.heap.size + 1 < w.heap.size + 1 + 1 + 1 := (by omega); have hs40 : w.heap.size < w.heap.size + 1 + 1 + 1 + 1 := (by omega); have hs41 : w.heap.size + 1 < w.heap.size + 1 + 1 + 1 + 1 := (by omega); have hs42 : w.heap.size + 1 + 1 < w.heap.size + 1 + 1 + 1 + 1 := (by omega); have hs50 : w.heap.size < w.heap.size + 1 + 1 + 1 + 1 + 1 := (by omega); have hs51 : w.heap.size + 1 < w.heap.size + 1 + 1 + 1 + 1 + 1 := (by omega); have hs52 : w.heap.size + 1 + 1 < w.heap.size + 1 + 1 + 1 + 1 + 1 := (by omega); have hs53 : w.heap.size + 1 + 1 + 1 < w.heap.size + 1 + 1 + 1 + 1 + 1 := (by omega)
  go_enter Tryd.func22, Tryd.ntmps22
  go_wp2_with fail
  go_at_call 52
  refine (door_ret_pt 53 _ X Y c _ (enters_of Tryd.func53 (by kernel_rfl) rfl) (fun W hW => HCL.out _ _ _ W (HS.out.below (below_after hW (by (repeat' (first | (with_reducible exact Below.refl _ _) | (with_reducible refine Below.alloc ?_ ?_ _) | (with_reducible refine Below.setCell ?_ ?_ _) | (with_reducible refine Below.drew ?_) | (with_reducible refine below_drewN ?_ _) | (with_reducible assumption) | (with_reducible refine below_after (by with_reducible assumption) ?_) | go_size))))) ((hW.cell (p := ⟨w.heap.size, 0, none⟩) (by simp <;> omega)).trans (by go_cell)) ((hW.cell (p := ⟨w.heap.size, 1, none⟩) (by simp <;> omega)).trans (by go_cell)) ((hW.cell (p := ⟨w.heap.size + 1, 0, none⟩) (by simp <;> omega)).trans (by go_cell)) ((hW.cell (p := ⟨w.heap.size + 1, 1, none⟩) (by simp <;> omega)).trans (by go_cell)) ((hW.cell (p := ⟨w.heap.size + 1 + 1, 0, none⟩) (by simp <;> omega)).trans (by go_cell)) ((hW.cell (p := ⟨w.heap.size + 1 + 1, 1, none⟩) (by simp <;> omega)).trans (by go_cell)))).mono ?_
  rintro e w1 ⟨rfl, hb⟩
  have hb2 : Below w.heap.size w w1 := below_after hb (by (repeat' (first | (with_reducible exact Below.refl _ _) | (with_reducible refine Below.alloc ?_ ?_ _) | (with_reducible refine Below.setCell ?_ ?_ _) | (with_reducible refine Below.drew ?_) | (with_reducible refine below_drewN ?_ _) | (with_reducible assumption) | (with_reducible refine below_after (by with_reducible assumption) ?_) | go_size)))
  have r0 : w1.cell? ⟨w.heap.size + 1 + 1 + 1, 0, none⟩ = some (.int .i64 0) := (hb.cell (p := ⟨w.heap.size + 1 + 1 + 1, 0, none⟩) (by simp <;> omega)).trans (by go_cell)
  have r1 : w1.cell? ⟨w.heap.size + 1 + 1 + 1, 1, none⟩ = some (.int .i64 0) := (hb.cell (p := ⟨w.heap.size + 1 + 1 + 1, 1, none⟩) (by simp <;> omega)).trans (by go_cell)
  have s0 : w1.frozen? ⟨w.heap.size + 1 + 1 + 1, 0, none⟩ = false := by rw [(bcell hb).2 _ _ (by simp <;> omega)]; go_cell
  have s1 : w1.frozen? ⟨w.heap.size + 1 + 1 + 1, 1, none⟩ = false := by rw [(bcell hb).2 _ _ (by simp <;> omega)]; go_cell
  clear hb
  go_wp2_with fail
  refine bodyPost_ret (v := .tuple #[.agg #[.int .i64 X, .int .i64 Y], .int .i64 c]) (by simp (maxDischargeDepth := 8) [results, Tryd.results22, go_sem, *]) rfl ?_
  exact ⟨rfl, Below.setCell (Below.setCell hb2 (by show w.heap.size ≤ w.heap.size + 1 + 1 + 1; omega) _) (by show w.heap.size ≤ w.heap.size + 1 + 1 + 1; omega) _⟩
end Go.Proofs.YtcaleapedomfmaaDoor
