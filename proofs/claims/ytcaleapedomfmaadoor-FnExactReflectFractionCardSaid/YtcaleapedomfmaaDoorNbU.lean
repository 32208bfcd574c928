/-
  Sums and differences of neighbours in the program, through the door; both laws (own work).
-/
import Derived.Test.YtcaleapedomfmaaDoorNbT
namespace Go.Proofs.YtcaleapedomfmaaDoor
open Go.ChangeShapes Go.WideShapes Go.ChangeAt Go.RowKit Go.Shelf
set_option linter.unusedVariables false
set_option maxRecDepth 100000
set_option linter.unusedSimpArgs false
set_option maxRecDepth 100000

set_option maxHeartbeats 1600000 in
theorem made_fail (x0 y0 x1 y1 K : Int) (J : FuncId) (a0 a1 : Addr) (w : World) (hs : Snt w a0 a1) (h : allFr [(x0, y0), (x1, y1)] = false) (hK : frE [(x0, y0), (x1, y1)] = K) :
    Calls Tryd.prog 46 #[.agg #[.int .i64 x0, .int .i64 y0], .agg #[.int .i64 x1, .int .i64 y1], .func (.func J) #[] #[]] w fun e w' => e = .returned (.tuple #[.agg #[.int .i64 0, .int .i64 0], .int .i64 K]) ∧ Below w.heap.size w w' := by
  obtain ⟨a, hE, _, _, hC⟩ := isFr_code (a0 := a0) (a1 := a1) h
  rw [hK] at hC
  have hmf : ∀ (fn : Fn) (first cap : Array Value) (w : World), (Instr.makeFunc fn first cap).run Tryd.prog w = .ok (.func fn first cap) w := fun _ _ _ _ => rfl
  have HE := Lib.hid hE
  have HC := Lib.hid hC
  have HS := Lib.hid hs
  clear hE hC hs h hK
  have hs20 : w.heap.size < w.heap.size + 1 + 1 := (by omega); have hs30 : w.heap.size < w.heap.size + 1 + 1 + 1 := (by omega); have hs31 : w.heap.size + 1 < w.heap.size + 1 + 1 + 1 := (by omega); have hs40 : w.heap.size < w.heap.size + 1 + 1 + 1 + 1 := (by omega); have hs41 : w.heap.size + 1 < w.heap.size + 1 + 1 + 1 + 1 := (by omega); have hs42 : w.heap.size + 1 + 1 < w.heap.size + 1 + 1 + 1 + 1 := (by omega)
  go_enter Tryd.func46, Tryd.ntmps46
  go_wp2_with fail
  go_at_call 52
  refine (door_pan_pt 96 _ a K _ (enters_of Tryd.func96 (by kernel_rfl) rfl) (fun W hW => HC.out W (HS.out.below (below_after hW (by (repeat' (first | (with_reducible exact Below.refl _ _) | (with_reducible refine Below.alloc ?_ ?_ _) | (with_reducible refine Below.setCell ?_ ?_ _) | (with_reducible refine Below.drew ?_) | (with_reducible refine below_drewN ?_ _) | (with_reducible assumption) | (with_reducible refine below_after (by with_reducible assumption) ?_) | go_size)))))) (fun W hW => cl_made_pan _ _ _ x0 y0 x1 y1 a0 a1 a W (HS.out.below (below_after hW (by (repeat' (first | (with_reducible exact Below.refl _ _) | (with_reducible refine Below.alloc ?_ ?_ _) | (with_reducible refine Below.setCell ?_ ?_ _) | (with_reducible refine Below.drew ?_) | (with_reducible refine below_drewN ?_ _) | (with_reducible assumption) | (with_reducible refine below_after (by with_reducible assumption) ?_) | go_size))))) HE.out ((hW.cell (p := ⟨w.heap.size, 0, none⟩) (by simp <;> omega)).trans (by go_cell)) ((hW.cell (p := ⟨w.heap.size, 1, none⟩) (by simp <;> omega)).trans (by go_cell)) ((hW.cell (p := ⟨w.heap.size + 1, 0, none⟩) (by simp <;> omega)).trans (by go_cell)) ((hW.cell (p := ⟨w.heap.size + 1, 1, none⟩) (by simp <;> omega)).trans (by go_cell)))).mono ?_
  rintro e w1 ⟨rfl, hb⟩
  have hb2 : Below w.heap.size w w1 := below_after hb (by (repeat' (first | (with_reducible exact Below.refl _ _) | (with_reducible refine Below.alloc ?_ ?_ _) | (with_reducible refine Below.setCell ?_ ?_ _) | (with_reducible refine Below.drew ?_) | (with_reducible refine below_drewN ?_ _) | (with_reducible assumption) | (with_reducible refine below_after (by with_reducible assumption) ?_) | go_size)))
  have r0 : w1.cell? ⟨w.heap.size + 1 + 1 + 1, 0, none⟩ = some (.int .i64 0) := (hb.cell (p := ⟨w.heap.size + 1 + 1 + 1, 0, none⟩) (by simp <;> omega)).trans (by go_cell)
  have r1 : w1.cell? ⟨w.heap.size + 1 + 1 + 1, 1, none⟩ = some (.int .i64 0) := (hb.cell (p := ⟨w.heap.size + 1 + 1 + 1, 1, none⟩) (by simp <;> omega)).trans (by go_cell)
  have s0 : w1.frozen? ⟨w.heap.size + 1 + 1 + 1, 0, none⟩ = false := by rw [(bcell hb).2 _ _ (by simp <;> omega)]; go_cell
  have s1 : w1.frozen? ⟨w.heap.size + 1 + 1 + 1, 1, none⟩ = false := by rw [(bcell hb).2 _ _ (by simp <;> omega)]; go_cell
  clear hb
  go_wp2_with fail
  refine bodyPost_ret (v := .tuple #[.agg #[.int .i64 0, .int .i64 0], .int .i64 K]) (by simp (maxDischargeDepth := 8) [results, Tryd.results46, go_sem, *]) rfl ?_
  exact ⟨rfl, Below.setCell (Below.setCell hb2 (by show w.heap.size ≤ w.heap.size + 1 + 1 + 1; omega) _) (by show w.heap.size ≤ w.heap.size + 1 + 1 + 1; omega) _⟩
set_option maxHeartbeats 1600000 in
theorem made_ok (x0 y0 x1 y1 U V c X Y : Int) (hc : sbK x0 y0 x1 y1 U V = c) (hX : onz c U = X) (hY : onz c V = Y) (J : FuncId) (a0 a1 : Addr) (w : World) (eJ : ∀ args w, (callFunc J args).run Tryd.prog w = .ok (.enter J args) w) (hs : Snt w a0 a1) (h : allFr [(x0, y0), (x1, y1)] = true)
    (hJ : ∀ w, Calls Tryd.prog J #[.agg #[.int .i64 x0, .int .i64 y0], .agg #[.int .i64 x1, .int .i64 y1]] w fun e w' => e = .returned (.agg #[.int .i64 U, .int .i64 V]) ∧ Below w.heap.size w w') :
    Calls Tryd.prog 46 #[.agg #[.int .i64 x0, .int .i64 y0], .agg #[.int .i64 x1, .int .i64 y1], .func (.func J) #[] #[]] w fun e w' => e = .returned (.tuple #[.agg #[.int .i64 X, .int .i64 Y], .int .i64 c]) ∧ Below w.heap.size w w' := by
  have hmf : ∀ (fn : Fn) (first cap : Array Value) (w : World), (Instr.makeFunc fn first cap).run Tryd.prog w = .ok (.func fn first cap) w := fun _ _ _ _ => rfl
  have HS := Lib.hid hs
  have HJ := Lib.hid hJ
  have HC : Hid (sbK x0 y0 x1 y1 U V = c ∧ onz c U = X ∧ onz c V = Y ∧ allFr [(x0, y0), (x1, y1)] = true) := ⟨hc, hX, hY, h⟩
  have HE : Hid (∀ args w, (callFunc J args).run Tryd.prog w = .ok (.enter J args) w) := eJ
  clear hs h hJ hc hX hY eJ
  have hs20 : w.heap.size < w.heap.size + 1 + 1 := (by omega); have hs30 : w.heap.size < w.heap.size + 1 + 1 + 1 := (by omega); have hs31 : w.heap.size + 1 < w.heap.size + 1 + 1 + 1 := (by omega); have hs40 : w.heap.size < w.heap.size + 1 + 1 + 1 + 1 := (by omega); have hs41 : w.heap.size + 1 < w.heap.size + 1 + 1 + 1 + 1 := (by omega); have hs42 : w.heap.size + 1 + 1 < w.heap.size + 1 + 1 + 1 + 1 := (by omega)
  go_enter Tryd.func46, Tryd.ntmps46
  go_wp2_with fail
  go_at_call 52
  refine (door_ret_pt 96 _ X Y c _ (enters_of Tryd.func96 (by kernel_rfl) rfl) (fun W hW => cl_made_ok _ _ _ x0 y0 x1 y1 U V c X Y HC.out.1 HC.out.2.1 HC.out.2.2.1 J a0 a1 W HE.out (HS.out.below (below_after hW (by (repeat' (first | (with_reducible exact Below.refl _ _) | (with_reducible refine Below.alloc ?_ ?_ _) | (with_reducible refine Below.setCell ?_ ?_ _) | (with_reducible refine Below.drew ?_) | (with_reducible refine below_drewN ?_ _) | (with_reducible assumption) | (with_reducible refine below_after (by with_reducible assumption) ?_) | go_size))))) HC.out.2.2.2 HJ.out ((hW.cell (p := ⟨w.heap.size, 0, none⟩) (by simp <;> omega)).trans (by go_cell)) ((hW.cell (p := ⟨w.heap.size, 1, none⟩) (by simp <;> omega)).trans (by go_cell)) ((hW.cell (p := ⟨w.heap.size + 1, 0, none⟩) (by simp <;> omega)).trans (by go_cell)) ((hW.cell (p := ⟨w.heap.size + 1, 1, none⟩) (by simp <;> omega)).trans (by go_cell)) ((hW.cell (p := ⟨w.heap.size + 1 + 1, 0, none⟩) (by simp <;> omega)).trans (by go_cell)))).mono ?_
  rintro e w1 ⟨rfl, hb⟩
  have hb2 : Below w.heap.size w w1 := below_after hb (by (repeat' (first | (with_reducible exact Below.refl _ _) | (with_reducible refine Below.alloc ?_ ?_ _) | (with_reducible refine Below.setCell ?_ ?_ _) | (with_reducible refine Below.drew ?_) | (with_reducible refine below_drewN ?_ _) | (with_reducible assumption) | (with_reducible refine below_after (by with_reducible assumption) ?_) | go_size)))
  have r0 : w1.cell? ⟨w.heap.size + 1 + 1 + 1, 0, none⟩ = some (.int .i64 0) := (hb.cell (p := ⟨w.heap.size + 1 + 1 + 1, 0, none⟩) (by simp <;> omega)).trans (by go_cell)
  have r1 : w1.cell? ⟨w.heap.size + 1 + 1 + 1, 1, none⟩ = some (.int .i64 0) := (hb.cell (p := ⟨w.heap.size + 1 + 1 + 1, 1, none⟩) (by simp <;> omega)).trans (by go_cell)
  have s0 : w1.frozen? ⟨w.heap.size + 1 + 1 + 1, 0, none⟩ = false := by rw [(bcell hb).2 _ _ (by simp <;> omega)]; go_cell
  have s1 : w1.frozen? ⟨w.heap.size + 1 + 1 + 1, 1, none⟩ = false := by rw [(bcell hb).2 _ _ (by simp <;> omega)]; go_cell
  clear hb
  go_wp2_with fail
  refine bodyPost_ret (v := .tuple #[.agg #[.int .i64 X, .int .i64 Y], .int .i64 c]) (by simp (maxDischargeDepth := 8) [results, Tryd.results46, go_sem, *]) rfl ?_
  exact ⟨rfl, Below.setCell (Below.setCell hb2 (by show w.heap.size ≤ w.heap.size + 1 + 1 + 1; omega) _) (by show w.heap.size ≤ w.heap.size + 1 + 1 + 1; omega) _⟩
theorem made_any (x0 y0 x1 y1 U V c X Y : Int) (hc : sbK x0 y0 x1 y1 U V = c) (hX : onz c U = X) (hY : onz c V = Y) (J : FuncId) (a0 a1 : Addr) (w : World) (eJ : ∀ args w, (callFunc J args).run Tryd.prog w = .ok (.enter J args) w) (hs : Snt w a0 a1)
    (hJ : allFr [(x0, y0), (x1, y1)] = true → ∀ w, Calls Tryd.prog J #[.agg #[.int .i64 x0, .int .i64 y0], .agg #[.int .i64 x1, .int .i64 y1]] w fun e w' => e = .returned (.agg #[.int .i64 U, .int .i64 V]) ∧ Below w.heap.size w w') :
    Calls Tryd.prog 46 #[.agg #[.int .i64 x0, .int .i64 y0], .agg #[.int .i64 x1, .int .i64 y1], .func (.func J) #[] #[]] w fun e w' => e = .returned (.tuple #[.agg #[.int .i64 X, .int .i64 Y], .int .i64 c]) ∧ Below w.heap.size w w' := by
  cases h : allFr [(x0, y0), (x1, y1)]
  · have hk := sbK_fr (X := U) (Y := V) h
    have hn := frE_ne h
    rw [hk] at hc
    rw [hc] at hn
    obtain rfl : 0 = X := (onz_no hn).symm.trans hX
    obtain rfl : 0 = Y := (onz_no hn).symm.trans hY
    exact made_fail x0 y0 x1 y1 c J a0 a1 w hs h hc
  · exact made_ok x0 y0 x1 y1 U V c X Y hc hX hY J a0 a1 w eJ hs h (hJ h)
set_option maxHeartbeats 800000 in
theorem spec_SumOfNeighbours_any (x0 y0 x1 y1 c U V X Y : Int) (w : World) (hU : frX (x0 + (1) * x1) (y0 + (1) * y1) = U) (hV : frY (x0 + (1) * x1) (y0 + (1) * y1) = V) (hc : sbK x0 y0 x1 y1 U V = c) (hX : onz c U = X) (hY : onz c V = Y) :
    Calls Tryd.prog 16 #[.agg #[.int .i64 x0, .int .i64 y0], .agg #[.int .i64 x1, .int .i64 y1]] w fun e w' => e = .returned (.tuple #[.agg #[.int .i64 X, .int .i64 Y], .int .i64 c]) ∧ Below w.heap.size w w' := by
  have HB : Hid (∀ w, Calls Tryd.prog 45 #[.agg #[.int .i64 x0, .int .i64 y0], .agg #[.int .i64 x1, .int .i64 y1], .int .i64 (1)] w fun e w' => e = .returned (.tuple #[.agg #[.int .i64 X, .int .i64 Y], .int .i64 c]) ∧ Below w.heap.size w w') := fun w => by
    have := l05Both_any x0 y0 x1 y1 (1) U V w (by decide) (by decide) hU hV
    rw [hc, hX, hY] at this
    exact this
  clear hU hV hc hX hY
  have hs20 : w.heap.size < w.heap.size + 1 + 1 := (by omega); have hs30 : w.heap.size < w.heap.size + 1 + 1 + 1 := (by omega); have hs31 : w.heap.size + 1 < w.heap.size + 1 + 1 + 1 := (by omega); have hs40 : w.heap.size < w.heap.size + 1 + 1 + 1 + 1 := (by omega); have hs41 : w.heap.size + 1 < w.heap.size + 1 + 1 + 1 + 1 := (by omega); have hs42 : w.heap.size + 1 + 1 < w.heap.size + 1 + 1 + 1 + 1 := (by omega); have hs50 : w.heap.size < w.heap.size + 1 + 1 + 1 + 1 + 1 := (by omega); have hs51 : w.heap.size + 1 < w.heap.size + 1 + 1 + 1 + 1 + 1 := (by omega); have hs52 : w.heap.size + 1 + 1 < w.heap.size + 1 + 1 + 1 + 1 + 1 := (by omega); have hs53 : w.heap.size + 1 + 1 + 1 < w.heap.size + 1 + 1 + 1 + 1 + 1 := (by omega)
  go_enter Tryd.func16, Tryd.ntmps16
  go_wp2_with (go_at_call 45; refine (HB.out _).mono ?_; rintro e wn ⟨rfl, hb⟩; first | (have h2 := after_call2 hb hcl hfr hlt (by ((repeat' (first | (with_reducible exact Below.refl _ _) | (with_reducible refine Below.alloc ?_ ?_ _) | (with_reducible refine Below.setCell ?_ ?_ _) | (with_reducible refine Below.drew ?_) | (with_reducible refine below_drewN ?_ _) | (with_reducible assumption) | (with_reducible refine below_after (by with_reducible assumption) ?_) | go_size)); done)); obtain ⟨hclx, hfrx, hltx, hsz⟩ := after_call hb; (try simp only [World.size_alloc, World.size_setCell, World.size_drew] at hclx hfrx hltx hsz); (try (have hszl := Nat.lt_of_succ_le hsz)); obtain ⟨hcl, hfr, hlt⟩ := h2) | (obtain ⟨hcl, hfr, hlt, hsz⟩ := after_call hb; (try simp only [World.size_alloc, World.size_setCell, World.size_drew] at hcl hfr hlt hsz)))
  refine bodyPost_ret (v := .tuple #[.agg #[.int .i64 X, .int .i64 Y], .int .i64 c]) (by simp (maxDischargeDepth := 8) [results, Tryd.results16, go_sem, *]) rfl ?_
  exact ⟨rfl, by (repeat' (first | (with_reducible exact Below.refl _ _) | (with_reducible refine Below.alloc ?_ ?_ _) | (with_reducible refine Below.setCell ?_ ?_ _) | (with_reducible refine Below.drew ?_) | (with_reducible refine below_drewN ?_ _) | (with_reducible assumption) | (with_reducible refine below_after (by with_reducible assumption) ?_) | go_size))⟩
set_option maxHeartbeats 800000 in
theorem impl_SumOfNeighbours_of (x0 y0 x1 y1 c X Y : Int) (a0 a1 : Addr) (w : World) (hs : Snt w a0 a1)
    (hm : ∀ w, Snt w a0 a1 → Calls Tryd.prog 46 #[.agg #[.int .i64 x0, .int .i64 y0], .agg #[.int .i64 x1, .int .i64 y1], .func (.func 47) #[] #[]] w fun e w' => e = .returned (.tuple #[.agg #[.int .i64 X, .int .i64 Y], .int .i64 c]) ∧ Below w.heap.size w w') :
    Calls Tryd.prog 17 #[.agg #[.int .i64 x0, .int .i64 y0], .agg #[.int .i64 x1, .int .i64 y1]] w fun e w' => e = .returned (.tuple #[.agg #[.int .i64 X, .int .i64 Y], .int .i64 c]) ∧ Below w.heap.size w w' := by
  have HS := Lib.hid hs
  have HM := Lib.hid hm
  clear hs hm
  have hs20 : w.heap.size < w.heap.size + 1 + 1 := (by omega); have hs30 : w.heap.size < w.heap.size + 1 + 1 + 1 := (by omega); have hs31 : w.heap.size + 1 < w.heap.size + 1 + 1 + 1 := (by omega); have hs40 : w.heap.size < w.heap.size + 1 + 1 + 1 + 1 := (by omega); have hs41 : w.heap.size + 1 < w.heap.size + 1 + 1 + 1 + 1 := (by omega); have hs42 : w.heap.size + 1 + 1 < w.heap.size + 1 + 1 + 1 + 1 := (by omega)
  go_enter Tryd.func17, Tryd.ntmps17
  go_wp2_with (go_at_call 46; refine (HM.out _ (HS.out.below (by (repeat' (first | (with_reducible exact Below.refl _ _) | (with_reducible refine Below.alloc ?_ ?_ _) | (with_reducible refine Below.setCell ?_ ?_ _) | (with_reducible refine Below.drew ?_) | (with_reducible refine below_drewN ?_ _) | (with_reducible assumption) | (with_reducible refine below_after (by with_reducible assumption) ?_) | go_size))))).mono ?_; rintro e wn ⟨rfl, hb⟩; first | (have h2 := after_call2 hb hcl hfr hlt (by ((repeat' (first | (with_reducible exact Below.refl _ _) | (with_reducible refine Below.alloc ?_ ?_ _) | (with_reducible refine Below.setCell ?_ ?_ _) | (with_reducible refine Below.drew ?_) | (with_reducible refine below_drewN ?_ _) | (with_reducible assumption) | (with_reducible refine below_after (by with_reducible assumption) ?_) | go_size)); done)); obtain ⟨hclx, hfrx, hltx, hsz⟩ := after_call hb; (try simp only [World.size_alloc, World.size_setCell, World.size_drew] at hclx hfrx hltx hsz); (try (have hszl := Nat.lt_of_succ_le hsz)); obtain ⟨hcl, hfr, hlt⟩ := h2) | (obtain ⟨hcl, hfr, hlt, hsz⟩ := after_call hb; (try simp only [World.size_alloc, World.size_setCell, World.size_drew] at hcl hfr hlt hsz)))
  refine bodyPost_ret (v := .tuple #[.agg #[.int .i64 X, .int .i64 Y], .int .i64 c]) (by simp (maxDischargeDepth := 8) [results, Tryd.results17, go_sem, *]) rfl ?_
  exact ⟨rfl, by (repeat' (first | (with_reducible exact Below.refl _ _) | (with_reducible refine Below.alloc ?_ ?_ _) | (with_reducible refine Below.setCell ?_ ?_ _) | (with_reducible refine Below.drew ?_) | (with_reducible refine below_drewN ?_ _) | (with_reducible assumption) | (with_reducible refine below_after (by with_reducible assumption) ?_) | go_size))⟩
set_option maxHeartbeats 800000 in
theorem spec_DifferenceOfNeighbours_any (x0 y0 x1 y1 c U V X Y : Int) (w : World) (hU : frX (x0 + (-1) * x1) (y0 + (-1) * y1) = U) (hV : frY (x0 + (-1) * x1) (y0 + (-1) * y1) = V) (hc : sbK x0 y0 x1 y1 U V = c) (hX : onz c U = X) (hY : onz c V = Y) :
    Calls Tryd.prog 19 #[.agg #[.int .i64 x0, .int .i64 y0], .agg #[.int .i64 x1, .int .i64 y1]] w fun e w' => e = .returned (.tuple #[.agg #[.int .i64 X, .int .i64 Y], .int .i64 c]) ∧ Below w.heap.size w w' := by
  have HB : Hid (∀ w, Calls Tryd.prog 45 #[.agg #[.int .i64 x0, .int .i64 y0], .agg #[.int .i64 x1, .int .i64 y1], .int .i64 (-1)] w fun e w' => e = .returned (.tuple #[.agg #[.int .i64 X, .int .i64 Y], .int .i64 c]) ∧ Below w.heap.size w w') := fun w => by
    have := l05Both_any x0 y0 x1 y1 (-1) U V w (by decide) (by decide) hU hV
    rw [hc, hX, hY] at this
    exact this
  clear hU hV hc hX hY
  have hs20 : w.heap.size < w.heap.size + 1 + 1 := (by omega); have hs30 : w.heap.size < w.heap.size + 1 + 1 + 1 := (by omega); have hs31 : w.heap.size + 1 < w.heap.size + 1 + 1 + 1 := (by omega); have hs40 : w.heap.size < w.heap.size + 1 + 1 + 1 + 1 := (by omega); have hs41 : w.heap.size + 1 < w.heap.size + 1 + 1 + 1 + 1 := (by omega); have hs42 : w.heap.size + 1 + 1 < w.heap.size + 1 + 1 + 1 + 1 := (by omega); have hs50 : w.heap.size < w.heap.size + 1 + 1 + 1 + 1 + 1 := (by omega); have hs51 : w.heap.size + 1 < w.heap.size + 1 + 1 + 1 + 1 + 1 := (by omega); have hs52 : w.heap.size + 1 + 1 < w.heap.size + 1 + 1 + 1 + 1 + 1 := (by omega); have hs53 : w.heap.size + 1 + 1 + 1 < w.heap.size + 1 + 1 + 1 + 1 + 1 := (by omega)
  go_enter Tryd.func19, Tryd.ntmps19
  go_wp2_with (go_at_call 45; refine (HB.out _).mono ?_; rintro e wn ⟨rfl, hb⟩; first | (have h2 := after_call2 hb hcl hfr hlt (by ((repeat' (first | (with_reducible exact Below.refl _ _) | (with_reducible refine Below.alloc ?_ ?_ _) | (with_reducible refine Below.setCell ?_ ?_ _) | (with_reducible refine Below.drew ?_) | (with_reducible refine below_drewN ?_ _) | (with_reducible assumption) | (with_reducible refine below_after (by with_reducible assumption) ?_) | go_size)); done)); obtain ⟨hclx, hfrx, hltx, hsz⟩ := after_call hb; (try simp only [World.size_alloc, World.size_setCell, World.size_drew] at hclx hfrx hltx hsz); (try (have hszl := Nat.lt_of_succ_le hsz)); obtain ⟨hcl, hfr, hlt⟩ := h2) | (obtain ⟨hcl, hfr, hlt, hsz⟩ := after_call hb; (try simp only [World.size_alloc, World.size_setCell, World.size_drew] at hcl hfr hlt hsz)))
  refine bodyPost_ret (v := .tuple #[.agg #[.int .i64 X, .int .i64 Y], .int .i64 c]) (by simp (maxDischargeDepth := 8) [results, Tryd.results19, go_sem, *]) rfl ?_
  exact ⟨rfl, by (repeat' (first | (with_reducible exact Below.refl _ _) | (with_reducible refine Below.alloc ?_ ?_ _) | (with_reducible refine Below.setCell ?_ ?_ _) | (with_reducible refine Below.drew ?_) | (with_reducible refine below_drewN ?_ _) | (with_reducible assumption) | (with_reducible refine below_after (by with_reducible assumption) ?_) | go_size))⟩
set_option maxHeartbeats 800000 in
theorem impl_DifferenceOfNeighbours_of (x0 y0 x1 y1 c X Y : Int) (a0 a1 : Addr) (w : World) (hs : Snt w a0 a1)
    (hm : ∀ w, Snt w a0 a1 → Calls Tryd.prog 46 #[.agg #[.int .i64 x0, .int .i64 y0], .agg #[.int .i64 x1, .int .i64 y1], .func (.func 48) #[] #[]] w fun e w' => e = .returned (.tuple #[.agg #[.int .i64 X, .int .i64 Y], .int .i64 c]) ∧ Below w.heap.size w w') :
    Calls Tryd.prog 20 #[.agg #[.int .i64 x0, .int .i64 y0], .agg #[.int .i64 x1, .int .i64 y1]] w fun e w' => e = .returned (.tuple #[.agg #[.int .i64 X, .int .i64 Y], .int .i64 c]) ∧ Below w.heap.size w w' := by
  have HS := Lib.hid hs
  have HM := Lib.hid hm
  clear hs hm
  have hs20 : w.heap.size < w.heap.size + 1 + 1 := (by omega); have hs30 : w.heap.size < w.heap.size + 1 + 1 + 1 := (by omega); have hs31 : w.heap.size + 1 < w.heap.size + 1 + 1 + 1 := (by omega); have hs40 : w.heap.size < w.heap.size + 1 + 1 + 1 + 1 := (by omega); have hs41 : w.heap.size + 1 < w.heap.size + 1 + 1 + 1 + 1 := (by omega); have hs42 : w.heap.size + 1 + 1 < w.heap.size + 1 + 1 + 1 + 1 := (by omega)
  go_enter Tryd.func20, Tryd.ntmps20
  go_wp2_with (go_at_call 46; refine (HM.out _ (HS.out.below (by (repeat' (first | (with_reducible exact Below.refl _ _) | (with_reducible refine Below.alloc ?_ ?_ _) | (with_reducible refine Below.setCell ?_ ?_ _) | (with_reducible refine Below.drew ?_) | (with_reducible refine below_drewN ?_ _) | (with_reducible assumption) | (with_reducible refine below_after (by with_reducible assumption) ?_) | go_size))))).mono ?_; rintro e wn ⟨rfl, hb⟩; first | (have h2 := after_call2 hb hcl hfr hlt (by ((repeat' (first | (with_reducible exact Below.refl _ _) | (with_reducible refine Below.alloc ?_ ?_ _) | (with_reducible refine Below.setCell ?_ ?_ _) | (with_reducible refine Below.drew ?_) | (with_reducible refine below_drewN ?_ _) | (with_reducible assumption) | (with_reducible refine below_after (by with_reducible assumption) ?_) | go_size)); done)); obtain ⟨hclx, hfrx, hltx, hsz⟩ := after_call hb; (try simp only [World.size_alloc, World.size_setCell, World.size_drew] at hclx hfrx hltx hsz); (try (have hszl := Nat.lt_of_succ_le hsz)); obtain ⟨hcl, hfr, hlt⟩ := h2) | (obtain ⟨hcl, hfr, hlt, hsz⟩ := after_call hb; (try simp only [World.size_alloc, World.size_setCell, World.size_drew] at hcl hfr hlt hsz)))
  refine bodyPost_ret (v := .tuple #[.agg #[.int .i64 X, .int .i64 Y], .int .i64 c]) (by simp (maxDischargeDepth := 8) [results, Tryd.results20, go_sem, *]) rfl ?_
  exact ⟨rfl, by (repeat' (first | (with_reducible exact Below.refl _ _) | (with_reducible refine Below.alloc ?_ ?_ _) | (with_reducible refine Below.setCell ?_ ?_ _) | (with_reducible refine Below.drew ?_) | (with_reducible refine below_drewN ?_ _) | (with_reducible assumption) | (with_reducible refine below_after (by with_reducible assumption) ?_) | go_size))⟩
/-- The sum of neighbours is a fraction as it stands. -/
theorem sum_same {x0 y0 x1 y1 : Int} (h : allFr [(x0, y0), (x1, y1)] = true) (k : nearB x0 y0 x1 y1 = true) : frX (x0 + x1) (y0 + y1) = x0 + x1 ∧ frY (x0 + x1) (y0 + y1) = y0 + y1 := by
  obtain ⟨f0, f1⟩ := frs2 h
  obtain ⟨p0, q0⟩ := isFr_pos f0
  obtain ⟨p1, q1⟩ := isFr_pos f1
  refine frX_same ?_
  have hne : ¬ (y0 = 0 ∧ y1 = 0) := by
    rintro ⟨rfl, rfl⟩
    rw [q0 rfl, q1 rfl] at k
    simp [nearB, detP, absI] at k
  simp only [ngt, Bool.or_eq_false_iff, Bool.and_eq_false_imp, decide_eq_false_iff_not, beq_iff_eq]
  omega
theorem sbK_sum (x0 y0 x1 y1 : Int) : sbK x0 y0 x1 y1 (frX (x0 + x1) (y0 + y1)) (frY (x0 + x1) (y0 + y1)) = sbK x0 y0 x1 y1 (x0 + x1) (y0 + y1) ∧ onz (sbK x0 y0 x1 y1 (x0 + x1) (y0 + y1)) (frX (x0 + x1) (y0 + y1)) = onz (sbK x0 y0 x1 y1 (x0 + x1) (y0 + y1)) (x0 + x1) ∧ onz (sbK x0 y0 x1 y1 (x0 + x1) (y0 + y1)) (frY (x0 + x1) (y0 + y1)) = onz (sbK x0 y0 x1 y1 (x0 + x1) (y0 + y1)) (y0 + y1) := by
  cases h : allFr [(x0, y0), (x1, y1)]
  · have hn := frE_ne h
    rw [sbK_fr h, sbK_fr h, onz_no hn, onz_no hn, onz_no hn, onz_no hn]
    exact ⟨rfl, rfl, rfl⟩
  · cases k : nearB x0 y0 x1 y1
    · rw [sbK_far h k, sbK_far h k]
      exact ⟨rfl, rfl, rfl⟩
    · obtain ⟨e1, e2⟩ := sum_same h k
      rw [e1, e2]
      exact ⟨rfl, rfl, rfl⟩
end Go.Proofs.YtcaleapedomfmaaDoor
