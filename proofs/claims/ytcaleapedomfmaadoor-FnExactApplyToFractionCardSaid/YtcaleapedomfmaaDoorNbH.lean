/-
  ApplyToFraction in the program (own work).
-/
import Derived.Test.YtcaleapedomfmaaDoorNbG
namespace Go.Proofs.YtcaleapedomfmaaDoor
open Go.ChangeShapes Go.WideShapes Go.ChangeAt Go.RowKit Go.Shelf
set_option linter.unusedVariables false
set_option maxRecDepth 100000
set_option linter.unusedSimpArgs false
set_option maxRecDepth 100000

/-- What the boxes and the result's block hold, in every later world. -/
def AfB (w W : World) (a b c d x y : Int) : Prop := W.cell? ⟨w.heap.size, 0, none⟩ = some (.int .i64 a) ∧ W.cell? ⟨w.heap.size, 1, none⟩ = some (.int .i64 b) ∧ W.cell? ⟨w.heap.size, 2, none⟩ = some (.int .i64 c) ∧ W.cell? ⟨w.heap.size, 3, none⟩ = some (.int .i64 d) ∧ W.cell? ⟨w.heap.size + 1, 0, none⟩ = some (.int .i64 x) ∧ W.cell? ⟨w.heap.size + 1, 1, none⟩ = some (.int .i64 y) ∧ W.cell? ⟨w.heap.size + 1 + 1, 0, none⟩ = some (.int .i64 0) ∧ W.cell? ⟨w.heap.size + 1 + 1, 1, none⟩ = some (.int .i64 0) ∧ W.frozen? ⟨w.heap.size + 1 + 1, 0, none⟩ = false ∧ W.frozen? ⟨w.heap.size + 1 + 1, 1, none⟩ = false ∧ Below w.heap.size w W
set_option maxHeartbeats 3200000 in
theorem impl_ApplyToFraction_any (a b c d x y X Y : Int) (a0 a1 : Addr) (w : World) (hs : Snt w a0 a1) (hX : frX (img a b c d x y).1 (img a b c d x y).2 = X) (hY : frY (img a b c d x y).1 (img a b c d x y).2 = Y) :
    Calls Tryd.prog 38 #[.agg #[.int .i64 a, .int .i64 b, .int .i64 c, .int .i64 d], .agg #[.int .i64 x, .int .i64 y]] w fun e w' => e = .returned (.tuple #[.agg #[.int .i64 (onz (afK a b c d x y X Y) X), .int .i64 (onz (afK a b c d x y X Y) Y)], .int .i64 (afK a b c d x y X Y)]) ∧ Below w.heap.size w w' := by
  have hmf : ∀ (fn : Fn) (first cap : Array Value) (w : World), (Instr.makeFunc fn first cap).run Tryd.prog w = .ok (.func fn first cap) w := fun _ _ _ _ => rfl
  cases hm : isMx a b c d
  · rw [afK_mx hm, onz_no (by decide), onz_no (by decide)]
    clear hX hY hs
    have hs20 : w.heap.size < w.heap.size + 1 + 1 := (by omega); have hs30 : w.heap.size < w.heap.size + 1 + 1 + 1 := (by omega); have hs31 : w.heap.size + 1 < w.heap.size + 1 + 1 + 1 := (by omega); have hs40 : w.heap.size < w.heap.size + 1 + 1 + 1 + 1 := (by omega); have hs41 : w.heap.size + 1 < w.heap.size + 1 + 1 + 1 + 1 := (by omega); have hs42 : w.heap.size + 1 + 1 < w.heap.size + 1 + 1 + 1 + 1 := (by omega)
    go_enter Tryd.func38, Tryd.ntmps38
    go_wp2_with (go_at_call 86; refine (impl_IsMatrix_any _ _ _ _ _).mono ?_; rintro e wn ⟨rfl, hb⟩; first | (have h2 := after_call2 hb hcl hfr hlt (by ((repeat' (first | (with_reducible exact Below.refl _ _) | (with_reducible refine Below.alloc ?_ ?_ _) | (with_reducible refine Below.setCell ?_ ?_ _) | (with_reducible refine Below.drew ?_) | (with_reducible refine below_drewN ?_ _) | (with_reducible assumption) | (with_reducible refine below_after (by with_reducible assumption) ?_) | go_size)); done)); obtain ⟨hclx, hfrx, hltx, hsz⟩ := after_call hb; (try simp only [World.size_alloc, World.size_setCell, World.size_drew] at hclx hfrx hltx hsz); (try (have hszl := Nat.lt_of_succ_le hsz)); obtain ⟨hcl, hfr, hlt⟩ := h2) | (obtain ⟨hcl, hfr, hlt, hsz⟩ := after_call hb; (try simp only [World.size_alloc, World.size_setCell, World.size_drew] at hcl hfr hlt hsz)))
    refine bodyPost_ret (v := .tuple #[.agg #[.int .i64 0, .int .i64 0], .int .i64 1]) (by simp (maxDischargeDepth := 8) [results, Tryd.results38, go_sem, *]) rfl ?_
    exact ⟨rfl, by (repeat' (first | (with_reducible exact Below.refl _ _) | (with_reducible refine Below.alloc ?_ ?_ _) | (with_reducible refine Below.setCell ?_ ?_ _) | (with_reducible refine Below.drew ?_) | (with_reducible refine below_drewN ?_ _) | (with_reducible assumption) | (with_reducible refine below_after (by with_reducible assumption) ?_) | go_size))⟩
  · have HM : Hid (∀ w, Calls Tryd.prog 86 #[.agg #[.int .i64 a, .int .i64 b, .int .i64 c, .int .i64 d]] w fun e w' => e = .returned (.bool true) ∧ Below w.heap.size w w') := fun w => by
      have := impl_IsMatrix_any a b c d w
      rw [hm] at this; exact this
    have HMM := Lib.hid hm
    have HS := Lib.hid hs
    have HC : Hid (frX (img a b c d x y).1 (img a b c d x y).2 = X ∧ frY (img a b c d x y).1 (img a b c d x y).2 = Y) := ⟨hX, hY⟩
    obtain ⟨K, hK⟩ : ∃ K, afK a b c d x y X Y = K := ⟨_, rfl⟩
    obtain ⟨R1, h1⟩ : ∃ R1, onz K X = R1 := ⟨_, rfl⟩
    obtain ⟨R2, h2⟩ : ∃ R2, onz K Y = R2 := ⟨_, rfl⟩
    rw [hK, h1, h2]
    have HK : Hid (afK a b c d x y X Y = K ∧ onz K X = R1 ∧ onz K Y = R2) := ⟨hK, h1, h2⟩
    clear hX hY hs hm hK h1 h2
    have hs20 : w.heap.size < w.heap.size + 1 + 1 := (by omega); have hs30 : w.heap.size < w.heap.size + 1 + 1 + 1 := (by omega); have hs31 : w.heap.size + 1 < w.heap.size + 1 + 1 + 1 := (by omega); have hs40 : w.heap.size < w.heap.size + 1 + 1 + 1 + 1 := (by omega); have hs41 : w.heap.size + 1 < w.heap.size + 1 + 1 + 1 + 1 := (by omega); have hs42 : w.heap.size + 1 + 1 < w.heap.size + 1 + 1 + 1 + 1 := (by omega)
    go_enter Tryd.func38, Tryd.ntmps38
    go_wp2_with fail
    obtain ⟨wB, hwB⟩ : ∃ wB, wB = ((w.alloc (.cells #[.int .i64 a, .int .i64 b, .int .i64 c, .int .i64 d] 48)).alloc (.cells #[.int .i64 x, .int .i64 y] 25)).alloc (.cells #[.int .i64 0, .int .i64 0] 25) := ⟨_, rfl⟩
    rw [← hwB]
    have hzB : wB.heap.size = w.heap.size + 1 + 1 + 1 := by rw [hwB]; simp
    have HB : Hid (∀ W, Below wB.heap.size wB W → AfB w W a b c d x y) := by
      intro W hW
      have hBB : Below w.heap.size w wB := by rw [hwB]; (repeat' (first | (with_reducible exact Below.refl _ _) | (with_reducible refine Below.alloc ?_ ?_ _) | (with_reducible refine Below.setCell ?_ ?_ _) | (with_reducible refine Below.drew ?_) | (with_reducible refine below_drewN ?_ _) | (with_reducible assumption) | (with_reducible refine below_after (by with_reducible assumption) ?_) | go_size))
      refine ⟨?_, ?_, ?_, ?_, ?_, ?_, ?_, ?_, ?_, ?_, below_after hW hBB⟩
      · exact (hW.cell (p := ⟨w.heap.size, 0, none⟩) (by show w.heap.size < _; omega)).trans (by rw [hwB]; go_cell)
      · exact (hW.cell (p := ⟨w.heap.size, 1, none⟩) (by show w.heap.size < _; omega)).trans (by rw [hwB]; go_cell)
      · exact (hW.cell (p := ⟨w.heap.size, 2, none⟩) (by show w.heap.size < _; omega)).trans (by rw [hwB]; go_cell)
      · exact (hW.cell (p := ⟨w.heap.size, 3, none⟩) (by show w.heap.size < _; omega)).trans (by rw [hwB]; go_cell)
      · exact (hW.cell (p := ⟨w.heap.size + 1, 0, none⟩) (by show w.heap.size + 1 < _; omega)).trans (by rw [hwB]; go_cell)
      · exact (hW.cell (p := ⟨w.heap.size + 1, 1, none⟩) (by show w.heap.size + 1 < _; omega)).trans (by rw [hwB]; go_cell)
      · exact (hW.cell (p := ⟨w.heap.size + 1 + 1, 0, none⟩) (by show w.heap.size + 1 + 1 < _; omega)).trans (by rw [hwB]; go_cell)
      · exact (hW.cell (p := ⟨w.heap.size + 1 + 1, 1, none⟩) (by show w.heap.size + 1 + 1 < _; omega)).trans (by rw [hwB]; go_cell)
      · rw [(bcell hW).2 _ _ (by omega), hwB]; go_cell
      · rw [(bcell hW).2 _ _ (by omega), hwB]; go_cell
    obtain ⟨m0, m1, m2, m3, c0, d0, _⟩ := HB.out _ (Below.refl _ _)
    clear hwB
    go_at_call 86
    refine (HM.out _).mono ?_
    rintro e w1 ⟨rfl, hb⟩
    have HB1 := Lib.hid hb
    clear hb m0 m1 m2 m3 c0 d0
    go_wp2_with fail
    go_at_call 52
    have fin : ∀ w2, Below wB.heap.size wB w2 → AfB w w2 a b c d x y := fun w2 h => HB.out w2 h
    cases hf : allFr [(x, y)]
    · obtain ⟨a, hE, _, _, hC⟩ := isFr_code (a0 := a0) (a1 := a1) hf
      have hk := afK_fr (X := X) (Y := Y) HMM.out hf
      have hne := frE_ne hf
      obtain ⟨q1, q2, q3⟩ := HK.out
      rw [hk] at q1
      rw [q1] at hne hC
      obtain rfl : 0 = R1 := (onz_no hne).symm.trans q2
      obtain rfl : 0 = R2 := (onz_no hne).symm.trans q3
      refine (door_pan_pt 87 _ a K _ (enters_of Tryd.func87 (by kernel_rfl) rfl) (fun W hW => hC W (HS.out.below ?_)) (fun W hW => cl_af_pan _ _ x y a0 a1 a W (HS.out.below ?_) hE ?_ ?_)).mono ?_
      · exact (HB.out W (below_after hW HB1.out)).2.2.2.2.2.2.2.2.2.2
      · exact (HB.out W (below_after hW HB1.out)).2.2.2.2.2.2.2.2.2.2
      · exact (HB.out W (below_after hW HB1.out)).2.2.2.2.1
      · exact (HB.out W (below_after hW HB1.out)).2.2.2.2.2.1
      rintro e w2 ⟨rfl, hb⟩
      obtain ⟨_, _, _, _, _, _, r0, r1, s0, s1, hbF⟩ := HB.out w2 (below_after hb HB1.out)
      clear hb hE hC hk hne q1 q2 q3 fin
      go_wp2_with fail
      refine bodyPost_ret (v := .tuple #[.agg #[.int .i64 0, .int .i64 0], .int .i64 K]) (by simp (maxDischargeDepth := 8) [results, Tryd.results38, go_sem, *]) rfl ?_
      exact ⟨rfl, Below.setCell (Below.setCell hbF (by show w.heap.size ≤ w.heap.size + 1 + 1; omega) _) (by show w.heap.size ≤ w.heap.size + 1 + 1; omega) _⟩
    · refine (door_ret_pt 87 _ R1 R2 K _ (enters_of Tryd.func87 (by kernel_rfl) rfl) (fun W hW => ?_)).mono ?_
      · obtain ⟨m0, m1, m2, m3, c0, d0, _, _, _, _, hbF⟩ := HB.out W (below_after hW HB1.out)
        exact cl_af_ok _ _ a b c d x y 0 0 X Y K R1 R2 HC.out.1 HC.out.2 HK.out.1 HK.out.2.1 HK.out.2.2 HMM.out hf a0 a1 W (HS.out.below hbF) c0 d0 m0 m1 m2 m3
      rintro e w2 ⟨rfl, hb⟩
      obtain ⟨_, _, _, _, _, _, r0, r1, s0, s1, hbF⟩ := HB.out w2 (below_after hb HB1.out)
      clear hb fin
      go_wp2_with fail
      refine bodyPost_ret (v := .tuple #[.agg #[.int .i64 R1, .int .i64 R2], .int .i64 K]) (by simp (maxDischargeDepth := 8) [results, Tryd.results38, go_sem, *]) rfl ?_
      exact ⟨rfl, Below.setCell (Below.setCell hbF (by show w.heap.size ≤ w.heap.size + 1 + 1; omega) _) (by show w.heap.size ≤ w.heap.size + 1 + 1; omega) _⟩
end Go.Proofs.YtcaleapedomfmaaDoor
