/-
  DualPolygon in the model at any list (own work).
-/
import Derived.Test.YtkfoelkkllpmdaaPgE
namespace Go.Proofs.Ytkfoelkkllpmdaa
open Go.ChangeShapes Go.WideShapes Go.ChangeAt Go.RowKit
set_option linter.unusedVariables false
set_option maxRecDepth 100000
set_option linter.unusedSimpArgs false
set_option maxRecDepth 100000

set_option maxHeartbeats 1600000 in
theorem spec_DualPolygon_any (a : Option Addr) (m cap : Nat) (ps : List (Int × Int)) (w : World) (h : LV w a m ps) :
    Calls Try.prog 43 #[.slice a m cap] w (RetPC w (duL ps) (duC ps)) := by
  have HLV := Lib.hid h
  obtain ⟨cd, hcd⟩ : ∃ x, cdP ps = x := ⟨_, rfl⟩
  have HCO : Hid (∀ t, Calls Try.prog 61 #[.slice (some ⟨w.heap.size, 0, none⟩) 1 1] (w.alloc (.cells #[.slice a m cap] t)) fun e w' => e = .returned (.int .i64 cd) ∧ Below (w.alloc (.cells #[.slice a m cap] t)).heap.size (w.alloc (.cells #[.slice a m cap] t)) w') := fun t => by
    have := l09Code_one a m cap w.heap.size 1 ps (w.alloc (.cells #[.slice a m cap] t)) (HLV.out.below (by (repeat' (first | (with_reducible exact Below.refl _ _) | (with_reducible refine Below.alloc ?_ ?_ _) | (with_reducible refine Below.setCell ?_ ?_ _) | (with_reducible refine Below.drew ?_) | (with_reducible refine below_drewN ?_ _) | (with_reducible assumption) | (with_reducible refine below_after (by with_reducible assumption) ?_) | go_size)))) (by simp) (by go_cell)
    rwa [hcd] at this
  cases hp : isP ps
  · rw [cdP_no hp] at hcd
    subst hcd
    rw [(du_no hp).1, (du_no hp).2]
    clear h hp
    go_enter Try.func43, Try.ntmps43
    go_wp2_with (first | (go_at_call 61; refine (HCO.out _).mono ?_; rintro e wa ⟨rfl, ba⟩; have ba : Below w.heap.size w wa := (by (repeat' (first | (with_reducible exact Below.refl _ _) | (with_reducible refine Below.alloc ?_ ?_ _) | (with_reducible refine Below.setCell ?_ ?_ _) | (with_reducible refine Below.drew ?_) | (with_reducible refine below_drewN ?_ _) | (with_reducible assumption) | (with_reducible refine below_after (by with_reducible assumption) ?_) | go_size)))))
    refine bodyPost_ret (v := .tuple #[.slice none 0 0, .int .i64 1]) (by simp (maxDischargeDepth := 8) [results, Try.results43, go_sem, *]) rfl ?_
    exact RetPC.nil ba
  · rw [cdP_yes hp] at hcd
    cases hk : duB ps
    · subst hcd
      rw [(du_st hp hk).1, (du_st hp hk).2]
      have HL := Lib.hid (h.poly hp)
      have HN : Hid (∀ w1, Below w.heap.size w w1 → Calls Try.prog 69 #[.slice a m cap] w1 fun e w' => e = .returned (.int .i64 (innL ps)) ∧ Below w1.heap.size w1 w') := fun w1 hb => l09Inner_lp a m cap ps w1 (HL.out.below hb)
      have HW : Hid (∀ w1, Below w.heap.size w w1 → Calls Try.prog 73 #[.slice a m cap, .agg #[.int .i64 0, .int .i64 0]] w1 fun e w' => e = .returned (.int .i64 (whL ps (0, 0))) ∧ Below w1.heap.size w1 w') := fun w1 hb => l09Where_lp a m cap ps 0 0 w1 (HL.out.below hb) (by decide)
      unfold duB at hk
      obtain ⟨I, hI⟩ : ∃ I, innL ps = I := ⟨_, rfl⟩
      obtain ⟨V, hV⟩ : ∃ V, whL ps (0, 0) = V := ⟨_, rfl⟩
      rw [hI] at HN hk
      rw [hV] at HW hk
      clear h hp hI hV HL
      cases hi : (V == 1)
      · have hb1 : (V != 1) = true := by unfold bne; rw [hi]; rfl
        clear hk hi
        go_enter Try.func43, Try.ntmps43
        go_wp2_with (first | (go_at_call 61; refine (HCO.out _).mono ?_; rintro e wa ⟨rfl, ba⟩; have ba : Below w.heap.size w wa := (by (repeat' (first | (with_reducible exact Below.refl _ _) | (with_reducible refine Below.alloc ?_ ?_ _) | (with_reducible refine Below.setCell ?_ ?_ _) | (with_reducible refine Below.drew ?_) | (with_reducible refine below_drewN ?_ _) | (with_reducible assumption) | (with_reducible refine below_after (by with_reducible assumption) ?_) | go_size)))) | (go_at_call 73; refine (HW.out _ ba).mono ?_; rintro e wx ⟨rfl, bb⟩))
        refine bodyPost_ret (v := .tuple #[.slice none 0 0, .int .i64 5]) (by simp (maxDischargeDepth := 8) [results, Try.results43, go_sem, *]) rfl ?_
        exact RetPC.nil (below_after bb ba)
      · have hb1 : (V != 1) = false := by unfold bne; rw [hi]; rfl
        rw [hi, Bool.and_true] at hk
        have hb2 : (I != 1) = true := by unfold bne; rw [hk]; rfl
        clear hk hi
        go_enter Try.func43, Try.ntmps43
        go_wp2_with (first | (go_at_call 61; refine (HCO.out _).mono ?_; rintro e wa ⟨rfl, ba⟩; have ba : Below w.heap.size w wa := (by (repeat' (first | (with_reducible exact Below.refl _ _) | (with_reducible refine Below.alloc ?_ ?_ _) | (with_reducible refine Below.setCell ?_ ?_ _) | (with_reducible refine Below.drew ?_) | (with_reducible refine below_drewN ?_ _) | (with_reducible assumption) | (with_reducible refine below_after (by with_reducible assumption) ?_) | go_size)))) | (go_at_call 73; refine (HW.out _ ba).mono ?_; rintro e wx ⟨rfl, bb⟩) | (go_at_call 69; refine (HN.out _ (below_after bb ba)).mono ?_; rintro e w1 ⟨rfl, bc⟩))
        refine bodyPost_ret (v := .tuple #[.slice none 0 0, .int .i64 5]) (by simp (maxDischargeDepth := 8) [results, Try.results43, go_sem, *]) rfl ?_
        exact RetPC.nil (below_after bc (below_after bb ba))
    · exact spec_Dual_yes a m cap ps w hp hk h
end Go.Proofs.Ytkfoelkkllpmdaa
