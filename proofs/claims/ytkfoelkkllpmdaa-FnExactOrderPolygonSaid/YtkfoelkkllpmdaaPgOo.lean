/-
  OrderPolygon in the model at any list whose capacity holds it (own work).
-/
import Derived.Test.YtkfoelkkllpmdaaPgO
namespace Go.Proofs.Ytkfoelkkllpmdaa
open Go.ChangeShapes Go.WideShapes Go.ChangeAt Go.RowKit
set_option linter.unusedVariables false
set_option maxRecDepth 100000
set_option linter.unusedSimpArgs false
set_option maxRecDepth 100000

def orL (ps : List (Int × Int)) : List (Int × Int) := if isP ps = true then rotL ps (ixm ps ps.length) else []
theorem orL_len (ps : List (Int × Int)) : (orL ps).length ≤ 12 := by
  unfold orL
  split
  · rename_i h
    obtain ⟨h3, h12, _⟩ := isP_iff.1 h
    have := ixm_lt (ps := ps) (n := ps.length) (by omega) ps.length (Nat.le_refl _)
    rw [rotL_len ps (by omega)]; exact h12
  · simp
theorem spec_OrderPolygon_any (a : Option Addr) (m cap : Nat) (ps : List (Int × Int)) (w : World) (h : LV w a m ps) (hcap : m ≤ cap) (hbig : cap ≤ maxLen) :
    Calls Try.prog 26 #[.slice a m cap] w (RetPC w (orL ps) (cdP ps)) := by
  have HLV := Lib.hid h
  obtain ⟨cd, hcd⟩ : ∃ x, cdP ps = x := ⟨_, rfl⟩
  have HCO : Hid (∀ t, Calls Try.prog 61 #[.slice (some ⟨w.heap.size, 0, none⟩) 1 1] (w.alloc (.cells #[.slice a m cap] t)) fun e w' => e = .returned (.int .i64 cd) ∧ Below (w.alloc (.cells #[.slice a m cap] t)).heap.size (w.alloc (.cells #[.slice a m cap] t)) w') := fun t => by
    have := l09Code_one a m cap w.heap.size 1 ps (w.alloc (.cells #[.slice a m cap] t)) (HLV.out.below (by (repeat' (first | (with_reducible exact Below.refl _ _) | (with_reducible refine Below.alloc ?_ ?_ _) | (with_reducible refine Below.setCell ?_ ?_ _) | (with_reducible refine Below.drew ?_) | (with_reducible refine below_drewN ?_ _) | (with_reducible assumption) | (with_reducible refine below_after (by with_reducible assumption) ?_) | go_size)))) (by simp) (by go_cell)
    rwa [hcd] at this
  cases hp : isP ps
  · have e1 : orL ps = [] := by unfold orL; rw [hp]; rfl
    rw [cdP_no hp] at hcd ⊢
    subst hcd
    rw [e1]
    clear h hp e1
    go_enter Try.func26, Try.ntmps26
    go_wp2_with (first | (go_at_call 61; refine (HCO.out _).mono ?_; rintro e wa ⟨rfl, ba⟩; have ba : Below w.heap.size w wa := (by (repeat' (first | (with_reducible exact Below.refl _ _) | (with_reducible refine Below.alloc ?_ ?_ _) | (with_reducible refine Below.setCell ?_ ?_ _) | (with_reducible refine Below.drew ?_) | (with_reducible refine below_drewN ?_ _) | (with_reducible assumption) | (with_reducible refine below_after (by with_reducible assumption) ?_) | go_size)))))
    refine bodyPost_ret (v := .tuple #[.slice none 0 0, .int .i64 1]) (by simp (maxDischargeDepth := 8) [results, Try.results26, go_sem, *]) rfl ?_
    exact RetPC.nil ba
  · have e1 : orL ps = rotL ps (ixm ps m) := by unfold orL; rw [hp, if_pos rfl, h.1]
    rw [cdP_yes hp] at hcd ⊢
    subst hcd
    rw [e1]
    obtain ⟨g, rfl, hps, h3, h12, hg, hc, _⟩ := h.poly hp
    have HO : Hid (∀ w1, Below w.heap.size w w1 → Calls Try.prog 62 #[.slice (some ⟨g, 0, none⟩) m cap] w1 (RetQ w1 (rotL ps (ixm ps m)))) := fun w1 hb =>
      l09Order_any g m cap ps w1 (by omega) hps (by omega) hcap hbig (by have := hb.size; omega) (ptCells_kept hc (hb.block g hg))
    clear h hp e1 hc
    go_enter Try.func26, Try.ntmps26
    go_wp2_with (first | (go_at_call 61; refine (HCO.out _).mono ?_; rintro e wa ⟨rfl, ba⟩; have ba : Below w.heap.size w wa := (by (repeat' (first | (with_reducible exact Below.refl _ _) | (with_reducible refine Below.alloc ?_ ?_ _) | (with_reducible refine Below.setCell ?_ ?_ _) | (with_reducible refine Below.drew ?_) | (with_reducible refine below_drewN ?_ _) | (with_reducible assumption) | (with_reducible refine below_after (by with_reducible assumption) ?_) | go_size)))) | (go_at_call 62; refine (HO.out _ ba).mono ?_; rintro e w2 ⟨v, rfl, ho, hb2⟩; obtain ⟨va, vc, rfl, _⟩ := own_viewF ho))
    refine bodyPost_ret (v := .tuple #[.slice va (rotL ps (ixm ps m)).length vc, .int .i64 0]) (by simp (maxDischargeDepth := 8) [results, Try.results26, go_sem, *]) rfl ?_
    exact ⟨_, rfl, own_lower ho ba.size, below_after hb2 ba⟩
end Go.Proofs.Ytkfoelkkllpmdaa
