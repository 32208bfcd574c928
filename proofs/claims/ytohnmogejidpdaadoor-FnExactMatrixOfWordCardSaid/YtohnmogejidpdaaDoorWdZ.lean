/-
  MatrixOfWord, in the model and in the program (own work).
-/
import Derived.Test.YtohnmogejidpdaaDoorWdY
namespace Go.Proofs.YtohnmogejidpdaaDoor
open Go.ChangeShapes Go.WideShapes Go.ChangeAt Go.RowKit
set_option linter.unusedVariables false
set_option linter.unusedSimpArgs false
set_option maxRecDepth 100000

set_option maxHeartbeats 1600000 in
theorem spec_MatrixOfWord_any (l : List UInt8) (w : World) (hl : l.length ≤ 1048576) : Calls Tryd.prog 6 #[.string ⟨l.toArray⟩] w fun e w' => e = .returned (mwV l) ∧ Below w.heap.size w w' := by
  have hsz := bytes_size l
  cases hw : wordOk l
  · rw [show mwV l = .tuple #[.agg #[.int .i64 0, .int .i64 0, .int .i64 0, .int .i64 0], .int .i64 2] from by unfold mwV; rw [hw]; rfl]
    have HL : Hid (∀ w, Calls Tryd.prog 16 #[.string ⟨l.toArray⟩] w fun e w' => e = .returned (.bool false) ∧ Below w.heap.size w w') := fun w => by
      have := letters_bel l w hl
      rwa [hw] at this
    clear hw
    obtain ⟨GR, hG⟩ : ∃ G, w.heap.size = G := ⟨_, rfl⟩
    have HG := Lib.hid hG
    go_enter Tryd.func6, Tryd.ntmps6
    go_upto_region 1 with fail
    obtain ⟨w0, hw0⟩ : ∃ w0, w0 = (w.alloc (.cells #[.int .i64 0, .int .i64 0, .int .i64 0, .int .i64 0] 24)) := ⟨_, rfl⟩
    rw [← hw0]
    have HR : Hid (Bk4 w0 GR 0 0 0 0) := by
      have h := (bk4_new w 0 0 0 0 24).below (W' := (w.alloc (.cells #[.int .i64 0, .int .i64 0, .int .i64 0, .int .i64 0] 24))) (by (repeat' (first | (with_reducible exact Below.refl _ _) | (with_reducible refine Below.alloc ?_ ?_ _) | (with_reducible refine Below.setCell ?_ ?_ _) | (with_reducible refine Below.drew ?_) | (with_reducible refine below_drewN ?_ _) | (with_reducible assumption) | (with_reducible refine below_after (by with_reducible assumption) ?_) | go_size)))
      (try simp only [World.size_alloc] at h)
      rw [hG] at h
      rw [hw0]; exact h
    have HB : Hid (Below w.heap.size w w0) := by show Below w.heap.size w w0; rw [hw0]; (repeat' (first | (with_reducible exact Below.refl _ _) | (with_reducible refine Below.alloc ?_ ?_ _) | (with_reducible refine Below.setCell ?_ ?_ _) | (with_reducible refine Below.drew ?_) | (with_reducible refine below_drewN ?_ _) | (with_reducible assumption) | (with_reducible refine below_after (by with_reducible assumption) ?_) | go_size))
    clear hw0
    have le_R : w.heap.size ≤ GR := by omega
    obtain ⟨⟨qR0, qR1, qR2, qR3⟩, ⟨fR0, fR1, fR2, fR3⟩, zR⟩ := HR.out
    go_wp2_with fail
    go_at_call 16
    refine (HL.out _).mono ?_
    rintro e w1 ⟨rfl, hb⟩
    clear qR0 fR0 qR1 fR1 qR2 fR2 qR3 fR3 zR
    have HR := Lib.hid (HR.out.below hb)
    have HB := Lib.hid (below_after hb HB.out)
    clear hb
    obtain ⟨⟨qR0, qR1, qR2, qR3⟩, ⟨fR0, fR1, fR2, fR3⟩, zR⟩ := HR.out
    go_wp2_with fail
    refine bodyPost_ret (v := .tuple #[.agg #[.int .i64 0, .int .i64 0, .int .i64 0, .int .i64 0], .int .i64 2]) (by simp (maxDischargeDepth := 8) [results, Tryd.results6, go_sem, *]) rfl ?_
    have hb := HB.out
    exact ⟨rfl, by (repeat' (first | (with_reducible exact Below.refl _ _) | (with_reducible refine Below.alloc ?_ ?_ _) | (with_reducible refine Below.setCell ?_ ?_ _) | (with_reducible refine Below.drew ?_) | (with_reducible refine below_drewN ?_ _) | (with_reducible assumption) | (with_reducible refine below_after (by with_reducible assumption) ?_) | go_size))⟩
  · have HL : Hid (∀ w, Calls Tryd.prog 16 #[.string ⟨l.toArray⟩] w fun e w' => e = .returned (.bool true) ∧ Below w.heap.size w w') := fun w => by
      have := letters_bel l w hl
      rwa [hw] at this
    have HX := Lib.hid (fun w => l06Matrix_any l w hl (wordOk_parts hw).1)
    rw [show mwV l = wmV (wm l 1 0 0 1) (.int .i64 0) (.int .i64 3) from by unfold mwV; rw [hw]; rfl]
    clear hw
    generalize wm l 1 0 0 1 = W at *
    rcases W with _ | ⟨o0, o1, o2, o3⟩
    · have HX : Hid (∀ w, Calls Tryd.prog 17 #[.string ⟨l.toArray⟩] w fun e w' => e = .returned (.tuple #[.agg #[.int .i64 0, .int .i64 0, .int .i64 0, .int .i64 0], .bool false]) ∧ Below w.heap.size w w') := HX
      obtain ⟨GR, hG⟩ : ∃ G, w.heap.size = G := ⟨_, rfl⟩
      have HG := Lib.hid hG
      go_enter Tryd.func6, Tryd.ntmps6
      go_upto_region 1 with fail
      obtain ⟨w0, hw0⟩ : ∃ w0, w0 = (w.alloc (.cells #[.int .i64 0, .int .i64 0, .int .i64 0, .int .i64 0] 24)) := ⟨_, rfl⟩
      rw [← hw0]
      have HR : Hid (Bk4 w0 GR 0 0 0 0) := by
        have h := (bk4_new w 0 0 0 0 24).below (W' := (w.alloc (.cells #[.int .i64 0, .int .i64 0, .int .i64 0, .int .i64 0] 24))) (by (repeat' (first | (with_reducible exact Below.refl _ _) | (with_reducible refine Below.alloc ?_ ?_ _) | (with_reducible refine Below.setCell ?_ ?_ _) | (with_reducible refine Below.drew ?_) | (with_reducible refine below_drewN ?_ _) | (with_reducible assumption) | (with_reducible refine below_after (by with_reducible assumption) ?_) | go_size)))
        (try simp only [World.size_alloc] at h)
        rw [hG] at h
        rw [hw0]; exact h
      have HB : Hid (Below w.heap.size w w0) := by show Below w.heap.size w w0; rw [hw0]; (repeat' (first | (with_reducible exact Below.refl _ _) | (with_reducible refine Below.alloc ?_ ?_ _) | (with_reducible refine Below.setCell ?_ ?_ _) | (with_reducible refine Below.drew ?_) | (with_reducible refine below_drewN ?_ _) | (with_reducible assumption) | (with_reducible refine below_after (by with_reducible assumption) ?_) | go_size))
      clear hw0
      have le_R : w.heap.size ≤ GR := by omega
      obtain ⟨⟨qR0, qR1, qR2, qR3⟩, ⟨fR0, fR1, fR2, fR3⟩, zR⟩ := HR.out
      go_wp2_with fail
      go_at_call 16
      refine (HL.out _).mono ?_
      rintro e w1 ⟨rfl, hb⟩
      clear qR0 fR0 qR1 fR1 qR2 fR2 qR3 fR3 zR
      have HR := Lib.hid (HR.out.below hb)
      have HB := Lib.hid (below_after hb HB.out)
      clear hb
      obtain ⟨⟨qR0, qR1, qR2, qR3⟩, ⟨fR0, fR1, fR2, fR3⟩, zR⟩ := HR.out
      go_wp2_with fail
      go_at_call 17
      refine (HX.out _).mono ?_
      rintro e w2 ⟨rfl, hb⟩
      clear qR0 fR0 qR1 fR1 qR2 fR2 qR3 fR3 zR
      have HR := Lib.hid (HR.out.below hb)
      have HB := Lib.hid (below_after hb HB.out)
      clear hb
      obtain ⟨⟨qR0, qR1, qR2, qR3⟩, ⟨fR0, fR1, fR2, fR3⟩, zR⟩ := HR.out
      go_upto_region 4 with fail
      obtain ⟨GP, hGP⟩ : ∃ g, w2.heap.size = g := ⟨_, rfl⟩
      obtain ⟨w3, hw3⟩ : ∃ wx, wx = w2.alloc (.cells #[.int .i64 0, .int .i64 0, .int .i64 0, .int .i64 0] 24) := ⟨_, rfl⟩
      rw [← hw3, hGP]
      have HP : Hid (Bk4 w3 GP 0 0 0 0) := by rw [hw3, ← hGP]; exact bk4_new w2 0 0 0 0 _
      have le_P : w.heap.size ≤ GP := by rw [← hGP]; exact HB.out.size
      have ne_P_R : GP ≠ GR := by have := HR.out.2.2; omega
      have ne_R_P : GR ≠ GP := Ne.symm ne_P_R
      clear qR0 fR0 qR1 fR1 qR2 fR2 qR3 fR3 zR
      have HR := Lib.hid (HR.out.below ((Below.refl _ _).alloc (Nat.le_refl _) (.cells #[.int .i64 0, .int .i64 0, .int .i64 0, .int .i64 0] 24)))
      have HB := Lib.hid (Below.alloc HB.out HB.out.size (.cells #[.int .i64 0, .int .i64 0, .int .i64 0, .int .i64 0] 24))
      rw [← hw3] at HR HB
      clear hw3 hGP
      obtain ⟨⟨qR0, qR1, qR2, qR3⟩, ⟨fR0, fR1, fR2, fR3⟩, zR⟩ := HR.out
      obtain ⟨⟨qP0, qP1, qP2, qP3⟩, ⟨fP0, fP1, fP2, fP3⟩, zP⟩ := HP.out
      go_wp2_with fail
      refine bodyPost_ret (v := .tuple #[.agg #[.int .i64 0, .int .i64 0, .int .i64 0, .int .i64 0], .int .i64 3]) (by simp (maxDischargeDepth := 8) [results, Tryd.results6, go_sem, *]) rfl ?_
      have hb := HB.out
      exact ⟨rfl, by (repeat' (first | (with_reducible exact Below.refl _ _) | (with_reducible refine Below.alloc ?_ ?_ _) | (with_reducible refine Below.setCell ?_ ?_ _) | (with_reducible refine Below.drew ?_) | (with_reducible refine below_drewN ?_ _) | (with_reducible assumption) | (with_reducible refine below_after (by with_reducible assumption) ?_) | go_size))⟩
    · have HX : Hid (∀ w, Calls Tryd.prog 17 #[.string ⟨l.toArray⟩] w fun e w' => e = .returned (.tuple #[.agg #[.int .i64 o0, .int .i64 o1, .int .i64 o2, .int .i64 o3], .bool true]) ∧ Below w.heap.size w w') := HX
      obtain ⟨GR, hG⟩ : ∃ G, w.heap.size = G := ⟨_, rfl⟩
      have HG := Lib.hid hG
      go_enter Tryd.func6, Tryd.ntmps6
      go_upto_region 1 with fail
      obtain ⟨w0, hw0⟩ : ∃ w0, w0 = (w.alloc (.cells #[.int .i64 0, .int .i64 0, .int .i64 0, .int .i64 0] 24)) := ⟨_, rfl⟩
      rw [← hw0]
      have HR : Hid (Bk4 w0 GR 0 0 0 0) := by
        have h := (bk4_new w 0 0 0 0 24).below (W' := (w.alloc (.cells #[.int .i64 0, .int .i64 0, .int .i64 0, .int .i64 0] 24))) (by (repeat' (first | (with_reducible exact Below.refl _ _) | (with_reducible refine Below.alloc ?_ ?_ _) | (with_reducible refine Below.setCell ?_ ?_ _) | (with_reducible refine Below.drew ?_) | (with_reducible refine below_drewN ?_ _) | (with_reducible assumption) | (with_reducible refine below_after (by with_reducible assumption) ?_) | go_size)))
        (try simp only [World.size_alloc] at h)
        rw [hG] at h
        rw [hw0]; exact h
      have HB : Hid (Below w.heap.size w w0) := by show Below w.heap.size w w0; rw [hw0]; (repeat' (first | (with_reducible exact Below.refl _ _) | (with_reducible refine Below.alloc ?_ ?_ _) | (with_reducible refine Below.setCell ?_ ?_ _) | (with_reducible refine Below.drew ?_) | (with_reducible refine below_drewN ?_ _) | (with_reducible assumption) | (with_reducible refine below_after (by with_reducible assumption) ?_) | go_size))
      clear hw0
      have le_R : w.heap.size ≤ GR := by omega
      obtain ⟨⟨qR0, qR1, qR2, qR3⟩, ⟨fR0, fR1, fR2, fR3⟩, zR⟩ := HR.out
      go_wp2_with fail
      go_at_call 16
      refine (HL.out _).mono ?_
      rintro e w1 ⟨rfl, hb⟩
      clear qR0 fR0 qR1 fR1 qR2 fR2 qR3 fR3 zR
      have HR := Lib.hid (HR.out.below hb)
      have HB := Lib.hid (below_after hb HB.out)
      clear hb
      obtain ⟨⟨qR0, qR1, qR2, qR3⟩, ⟨fR0, fR1, fR2, fR3⟩, zR⟩ := HR.out
      go_wp2_with fail
      go_at_call 17
      refine (HX.out _).mono ?_
      rintro e w2 ⟨rfl, hb⟩
      clear qR0 fR0 qR1 fR1 qR2 fR2 qR3 fR3 zR
      have HR := Lib.hid (HR.out.below hb)
      have HB := Lib.hid (below_after hb HB.out)
      clear hb
      obtain ⟨⟨qR0, qR1, qR2, qR3⟩, ⟨fR0, fR1, fR2, fR3⟩, zR⟩ := HR.out
      go_upto_region 4 with fail
      obtain ⟨GP, hGP⟩ : ∃ g, w2.heap.size = g := ⟨_, rfl⟩
      obtain ⟨w3, hw3⟩ : ∃ wx, wx = w2.alloc (.cells #[.int .i64 o0, .int .i64 o1, .int .i64 o2, .int .i64 o3] 24) := ⟨_, rfl⟩
      rw [← hw3, hGP]
      have HP : Hid (Bk4 w3 GP o0 o1 o2 o3) := by rw [hw3, ← hGP]; exact bk4_new w2 o0 o1 o2 o3 _
      have le_P : w.heap.size ≤ GP := by rw [← hGP]; exact HB.out.size
      have ne_P_R : GP ≠ GR := by have := HR.out.2.2; omega
      have ne_R_P : GR ≠ GP := Ne.symm ne_P_R
      clear qR0 fR0 qR1 fR1 qR2 fR2 qR3 fR3 zR
      have HR := Lib.hid (HR.out.below ((Below.refl _ _).alloc (Nat.le_refl _) (.cells #[.int .i64 o0, .int .i64 o1, .int .i64 o2, .int .i64 o3] 24)))
      have HB := Lib.hid (Below.alloc HB.out HB.out.size (.cells #[.int .i64 o0, .int .i64 o1, .int .i64 o2, .int .i64 o3] 24))
      rw [← hw3] at HR HB
      clear hw3 hGP
      obtain ⟨⟨qR0, qR1, qR2, qR3⟩, ⟨fR0, fR1, fR2, fR3⟩, zR⟩ := HR.out
      obtain ⟨⟨qP0, qP1, qP2, qP3⟩, ⟨fP0, fP1, fP2, fP3⟩, zP⟩ := HP.out
      go_wp2_with fail
      refine bodyPost_ret (v := .tuple #[.agg #[.int .i64 o0, .int .i64 o1, .int .i64 o2, .int .i64 o3], .int .i64 0]) (by simp (maxDischargeDepth := 8) [results, Tryd.results6, go_sem, *]) rfl ?_
      have hb := HB.out
      exact ⟨rfl, by (repeat' (first | (with_reducible exact Below.refl _ _) | (with_reducible refine Below.alloc ?_ ?_ _) | (with_reducible refine Below.setCell ?_ ?_ _) | (with_reducible refine Below.drew ?_) | (with_reducible refine below_drewN ?_ _) | (with_reducible assumption) | (with_reducible refine below_after (by with_reducible assumption) ?_) | go_size))⟩
theorem impl_MatrixOfWord_any (l : List UInt8) (w : World) (hl : l.length ≤ 1048576) : Calls Tryd.prog 7 #[.string ⟨l.toArray⟩] w fun e w' => e = .returned (mwV l) ∧ Below w.heap.size w w' := by
  have hsz := bytes_size l
  cases hw : wordOk l
  · rw [show mwV l = .tuple #[.agg #[.int .i64 0, .int .i64 0, .int .i64 0, .int .i64 0], .int .i64 2] from by unfold mwV; rw [hw]; rfl]
    have HL : Hid (∀ w, Calls Tryd.prog 18 #[.string ⟨l.toArray⟩] w fun e w' => e = .returned (.bool false) ∧ Below w.heap.size w w') := fun w => by
      have := isWord_any l w hl
      rwa [hw] at this
    clear hw
    obtain ⟨GR, hG⟩ : ∃ G, w.heap.size = G := ⟨_, rfl⟩
    have HG := Lib.hid hG
    go_enter Tryd.func7, Tryd.ntmps7
    go_upto_region 1 with fail
    obtain ⟨w0, hw0⟩ : ∃ w0, w0 = (w.alloc (.cells #[.int .i64 0, .int .i64 0, .int .i64 0, .int .i64 0] 24)) := ⟨_, rfl⟩
    rw [← hw0]
    have HR : Hid (Bk4 w0 GR 0 0 0 0) := by
      have h := (bk4_new w 0 0 0 0 24).below (W' := (w.alloc (.cells #[.int .i64 0, .int .i64 0, .int .i64 0, .int .i64 0] 24))) (by (repeat' (first | (with_reducible exact Below.refl _ _) | (with_reducible refine Below.alloc ?_ ?_ _) | (with_reducible refine Below.setCell ?_ ?_ _) | (with_reducible refine Below.drew ?_) | (with_reducible refine below_drewN ?_ _) | (with_reducible assumption) | (with_reducible refine below_after (by with_reducible assumption) ?_) | go_size)))
      (try simp only [World.size_alloc] at h)
      rw [hG] at h
      rw [hw0]; exact h
    have HB : Hid (Below w.heap.size w w0) := by show Below w.heap.size w w0; rw [hw0]; (repeat' (first | (with_reducible exact Below.refl _ _) | (with_reducible refine Below.alloc ?_ ?_ _) | (with_reducible refine Below.setCell ?_ ?_ _) | (with_reducible refine Below.drew ?_) | (with_reducible refine below_drewN ?_ _) | (with_reducible assumption) | (with_reducible refine below_after (by with_reducible assumption) ?_) | go_size))
    clear hw0
    have le_R : w.heap.size ≤ GR := by omega
    obtain ⟨⟨qR0, qR1, qR2, qR3⟩, ⟨fR0, fR1, fR2, fR3⟩, zR⟩ := HR.out
    go_wp2_with fail
    go_at_call 18
    refine (HL.out _).mono ?_
    rintro e w1 ⟨rfl, hb⟩
    clear qR0 fR0 qR1 fR1 qR2 fR2 qR3 fR3 zR
    have HR := Lib.hid (HR.out.below hb)
    have HB := Lib.hid (below_after hb HB.out)
    clear hb
    obtain ⟨⟨qR0, qR1, qR2, qR3⟩, ⟨fR0, fR1, fR2, fR3⟩, zR⟩ := HR.out
    go_wp2_with fail
    refine bodyPost_ret (v := .tuple #[.agg #[.int .i64 0, .int .i64 0, .int .i64 0, .int .i64 0], .int .i64 2]) (by simp (maxDischargeDepth := 8) [results, Tryd.results7, go_sem, *]) rfl ?_
    have hb := HB.out
    exact ⟨rfl, by (repeat' (first | (with_reducible exact Below.refl _ _) | (with_reducible refine Below.alloc ?_ ?_ _) | (with_reducible refine Below.setCell ?_ ?_ _) | (with_reducible refine Below.drew ?_) | (with_reducible refine below_drewN ?_ _) | (with_reducible assumption) | (with_reducible refine below_after (by with_reducible assumption) ?_) | go_size))⟩
  · rw [show mwV l = wmV (wm l 1 0 0 1) (.int .i64 0) (.int .i64 3) from by unfold mwV; rw [hw]; rfl]
    exact impl_MatrixOfWord_ok l w hl (wordOk_parts hw).1 (fun w => by
      have := isWord_any l w hl
      rwa [hw] at this)
theorem mwV_ex (l : List UInt8) : ∃ o0 o1 o2 o3 k : Int, mwV l = .tuple #[.agg #[.int .i64 o0, .int .i64 o1, .int .i64 o2, .int .i64 o3], .int .i64 k] := by
  unfold mwV
  split
  · rcases wm l 1 0 0 1 with _ | ⟨o0, o1, o2, o3⟩
    · exact ⟨0, 0, 0, 0, 3, rfl⟩
    · exact ⟨o0, o1, o2, o3, 0, rfl⟩
  · exact ⟨0, 0, 0, 0, 2, rfl⟩
end Go.Proofs.YtohnmogejidpdaaDoor
