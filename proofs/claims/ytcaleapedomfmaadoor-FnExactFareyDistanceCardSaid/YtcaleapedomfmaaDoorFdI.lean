/-
  FareyDistance: the model and the program, by one contract; the law (own work).
-/
import Derived.Test.YtcaleapedomfmaaDoorFdS
import Derived.Test.YtcaleapedomfmaaDoorFdF
import Derived.Test.YtcaleapedomfmaaDoorNbFareyDistance
namespace Go.Proofs.YtcaleapedomfmaaDoor
open Go.ChangeShapes Go.WideShapes Go.ChangeAt Go.RowKit Go.Shelf
set_option linter.unusedVariables false
set_option maxRecDepth 100000
set_option linter.unusedSimpArgs false
set_option maxRecDepth 100000

/-- The distance, and its code. -/
def fdK (a b c d : Int) : Int := if allFr [(a, b), (c, d)] = true then mvK a b c d else frE [(a, b), (c, d)]
def fdV (a b c d : Int) : Int := if fdK a b c d = 0 then lvl (mvX a b c d) (mvY a b c d) else 0
theorem fdK_fr {a b c d : Int} (h : allFr [(a, b), (c, d)] = false) : fdK a b c d = frE [(a, b), (c, d)] := by unfold fdK; rw [h]; rfl
theorem fdK_ok {a b c d : Int} (h : allFr [(a, b), (c, d)] = true) : fdK a b c d = mvK a b c d := by unfold fdK; rw [h]; rfl
theorem fdV_no {a b c d k : Int} (h : fdK a b c d = k) (hk : k ≠ 0) : fdV a b c d = 0 := by unfold fdV; rw [h, if_neg hk]
theorem fdV_yes {a b c d : Int} (h : fdK a b c d = 0) : fdV a b c d = lvl (mvX a b c d) (mvY a b c d) := by unfold fdV; rw [if_pos h]
theorem mvK_no {a b c d : Int} (h : isPt (mvX a b c d, mvY a b c d) = false) : mvK a b c d = 3 := by unfold mvK; rw [h]; rfl
theorem mvK_yes {a b c d : Int} (h : isPt (mvX a b c d, mvY a b c d) = true) : mvK a b c d = 0 := by unfold mvK; rw [h]; rfl
set_option maxHeartbeats 3200000 in
theorem spec_FareyDistance_any (a b c d : Int) (w : World) :
    Calls Tryd.prog 32 #[.agg #[.int .i64 a, .int .i64 b], .agg #[.int .i64 c, .int .i64 d]] w fun e w' => e = .returned (.tuple #[.int .i64 (fdV a b c d), .int .i64 (fdK a b c d)]) ∧ Below w.heap.size w w' := by
  have heq := eq_pt
  cases h : allFr [(a, b), (c, d)]
  · have hk := fdK_fr h
    rw [hk, fdV_no hk (frE_ne h)]
    exact spec_FareyDistance_fail a b c d _ w h rfl
  · have hk := fdK_ok h
    obtain ⟨f0, f1⟩ := frs2 h
    have HK := Lib.hid (frE_yes h)
    cases hs : (a == c && b == d)
    · have HM := Lib.hid (fun w => l05Moved_any a b c d w f0 f1)
      obtain ⟨g1, g2, g3⟩ := mv_prim f0 f1
      have hz : mvY a b c d ≠ 0 := fun h0 => by
        obtain ⟨rfl, rfl⟩ := mv_zero f0 f1 h0
        simp at hs
      cases hp : isPt (mvX a b c d, mvY a b c d)
      · rw [mvK_no hp] at hk
        rw [hk, fdV_no hk (by decide)]
        rw [hp] at HM
        generalize mvX a b c d = X at *
        generalize mvY a b c d = Y at *
        clear h hk f0 f1 g1 g2 g3 hz
        have hs20 : w.heap.size < w.heap.size + 1 + 1 := (by omega); have hs30 : w.heap.size < w.heap.size + 1 + 1 + 1 := (by omega); have hs31 : w.heap.size + 1 < w.heap.size + 1 + 1 + 1 := (by omega); have hs40 : w.heap.size < w.heap.size + 1 + 1 + 1 + 1 := (by omega); have hs41 : w.heap.size + 1 < w.heap.size + 1 + 1 + 1 + 1 := (by omega); have hs42 : w.heap.size + 1 + 1 < w.heap.size + 1 + 1 + 1 + 1 := (by omega)
        go_enter Tryd.func32, Tryd.ntmps32
        go_wp2_with (first | (go_at_call 39; refine (l05Code2_any a b c d 0 _ _ _ HK.out (by simp) (by go_cell) (by go_cell) (by go_cell) (by go_cell)).mono ?_; rintro e wn ⟨rfl, hb⟩; first | (have h2 := after_call2 hb hcl hfr hlt (by ((repeat' (first | (with_reducible exact Below.refl _ _) | (with_reducible refine Below.alloc ?_ ?_ _) | (with_reducible refine Below.setCell ?_ ?_ _) | (with_reducible refine Below.drew ?_) | (with_reducible refine below_drewN ?_ _) | (with_reducible assumption) | (with_reducible refine below_after (by with_reducible assumption) ?_) | go_size)); done)); obtain ⟨hclx, hfrx, hltx, hsz⟩ := after_call hb; (try simp only [World.size_alloc, World.size_setCell, World.size_drew] at hclx hfrx hltx hsz); (try (have hszl := Nat.lt_of_succ_le hsz)); obtain ⟨hcl, hfr, hlt⟩ := h2) | (obtain ⟨hcl, hfr, hlt, hsz⟩ := after_call hb; (try simp only [World.size_alloc, World.size_setCell, World.size_drew] at hcl hfr hlt hsz))) | (go_at_call 67; refine (HM.out _).mono ?_; rintro e wn ⟨rfl, hb⟩; first | (have h2 := after_call2 hb hcl hfr hlt (by ((repeat' (first | (with_reducible exact Below.refl _ _) | (with_reducible refine Below.alloc ?_ ?_ _) | (with_reducible refine Below.setCell ?_ ?_ _) | (with_reducible refine Below.drew ?_) | (with_reducible refine below_drewN ?_ _) | (with_reducible assumption) | (with_reducible refine below_after (by with_reducible assumption) ?_) | go_size)); done)); obtain ⟨hclx, hfrx, hltx, hsz⟩ := after_call hb; (try simp only [World.size_alloc, World.size_setCell, World.size_drew] at hclx hfrx hltx hsz); (try (have hszl := Nat.lt_of_succ_le hsz)); obtain ⟨hcl, hfr, hlt⟩ := h2) | (obtain ⟨hcl, hfr, hlt, hsz⟩ := after_call hb; (try simp only [World.size_alloc, World.size_setCell, World.size_drew] at hcl hfr hlt hsz))))
        go_ret2
        exact ⟨rfl, by (repeat' (first | (with_reducible exact Below.refl _ _) | (with_reducible refine Below.alloc ?_ ?_ _) | (with_reducible refine Below.setCell ?_ ?_ _) | (with_reducible refine Below.drew ?_) | (with_reducible refine below_drewN ?_ _) | (with_reducible assumption) | (with_reducible refine below_after (by with_reducible assumption) ?_) | go_size))⟩
      · rw [mvK_yes hp] at hk
        rw [hk, fdV_yes hk]
        rw [hp] at HM
        have q1 := isPt_c1 hp
        have q2 := isPt_c2 hp
        have HL := Lib.hid (fun w => l05Level_any (mvX a b c d) (mvY a b c d) w (by omega) (by omega) (by omega) (by omega) g1)
        generalize lvl (mvX a b c d) (mvY a b c d) = R at *
        generalize mvX a b c d = X at *
        generalize mvY a b c d = Y at *
        clear h hk f0 f1 g1 g2 g3 hz q1 q2
        have hs20 : w.heap.size < w.heap.size + 1 + 1 := (by omega); have hs30 : w.heap.size < w.heap.size + 1 + 1 + 1 := (by omega); have hs31 : w.heap.size + 1 < w.heap.size + 1 + 1 + 1 := (by omega); have hs40 : w.heap.size < w.heap.size + 1 + 1 + 1 + 1 := (by omega); have hs41 : w.heap.size + 1 < w.heap.size + 1 + 1 + 1 + 1 := (by omega); have hs42 : w.heap.size + 1 + 1 < w.heap.size + 1 + 1 + 1 + 1 := (by omega)
        go_enter Tryd.func32, Tryd.ntmps32
        go_wp2_with (first | (go_at_call 39; refine (l05Code2_any a b c d 0 _ _ _ HK.out (by simp) (by go_cell) (by go_cell) (by go_cell) (by go_cell)).mono ?_; rintro e wn ⟨rfl, hb⟩; first | (have h2 := after_call2 hb hcl hfr hlt (by ((repeat' (first | (with_reducible exact Below.refl _ _) | (with_reducible refine Below.alloc ?_ ?_ _) | (with_reducible refine Below.setCell ?_ ?_ _) | (with_reducible refine Below.drew ?_) | (with_reducible refine below_drewN ?_ _) | (with_reducible assumption) | (with_reducible refine below_after (by with_reducible assumption) ?_) | go_size)); done)); obtain ⟨hclx, hfrx, hltx, hsz⟩ := after_call hb; (try simp only [World.size_alloc, World.size_setCell, World.size_drew] at hclx hfrx hltx hsz); (try (have hszl := Nat.lt_of_succ_le hsz)); obtain ⟨hcl, hfr, hlt⟩ := h2) | (obtain ⟨hcl, hfr, hlt, hsz⟩ := after_call hb; (try simp only [World.size_alloc, World.size_setCell, World.size_drew] at hcl hfr hlt hsz))) | (go_at_call 67; refine (HM.out _).mono ?_; rintro e wn ⟨rfl, hb⟩; first | (have h2 := after_call2 hb hcl hfr hlt (by ((repeat' (first | (with_reducible exact Below.refl _ _) | (with_reducible refine Below.alloc ?_ ?_ _) | (with_reducible refine Below.setCell ?_ ?_ _) | (with_reducible refine Below.drew ?_) | (with_reducible refine below_drewN ?_ _) | (with_reducible assumption) | (with_reducible refine below_after (by with_reducible assumption) ?_) | go_size)); done)); obtain ⟨hclx, hfrx, hltx, hsz⟩ := after_call hb; (try simp only [World.size_alloc, World.size_setCell, World.size_drew] at hclx hfrx hltx hsz); (try (have hszl := Nat.lt_of_succ_le hsz)); obtain ⟨hcl, hfr, hlt⟩ := h2) | (obtain ⟨hcl, hfr, hlt, hsz⟩ := after_call hb; (try simp only [World.size_alloc, World.size_setCell, World.size_drew] at hcl hfr hlt hsz))) | (go_at_call 68; refine (HL.out _).mono ?_; rintro e wn ⟨rfl, hb⟩; first | (have h2 := after_call2 hb hcl hfr hlt (by ((repeat' (first | (with_reducible exact Below.refl _ _) | (with_reducible refine Below.alloc ?_ ?_ _) | (with_reducible refine Below.setCell ?_ ?_ _) | (with_reducible refine Below.drew ?_) | (with_reducible refine below_drewN ?_ _) | (with_reducible assumption) | (with_reducible refine below_after (by with_reducible assumption) ?_) | go_size)); done)); obtain ⟨hclx, hfrx, hltx, hsz⟩ := after_call hb; (try simp only [World.size_alloc, World.size_setCell, World.size_drew] at hclx hfrx hltx hsz); (try (have hszl := Nat.lt_of_succ_le hsz)); obtain ⟨hcl, hfr, hlt⟩ := h2) | (obtain ⟨hcl, hfr, hlt, hsz⟩ := after_call hb; (try simp only [World.size_alloc, World.size_setCell, World.size_drew] at hcl hfr hlt hsz))))
        go_ret2
        exact ⟨rfl, by (repeat' (first | (with_reducible exact Below.refl _ _) | (with_reducible refine Below.alloc ?_ ?_ _) | (with_reducible refine Below.setCell ?_ ?_ _) | (with_reducible refine Below.drew ?_) | (with_reducible refine below_drewN ?_ _) | (with_reducible assumption) | (with_reducible refine below_after (by with_reducible assumption) ?_) | go_size))⟩
    · obtain ⟨e1, e2⟩ : a = c ∧ b = d := by simpa using hs
      subst e1 e2
      obtain ⟨e3, e4⟩ := mv_same f0
      have hk0 : fdK a b a b = 0 := by rw [hk]; unfold mvK; rw [e3, e4]; rfl
      rw [hk0, fdV_yes hk0, e3, e4, lvl_zero]
      clear h hk f0 f1 e3 e4 hk0
      have hs20 : w.heap.size < w.heap.size + 1 + 1 := (by omega); have hs30 : w.heap.size < w.heap.size + 1 + 1 + 1 := (by omega); have hs31 : w.heap.size + 1 < w.heap.size + 1 + 1 + 1 := (by omega); have hs40 : w.heap.size < w.heap.size + 1 + 1 + 1 + 1 := (by omega); have hs41 : w.heap.size + 1 < w.heap.size + 1 + 1 + 1 + 1 := (by omega); have hs42 : w.heap.size + 1 + 1 < w.heap.size + 1 + 1 + 1 + 1 := (by omega)
      go_enter Tryd.func32, Tryd.ntmps32
      go_wp2_with (go_at_call 39; refine (l05Code2_any a b a b 0 _ _ _ HK.out (by simp) (by go_cell) (by go_cell) (by go_cell) (by go_cell)).mono ?_; rintro e wn ⟨rfl, hb⟩; first | (have h2 := after_call2 hb hcl hfr hlt (by ((repeat' (first | (with_reducible exact Below.refl _ _) | (with_reducible refine Below.alloc ?_ ?_ _) | (with_reducible refine Below.setCell ?_ ?_ _) | (with_reducible refine Below.drew ?_) | (with_reducible refine below_drewN ?_ _) | (with_reducible assumption) | (with_reducible refine below_after (by with_reducible assumption) ?_) | go_size)); done)); obtain ⟨hclx, hfrx, hltx, hsz⟩ := after_call hb; (try simp only [World.size_alloc, World.size_setCell, World.size_drew] at hclx hfrx hltx hsz); (try (have hszl := Nat.lt_of_succ_le hsz)); obtain ⟨hcl, hfr, hlt⟩ := h2) | (obtain ⟨hcl, hfr, hlt, hsz⟩ := after_call hb; (try simp only [World.size_alloc, World.size_setCell, World.size_drew] at hcl hfr hlt hsz)))
      go_ret2
      exact ⟨rfl, by (repeat' (first | (with_reducible exact Below.refl _ _) | (with_reducible refine Below.alloc ?_ ?_ _) | (with_reducible refine Below.setCell ?_ ?_ _) | (with_reducible refine Below.drew ?_) | (with_reducible refine below_drewN ?_ _) | (with_reducible assumption) | (with_reducible refine below_after (by with_reducible assumption) ?_) | go_size))⟩
set_option maxHeartbeats 3200000 in
theorem cl_FareyDistance_ok (p q : Nat) (a b c d V K : Int) (hV : fdV a b c d = V) (hK : fdK a b c d = K) (a0 a1 : Addr) (W : World) (hs : Snt W a0 a1) (h : allFr [(a, b), (c, d)] = true) (c0 : W.cell? ⟨p, 0, none⟩ = some (.int .i64 a)) (d0 : W.cell? ⟨p, 1, none⟩ = some (.int .i64 b)) (c1 : W.cell? ⟨q, 0, none⟩ = some (.int .i64 c)) (d1 : W.cell? ⟨q, 1, none⟩ = some (.int .i64 d)) :
    Calls Tryd.prog 70 #[.pointer (some ⟨p, 0, none⟩), .pointer (some ⟨q, 0, none⟩)] W fun e w' => e = .returned (.tuple #[.int .i64 V, .int .i64 K]) ∧ Below W.heap.size W w' := by
  have HE := Lib.hid (demE_yes (a0 := a0) (a1 := a1) h)
  have HS := Lib.hid hs
  obtain ⟨f0, f1⟩ := frs2 h
  have HF := Lib.hid (fun w => fractionFrom_any a b c d w f0 f1)
  have lp : p < W.heap.size := World.block_lt_of_cell? _ _ c0
  have lq : q < W.heap.size := World.block_lt_of_cell? _ _ c1
  have HX : Hid (∀ w', Below W.heap.size W w' → w'.cell? ⟨p, 0, none⟩ = some (.int .i64 a) ∧ w'.cell? ⟨p, 1, none⟩ = some (.int .i64 b) ∧ w'.cell? ⟨q, 0, none⟩ = some (.int .i64 c) ∧ w'.cell? ⟨q, 1, none⟩ = some (.int .i64 d)) := fun w' hw => ⟨(hw.cell (p := ⟨p, 0, none⟩) lp).trans c0, (hw.cell (p := ⟨p, 1, none⟩) lp).trans d0, (hw.cell (p := ⟨q, 0, none⟩) lq).trans c1, (hw.cell (p := ⟨q, 1, none⟩) lq).trans d1⟩
  obtain ⟨g1, g2, g3⟩ := mv_prim f0 f1
  cases hp : isPt (mvX a b c d, mvY a b c d)
  · have hk := (fdK_ok h).trans (mvK_no hp)
    obtain rfl : 3 = K := hk.symm.trans hK
    obtain rfl : 0 = V := (fdV_no hk (by decide)).symm.trans hV
    rw [mvK_no hp, onz_no (by decide), onz_no (by decide)] at HF
    clear h hs f0 f1 g1 g2 g3 hk hK hV
    go_enter Tryd.func70, Tryd.ntmps70
    go_wp2_with fail
    go_at_call 43
    refine (demand2_any a b c d a0 a1 _ _ _ _ HE.out (HS.out.below (by (repeat' (first | (with_reducible exact Below.refl _ _) | (with_reducible refine Below.alloc ?_ ?_ _) | (with_reducible refine Below.setCell ?_ ?_ _) | (with_reducible refine Below.drew ?_) | (with_reducible refine below_drewN ?_ _) | (with_reducible assumption) | (with_reducible refine below_after (by with_reducible assumption) ?_) | go_size)))) (by simp) (by go_cell) (by go_cell) (by go_cell) (by go_cell)).mono ?_
    rintro e w1 ⟨rfl, hb⟩
    have hb2 : Below W.heap.size W w1 := below_after hb (by (repeat' (first | (with_reducible exact Below.refl _ _) | (with_reducible refine Below.alloc ?_ ?_ _) | (with_reducible refine Below.setCell ?_ ?_ _) | (with_reducible refine Below.drew ?_) | (with_reducible refine below_drewN ?_ _) | (with_reducible assumption) | (with_reducible refine below_after (by with_reducible assumption) ?_) | go_size)))
    have HB := Lib.hid hb2
    clear hb hb2 c0 d0 c1 d1
    obtain ⟨c0, d0, c1, d1⟩ := HX.out _ HB.out
    go_wp2_with fail
    go_at_call 71
    refine (HF.out _).mono ?_
    rintro e w2 ⟨rfl, hb⟩
    have hb2 : Below W.heap.size W w2 := below_after hb HB.out
    have hz := hb2.size
    clear hb c0 d0 c1 d1
    go_wp2_with fail
    go_ret2
    exact ⟨rfl, by (repeat' (first | (with_reducible exact Below.refl _ _) | (with_reducible refine Below.alloc ?_ ?_ _) | (with_reducible refine Below.setCell ?_ ?_ _) | (with_reducible refine Below.drew ?_) | (with_reducible refine below_drewN ?_ _) | (with_reducible assumption) | (with_reducible refine below_after (by with_reducible assumption) ?_) | go_size))⟩
  · have hk := (fdK_ok h).trans (mvK_yes hp)
    obtain rfl : 0 = K := hk.symm.trans hK
    have hV2 := (fdV_yes hk).symm.trans hV
    have q1 := isPt_c1 hp
    have q2 := isPt_c2 hp
    have HL := Lib.hid (fun w => levelOf_any (mvX a b c d) (mvY a b c d) w g2 q2.2 q1.1 q1.2)
    rw [hV2] at HL
    rw [mvK_yes hp, onz_yes, onz_yes] at HF
    clear h hs f0 f1 g1 g2 g3 hk hK hV hV2 q1 q2
    generalize mvX a b c d = X at *
    generalize mvY a b c d = Y at *
    go_enter Tryd.func70, Tryd.ntmps70
    go_wp2_with fail
    go_at_call 43
    refine (demand2_any a b c d a0 a1 _ _ _ _ HE.out (HS.out.below (by (repeat' (first | (with_reducible exact Below.refl _ _) | (with_reducible refine Below.alloc ?_ ?_ _) | (with_reducible refine Below.setCell ?_ ?_ _) | (with_reducible refine Below.drew ?_) | (with_reducible refine below_drewN ?_ _) | (with_reducible assumption) | (with_reducible refine below_after (by with_reducible assumption) ?_) | go_size)))) (by simp) (by go_cell) (by go_cell) (by go_cell) (by go_cell)).mono ?_
    rintro e w1 ⟨rfl, hb⟩
    have hb2 : Below W.heap.size W w1 := below_after hb (by (repeat' (first | (with_reducible exact Below.refl _ _) | (with_reducible refine Below.alloc ?_ ?_ _) | (with_reducible refine Below.setCell ?_ ?_ _) | (with_reducible refine Below.drew ?_) | (with_reducible refine below_drewN ?_ _) | (with_reducible assumption) | (with_reducible refine below_after (by with_reducible assumption) ?_) | go_size)))
    have HB := Lib.hid hb2
    clear hb hb2 c0 d0 c1 d1
    obtain ⟨c0, d0, c1, d1⟩ := HX.out _ HB.out
    go_wp2_with fail
    go_at_call 71
    refine (HF.out _).mono ?_
    rintro e w2 ⟨rfl, hb⟩
    have HB2 : Hid (Below W.heap.size W w2) := below_after hb HB.out
    have hz := HB2.out.size
    clear hb c0 d0 c1 d1
    go_wp2_with fail
    go_at_call 72
    refine (HL.out _).mono ?_
    rintro e w3 ⟨rfl, hb⟩
    have hb2 : Below W.heap.size W w3 := below_after hb (Below.alloc HB2.out hz _)
    clear hb
    go_wp2_with fail
    go_ret2
    exact ⟨rfl, hb2⟩
theorem impl_FareyDistance_any (a b c d : Int) (a0 a1 : Addr) (w : World) (hs : Snt w a0 a1) :
    Calls Tryd.prog 33 #[.agg #[.int .i64 a, .int .i64 b], .agg #[.int .i64 c, .int .i64 d]] w fun e w' => e = .returned (.tuple #[.int .i64 (fdV a b c d), .int .i64 (fdK a b c d)]) ∧ Below w.heap.size w w' := by
  cases h : allFr [(a, b), (c, d)]
  · have hk := fdK_fr h
    rw [hk, fdV_no hk (frE_ne h)]
    exact impl_FareyDistance_fail a b c d _ a0 a1 w hs h rfl
  · exact impl_FareyDistance_of a b c d _ (.int .i64 (fdV a b c d)) a0 a1 w hs (fun p q W hs c0 d0 c1 d1 => cl_FareyDistance_ok p q a b c d _ _ rfl rfl a0 a1 W hs h c0 d0 c1 d1)
end Go.Proofs.YtcaleapedomfmaaDoor
