/-
  ReducePair, in the program and in the model (own work).
-/
import Derived.Test.YtadikmjdmddkjaaRdD
import Derived.Test.YtadikmjdmddkjaaOwn
import Derived.Test.YtadikmjdmddkjaaPtM
import Derived.Deep.DeepCutAuto
namespace Go.Proofs.Ytadikmjdmddkjaa
open Go.ChangeShapes Go.WideShapes Go.ChangeAt Go.RowKit
set_option linter.unusedVariables false
set_option linter.unusedSimpArgs false
set_option maxRecDepth 100000

def rpL (x0 y0 x1 y1 : Int) : List (Int × Int) := if prC x0 y0 x1 y1 = 0 then [(rdV ((x0, y0), (x1, y1))).1, (rdV ((x0, y0), (x1, y1))).2] else []
theorem rpL_len (x0 y0 x1 y1 : Int) : (rpL x0 y0 x1 y1).length ≤ 2 := by
  unfold rpL
  split <;> simp
theorem rtnP_nil {w w' : World} {c : Int} (hb : Below w.heap.size w w') : RetPC w [] c (.returned (.tuple #[.slice none 0 0, .int .i64 c])) w' := ⟨_, rfl, World.ownsRow_nil _ _ _ _, hb⟩
set_option maxHeartbeats 1600000 in
theorem impl_ReducePair_any (x0 y0 x1 y1 : Int) (w : World) : Calls Try.prog 6 #[.agg #[.int .i64 x0, .int .i64 y0], .agg #[.int .i64 x1, .int .i64 y1]] w (RetPC w (rpL x0 y0 x1 y1) (prC x0 y0 x1 y1)) := by
  obtain ⟨C, hC⟩ : ∃ C, prC x0 y0 x1 y1 = C := ⟨_, rfl⟩
  have CC : Hid (∀ w, Calls Try.prog 21 #[.agg #[.int .i64 x0, .int .i64 y0], .agg #[.int .i64 x1, .int .i64 y1]] w fun e w' => e = .returned (.int .i64 C) ∧ Below w.heap.size w w') := fun w => by have := codeOfPair_any x0 y0 x1 y1 w; rwa [hC] at this
  unfold rpL
  rw [hC]
  have hs20 : w.heap.size < w.heap.size + 1 + 1 := (by omega)
  by_cases hc : C = 0
  · subst hc
    obtain ⟨⟨p0, p1⟩, hd⟩ := prC_ok hC
    have hk := rdOk_of p0 p1 hd
    have CR := Lib.hid (fun w => reducedPair_any x0 y0 x1 y1 w hk)
    rw [if_pos rfl]
    obtain ⟨⟨⟨u0, u1⟩, ⟨v0, v1⟩⟩, hV⟩ : ∃ V, rdV ((x0, y0), (x1, y1)) = V := ⟨_, rfl⟩
    rw [hV] at CR ⊢
    dsimp only at CR ⊢
    clear hC p0 p1 hd hk hV hs20
    obtain ⟨GS, hG⟩ : ∃ G, w.heap.size = G := ⟨_, rfl⟩
    have HG := Lib.hid hG
    go_enter Try.func6, Try.ntmps6
    go_upto_region 1 with fail
    obtain ⟨w0, hw0⟩ : ∃ w0, w0 = ((w.alloc (.cells #[.int .i64 x0, .int .i64 y0] 25)).alloc (.cells #[.int .i64 x1, .int .i64 y1] 25)) := ⟨_, rfl⟩
    rw [← hw0]
    have HS : Hid (Bk2 w0 GS x0 y0) := by
      have h := (bk2_new w x0 y0 25).below (W' := ((w.alloc (.cells #[.int .i64 x0, .int .i64 y0] 25)).alloc (.cells #[.int .i64 x1, .int .i64 y1] 25))) (by (repeat' (first | (with_reducible exact Below.refl _ _) | (with_reducible refine Below.alloc ?_ ?_ _) | (with_reducible refine Below.setCell ?_ ?_ _) | (with_reducible refine Below.drew ?_) | (with_reducible refine below_drewN ?_ _) | (with_reducible assumption) | (with_reducible refine below_after (by with_reducible assumption) ?_) | go_size)))
      (try simp only [World.size_alloc] at h)
      rw [hG] at h
      rw [hw0]; exact h
    have HT : Hid (Bk2 w0 (GS + 1) x1 y1) := by
      have h := (bk2_new (w.alloc (.cells #[.int .i64 x0, .int .i64 y0] 25)) x1 y1 25).below (W' := ((w.alloc (.cells #[.int .i64 x0, .int .i64 y0] 25)).alloc (.cells #[.int .i64 x1, .int .i64 y1] 25))) (by (repeat' (first | (with_reducible exact Below.refl _ _) | (with_reducible refine Below.alloc ?_ ?_ _) | (with_reducible refine Below.setCell ?_ ?_ _) | (with_reducible refine Below.drew ?_) | (with_reducible refine below_drewN ?_ _) | (with_reducible assumption) | (with_reducible refine below_after (by with_reducible assumption) ?_) | go_size)))
      (try simp only [World.size_alloc] at h)
      rw [hG] at h
      rw [hw0]; exact h
    have HB : Hid (Below w.heap.size w w0) := by show Below w.heap.size w w0; rw [hw0]; (repeat' (first | (with_reducible exact Below.refl _ _) | (with_reducible refine Below.alloc ?_ ?_ _) | (with_reducible refine Below.setCell ?_ ?_ _) | (with_reducible refine Below.drew ?_) | (with_reducible refine below_drewN ?_ _) | (with_reducible assumption) | (with_reducible refine below_after (by with_reducible assumption) ?_) | go_size))
    clear hw0
    obtain ⟨GT, hGT⟩ : ∃ g, GS + 1 = g := ⟨_, rfl⟩
    rw [hGT] at HT ⊢
    have le_S : w.heap.size ≤ GS := by omega
    have le_T : w.heap.size ≤ GT := by omega
    have ne_T_S : GT ≠ GS := by omega
    have ne_S_T : GS ≠ GT := by omega
    clear hGT
    obtain ⟨⟨qS0, qS1⟩, ⟨fS0, fS1⟩, zS⟩ := HS.out
    obtain ⟨⟨qT0, qT1⟩, ⟨fT0, fT1⟩, zT⟩ := HT.out
    go_wp2_with fail
    go_at_call 21
    refine (CC.out _).mono ?_
    rintro e w1 ⟨rfl, hb⟩
    clear qS0 fS0 qS1 fS1 zS qT0 fT0 qT1 fT1 zT
    have HS := Lib.hid (HS.out.below hb)
    have HT := Lib.hid (HT.out.below hb)
    have HB := Lib.hid (below_after hb HB.out)
    clear hb
    obtain ⟨⟨qS0, qS1⟩, ⟨fS0, fS1⟩, zS⟩ := HS.out
    obtain ⟨⟨qT0, qT1⟩, ⟨fT0, fT1⟩, zT⟩ := HT.out
    go_wp2_with fail
    go_at_call 22
    refine (CR.out _).mono ?_
    rintro e w2 ⟨rfl, hb⟩
    clear qS0 fS0 qS1 fS1 zS qT0 fT0 qT1 fT1 zT
    have HS := Lib.hid (HS.out.below hb)
    have HT := Lib.hid (HT.out.below hb)
    have HB := Lib.hid (below_after hb HB.out)
    clear hb
    obtain ⟨⟨qS0, qS1⟩, ⟨fS0, fS1⟩, zS⟩ := HS.out
    obtain ⟨⟨qT0, qT1⟩, ⟨fT0, fT1⟩, zT⟩ := HT.out
    go_upto_region 5 with fail
    obtain ⟨wz, hwz⟩ : ∃ wx, wx = (((w2.setCell ⟨GS, 0, none⟩ (.int .i64 u0)).setCell ⟨GS, 1, none⟩ (.int .i64 u1)).setCell ⟨GT, 0, none⟩ (.int .i64 v0)).setCell ⟨GT, 1, none⟩ (.int .i64 v1) := ⟨_, rfl⟩
    rw [← hwz]
    clear qS0 fS0 qS1 fS1 zS qT0 fT0 qT1 fT1 zT
    have HT := Lib.hid ((HT.out.far ⟨GS, 0, none⟩ (.int .i64 u0) (by show GT ≠ GS; exact ne_T_S)).far ⟨GS, 1, none⟩ (.int .i64 u1) (by show GT ≠ GS; exact ne_T_S))
    have HS := Lib.hid ((HS.out.set0 u0).set1 u1)
    have HB := Lib.hid (Below.setCell (Below.setCell HB.out (p := ⟨GS, 0, none⟩) le_S (.int .i64 u0)) (p := ⟨GS, 1, none⟩) le_S (.int .i64 u1))
    have HS := Lib.hid ((HS.out.far ⟨GT, 0, none⟩ (.int .i64 v0) (by show GS ≠ GT; exact ne_S_T)).far ⟨GT, 1, none⟩ (.int .i64 v1) (by show GS ≠ GT; exact ne_S_T))
    have HT := Lib.hid ((HT.out.set0 v0).set1 v1)
    have HB := Lib.hid (Below.setCell (Below.setCell HB.out (p := ⟨GT, 0, none⟩) le_T (.int .i64 v0)) (p := ⟨GT, 1, none⟩) le_T (.int .i64 v1))
    rw [← hwz] at HS HT HB
    clear hwz
    obtain ⟨⟨qS0, qS1⟩, ⟨fS0, fS1⟩, zS⟩ := HS.out
    obtain ⟨⟨qT0, qT1⟩, ⟨fT0, fT1⟩, zT⟩ := HT.out
    go_wp2_with fail
    refine bodyPost_ret (v := .tuple #[.slice (some ⟨wz.heap.size, 0, none⟩) 2 2, .int .i64 0]) (by simp (maxDischargeDepth := 8) [results, Try.results6, go_sem, *]) rfl ?_
    exact ⟨_, rfl, World.ownsRow_lit wz #[.int .i64 u0, .int .i64 u1, .int .i64 v0, .int .i64 v1] 2 HB.out.size (by decide) rfl, Below.alloc HB.out HB.out.size _⟩
  · rw [if_neg hc]
    clear hC
    go_enter Try.func6, Try.ntmps6
    go_wp2_with (first | (go_at_call 21; refine (CC.out _).mono ?_; rintro e wn ⟨rfl, hb⟩; first | (have h2 := after_call2 hb hcl hfr hlt (by ((repeat' (first | (with_reducible exact Below.refl _ _) | (with_reducible refine Below.alloc ?_ ?_ _) | (with_reducible refine Below.setCell ?_ ?_ _) | (with_reducible refine Below.drew ?_) | (with_reducible refine below_drewN ?_ _) | (with_reducible assumption) | (with_reducible refine below_after (by with_reducible assumption) ?_) | go_size)); done)); obtain ⟨hclx, hfrx, hltx, hsz⟩ := after_call hb; (try simp only [World.size_alloc, World.size_setCell, World.size_drew] at hclx hfrx hltx hsz); (try (have hszl := Nat.lt_of_succ_le hsz)); obtain ⟨hcl, hfr, hlt⟩ := h2) | (obtain ⟨hcl, hfr, hlt, hsz⟩ := after_call hb; (try simp only [World.size_alloc, World.size_setCell, World.size_drew] at hcl hfr hlt hsz))))
    refine bodyPost_ret (v := .tuple #[.slice none 0 0, .int .i64 C]) (by simp (maxDischargeDepth := 8) [results, Try.results6, go_sem, *]) rfl ?_
    exact rtnP_nil (by (repeat' (first | (with_reducible exact Below.refl _ _) | (with_reducible refine Below.alloc ?_ ?_ _) | (with_reducible refine Below.setCell ?_ ?_ _) | (with_reducible refine Below.drew ?_) | (with_reducible refine below_drewN ?_ _) | (with_reducible assumption) | (with_reducible refine below_after (by with_reducible assumption) ?_) | go_size)))
set_option maxHeartbeats 1600000 in
theorem spec_ReducePair_any (x0 y0 x1 y1 : Int) (w : World) : Calls Try.prog 7 #[.agg #[.int .i64 x0, .int .i64 y0], .agg #[.int .i64 x1, .int .i64 y1]] w (RetPC w (rpL x0 y0 x1 y1) (prC x0 y0 x1 y1)) := by
  obtain ⟨C, hC⟩ : ∃ C, prC x0 y0 x1 y1 = C := ⟨_, rfl⟩
  have CC : Hid (∀ w, Calls Try.prog 23 #[.agg #[.int .i64 x0, .int .i64 y0], .agg #[.int .i64 x1, .int .i64 y1]] w fun e w' => e = .returned (.int .i64 C) ∧ Below w.heap.size w w') := fun w => by have := l10Pair_any x0 y0 x1 y1 w; rwa [hC] at this
  unfold rpL
  rw [hC]
  have hs20 : w.heap.size < w.heap.size + 1 + 1 := (by omega)
  by_cases hc : C = 0
  · subst hc
    obtain ⟨⟨p0, p1⟩, hd⟩ := prC_ok hC
    have hk := rdOk_of p0 p1 hd
    have CR := Lib.hid (fun w => l10Reduce_any x0 y0 x1 y1 w hk)
    rw [if_pos rfl]
    obtain ⟨⟨⟨u0, u1⟩, ⟨v0, v1⟩⟩, hV⟩ : ∃ V, rdV ((x0, y0), (x1, y1)) = V := ⟨_, rfl⟩
    rw [hV] at CR ⊢
    dsimp only at CR ⊢
    clear hC p0 p1 hd hk hV hs20
    obtain ⟨GS, hG⟩ : ∃ G, w.heap.size = G := ⟨_, rfl⟩
    have HG := Lib.hid hG
    go_enter Try.func7, Try.ntmps7
    go_upto_region 1 with fail
    obtain ⟨w0, hw0⟩ : ∃ w0, w0 = ((w.alloc (.cells #[.int .i64 x0, .int .i64 y0] 25)).alloc (.cells #[.int .i64 x1, .int .i64 y1] 25)) := ⟨_, rfl⟩
    rw [← hw0]
    have HS : Hid (Bk2 w0 GS x0 y0) := by
      have h := (bk2_new w x0 y0 25).below (W' := ((w.alloc (.cells #[.int .i64 x0, .int .i64 y0] 25)).alloc (.cells #[.int .i64 x1, .int .i64 y1] 25))) (by (repeat' (first | (with_reducible exact Below.refl _ _) | (with_reducible refine Below.alloc ?_ ?_ _) | (with_reducible refine Below.setCell ?_ ?_ _) | (with_reducible refine Below.drew ?_) | (with_reducible refine below_drewN ?_ _) | (with_reducible assumption) | (with_reducible refine below_after (by with_reducible assumption) ?_) | go_size)))
      (try simp only [World.size_alloc] at h)
      rw [hG] at h
      rw [hw0]; exact h
    have HT : Hid (Bk2 w0 (GS + 1) x1 y1) := by
      have h := (bk2_new (w.alloc (.cells #[.int .i64 x0, .int .i64 y0] 25)) x1 y1 25).below (W' := ((w.alloc (.cells #[.int .i64 x0, .int .i64 y0] 25)).alloc (.cells #[.int .i64 x1, .int .i64 y1] 25))) (by (repeat' (first | (with_reducible exact Below.refl _ _) | (with_reducible refine Below.alloc ?_ ?_ _) | (with_reducible refine Below.setCell ?_ ?_ _) | (with_reducible refine Below.drew ?_) | (with_reducible refine below_drewN ?_ _) | (with_reducible assumption) | (with_reducible refine below_after (by with_reducible assumption) ?_) | go_size)))
      (try simp only [World.size_alloc] at h)
      rw [hG] at h
      rw [hw0]; exact h
    have HB : Hid (Below w.heap.size w w0) := by show Below w.heap.size w w0; rw [hw0]; (repeat' (first | (with_reducible exact Below.refl _ _) | (with_reducible refine Below.alloc ?_ ?_ _) | (with_reducible refine Below.setCell ?_ ?_ _) | (with_reducible refine Below.drew ?_) | (with_reducible refine below_drewN ?_ _) | (with_reducible assumption) | (with_reducible refine below_after (by with_reducible assumption) ?_) | go_size))
    clear hw0
    obtain ⟨GT, hGT⟩ : ∃ g, GS + 1 = g := ⟨_, rfl⟩
    rw [hGT] at HT ⊢
    have le_S : w.heap.size ≤ GS := by omega
    have le_T : w.heap.size ≤ GT := by omega
    have ne_T_S : GT ≠ GS := by omega
    have ne_S_T : GS ≠ GT := by omega
    clear hGT
    obtain ⟨⟨qS0, qS1⟩, ⟨fS0, fS1⟩, zS⟩ := HS.out
    obtain ⟨⟨qT0, qT1⟩, ⟨fT0, fT1⟩, zT⟩ := HT.out
    go_wp2_with fail
    go_at_call 23
    refine (CC.out _).mono ?_
    rintro e w1 ⟨rfl, hb⟩
    clear qS0 fS0 qS1 fS1 zS qT0 fT0 qT1 fT1 zT
    have HS := Lib.hid (HS.out.below hb)
    have HT := Lib.hid (HT.out.below hb)
    have HB := Lib.hid (below_after hb HB.out)
    clear hb
    obtain ⟨⟨qS0, qS1⟩, ⟨fS0, fS1⟩, zS⟩ := HS.out
    obtain ⟨⟨qT0, qT1⟩, ⟨fT0, fT1⟩, zT⟩ := HT.out
    go_wp2_with fail
    go_at_call 24
    refine (CR.out _).mono ?_
    rintro e w2 ⟨rfl, hb⟩
    clear qS0 fS0 qS1 fS1 zS qT0 fT0 qT1 fT1 zT
    have HS := Lib.hid (HS.out.below hb)
    have HT := Lib.hid (HT.out.below hb)
    have HB := Lib.hid (below_after hb HB.out)
    clear hb
    obtain ⟨⟨qS0, qS1⟩, ⟨fS0, fS1⟩, zS⟩ := HS.out
    obtain ⟨⟨qT0, qT1⟩, ⟨fT0, fT1⟩, zT⟩ := HT.out
    go_upto_region 5 with fail
    obtain ⟨wz, hwz⟩ : ∃ wx, wx = (w2.alloc (.cells #[.int .i64 u0, .int .i64 u1] 25)).alloc (.cells #[.int .i64 v0, .int .i64 v1] 25) := ⟨_, rfl⟩
    rw [← hwz]
    have hq0 : wz.cell? ⟨w2.heap.size, 0, none⟩ = some (.int .i64 u0) := by rw [hwz]; go_cell
    have hq1 : wz.cell? ⟨w2.heap.size, 1, none⟩ = some (.int .i64 u1) := by rw [hwz]; go_cell
    have hq2 : wz.cell? ⟨w2.heap.size + 1, 0, none⟩ = some (.int .i64 v0) := by rw [hwz]; go_cell
    have hq3 : wz.cell? ⟨w2.heap.size + 1, 1, none⟩ = some (.int .i64 v1) := by rw [hwz]; go_cell
    have hBz : Below w.heap.size w wz := by rw [hwz]; have hB := HB.out; (repeat' (first | (with_reducible exact Below.refl _ _) | (with_reducible refine Below.alloc ?_ ?_ _) | (with_reducible refine Below.setCell ?_ ?_ _) | (with_reducible refine Below.drew ?_) | (with_reducible refine below_drewN ?_ _) | (with_reducible assumption) | (with_reducible refine below_after (by with_reducible assumption) ?_) | go_size))
    clear hwz
    go_wp2_with fail
    refine bodyPost_ret (v := .tuple #[.slice (some ⟨wz.heap.size, 0, none⟩) 2 2, .int .i64 0]) (by simp (maxDischargeDepth := 8) [results, Try.results7, go_sem, *]) rfl ?_
    exact ⟨_, rfl, World.ownsRow_lit wz #[.int .i64 u0, .int .i64 u1, .int .i64 v0, .int .i64 v1] 2 hBz.size (by decide) rfl, Below.alloc hBz hBz.size _⟩
  · rw [if_neg hc]
    clear hC
    go_enter Try.func7, Try.ntmps7
    go_wp2_with (first | (go_at_call 23; refine (CC.out _).mono ?_; rintro e wn ⟨rfl, hb⟩; first | (have h2 := after_call2 hb hcl hfr hlt (by ((repeat' (first | (with_reducible exact Below.refl _ _) | (with_reducible refine Below.alloc ?_ ?_ _) | (with_reducible refine Below.setCell ?_ ?_ _) | (with_reducible refine Below.drew ?_) | (with_reducible refine below_drewN ?_ _) | (with_reducible assumption) | (with_reducible refine below_after (by with_reducible assumption) ?_) | go_size)); done)); obtain ⟨hclx, hfrx, hltx, hsz⟩ := after_call hb; (try simp only [World.size_alloc, World.size_setCell, World.size_drew] at hclx hfrx hltx hsz); (try (have hszl := Nat.lt_of_succ_le hsz)); obtain ⟨hcl, hfr, hlt⟩ := h2) | (obtain ⟨hcl, hfr, hlt, hsz⟩ := after_call hb; (try simp only [World.size_alloc, World.size_setCell, World.size_drew] at hcl hfr hlt hsz))))
    refine bodyPost_ret (v := .tuple #[.slice none 0 0, .int .i64 C]) (by simp (maxDischargeDepth := 8) [results, Try.results7, go_sem, *]) rfl ?_
    exact rtnP_nil (by (repeat' (first | (with_reducible exact Below.refl _ _) | (with_reducible refine Below.alloc ?_ ?_ _) | (with_reducible refine Below.setCell ?_ ?_ _) | (with_reducible refine Below.drew ?_) | (with_reducible refine below_drewN ?_ _) | (with_reducible assumption) | (with_reducible refine below_after (by with_reducible assumption) ?_) | go_size)))
end Go.Proofs.Ytadikmjdmddkjaa
