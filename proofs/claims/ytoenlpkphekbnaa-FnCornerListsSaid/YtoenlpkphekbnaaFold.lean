/-
  The program's fold of chapter 1, over the library's iterator (own work).
-/
import Derived.Test.YtoenlpkphekbnaaBack
namespace Go.Proofs.Ytoenlpkphekbnaa
open Go.ChangeShapes Go.WideShapes Go.ChangeAt Go.RowKit Go.Shelf
set_option linter.unusedVariables false
set_option maxRecDepth 100000
set_option linter.unusedSimpArgs false
attribute [local go_sem] Oper.semAt_some

def fA (xs : List Int) : Int := bif okF xs then (ff xs).1 else 0
def fB (xs : List Int) : Int := bif okF xs then (ff xs).2 else 0
def fC (xs : List Int) : Int := bif okF xs then 0 else 3
theorem okF_pt0 {xs : List Int} (h : okF xs = true) : isPt ((ff xs).1, (ff xs).2) = true := by
  have := okF_pt (xs := xs) (t := 0) (by rw [List.drop_zero]; exact h) (by omega)
  rw [List.drop_zero] at this; exact this
set_option maxRecDepth 100000 in
set_option maxHeartbeats 4000000 in
theorem foldList_any (B0 : Nat) (v : Value) (xs : List Int) (w : World) (h : OwnI B0 w v xs) (hl : 1 ≤ xs.length) (hx : xs.length ≤ 1048576) (hz : ∀ i : Nat, crd (xs[i]?.getD 0) = true) :
    Calls Try.prog 141 #[v] w fun e w' => e = .returned (.tuple #[.agg #[.int .i64 (fA xs), .int .i64 (fB xs)], .int .i64 (fC xs)]) ∧ Below w.heap.size w w' := by
  obtain ⟨a, cap, rfl, f⟩ := own_view h
  obtain ⟨g, rfl, _, hg, hc, _⟩ := f (by omega)
  have HC : Hid (∀ j, j < xs.length → w.cell? ⟨g, 0 + j, none⟩ = some (.int .i64 (xs[j]?.getD 0))) := by
    show ∀ j, j < xs.length → w.cell? ⟨g, 0 + j, none⟩ = some (.int .i64 (xs[j]?.getD 0))
    intro j hj
    rw [Nat.zero_add]
    have := hc j hj
    simpa [List.getD] using this
  have HZ := Lib.hid hz
  have HX := Lib.hid hx
  clear h f hc hz hx hl
  refine (callsIn_wide (n := 6)).1 ?_
  refine callsIn_of_wp_marks Try.func141 rfl trivial ?_ rfl
  simp only [Try.ntmps141, List.size_toArray, List.length_cons, List.length_nil, Nat.reduceAdd, Nat.reduceSub, Array.replicate_succ, Array.replicate_zero, List.push_toArray, List.append_toArray, List.nil_append, List.cons_append]
  gi_wp2_with (refine ⟨trivial, ?_⟩; gi_at_call 144; refine (back_in Fence.wide _ trivial rfl _ _ _ _).mono ?_; rintro e w' ⟨rfl, rfl⟩)
  refine wpIn_rangeFunc_ownG rfl (by omega) (gf := 145) (lb := #[.pointer (some ⟨w.heap.size + 1 + 1 + 1, 0, none⟩)]) rfl trivial (enters_of Try.func145 (by kernel_rfl) rfl)
    (back_stops Fence.wide _ trivial rfl (by omega) (w.heap.size + 1 + 1 + 1) w.heap.size g 0 cap xs HZ.out HX.out _ ?hBs ?hn0 ?hcc hg ?hcs) kb_t (kb_b ?hn1 ?hBs1) (Below.refl _ _) (fun _ => rfl)
    (fun pre W => (okF (came pre) = true ∧ W.cell? ⟨w.heap.size, 0, none⟩ = some (.int .i64 0) ∧ W.cell? ⟨w.heap.size, 1, none⟩ = some (.int .i64 0) ∧ W.cell? ⟨w.heap.size + 1, 0, none⟩ = some (.int .i64 0) ∧ W.cell? ⟨w.heap.size + 1 + 1, 0, none⟩ = some (.int .i64 (ff (came pre)).1) ∧ W.cell? ⟨w.heap.size + 1 + 1, 1, none⟩ = some (.int .i64 (ff (came pre)).2) ∧ W.frozen? ⟨w.heap.size, 0, none⟩ = false ∧ W.frozen? ⟨w.heap.size, 1, none⟩ = false ∧ W.frozen? ⟨w.heap.size + 1, 0, none⟩ = false ∧ W.frozen? ⟨w.heap.size + 1 + 1, 0, none⟩ = false ∧ W.frozen? ⟨w.heap.size + 1 + 1, 1, none⟩ = false ∧ w.heap.size + 1 + 1 + 1 < W.heap.size) ∧ Below w.heap.size w W)
    (fun c pre W => (c = .ret ∧ okF (came pre) = false ∧ W.cell? ⟨w.heap.size, 0, none⟩ = some (.int .i64 0) ∧ W.cell? ⟨w.heap.size, 1, none⟩ = some (.int .i64 0) ∧ W.cell? ⟨w.heap.size + 1, 0, none⟩ = some (.int .i64 3)) ∧ Below w.heap.size w W)
    (OwnFrom.and (Own.from (fun s A B row hs hg hr => by
      obtain ⟨hok, c0, c1, cc, f0, f1, z0, z1, z2, z3, z4, hs⟩ := hs
      exact ⟨hok, cell_kept c0 hg hr, cell_kept c1 hg hr, cell_kept cc hg hr, cell_kept f0 hg hr, cell_kept f1 hg hr, (frozen_kept c0 hg hr).trans z0, (frozen_kept c1 hg hr).trans z1, (frozen_kept cc hg hr).trans z2, (frozen_kept f0 hg hr).trans z3, (frozen_kept f1 hg hr).trans z4, Nat.lt_of_lt_of_le hs hg.size⟩) _) (ownFrom_below (Nat.le_refl _) (by simp; omega)))
    (fun c => OwnFrom.and (Own.from (fun s A B row hs hg hr => ⟨hs.1, hs.2.1, cell_kept hs.2.2.1 hg hr, cell_kept hs.2.2.2.1 hg hr, cell_kept hs.2.2.2.2 hg hr⟩) _) (ownFrom_below (Nat.le_refl _) (by simp; omega)))
    ?h0
    (fun x => { tmps := #[.slice (some ⟨g, 0, none⟩) xs.length cap, undef, .pointer (some ⟨w.heap.size, 0, none⟩), .pointer (some ⟨w.heap.size + 1, 0, none⟩), .pointer (some ⟨w.heap.size + 1 + 1, 0, none⟩), undef, .int .i64 x.1.2, .agg #[.int .i64 1, .int .i64 0], .slice (some ⟨g, 0, none⟩) xs.length cap, .func (.func 145) #[] #[.pointer (some ⟨w.heap.size + 1 + 1 + 1, 0, none⟩)], .int .i64 (x.1.1 : Int), .int .i64 x.1.2, undef, undef, undef, undef, undef, undef, undef, undef, undef, undef, undef, undef, undef, undef, undef], defers := [] }) ?assign ?body ?done ?stop
  case hBs => simp
  case hn0 => simp; omega
  case hcc => go_cell
  case hcs => 
    intro j hj
    have := HC.out j hj
    refine (Below.cell (B := w.heap.size) ?_ hg).trans this
    (repeat' (first | (with_reducible exact Below.refl _ _) | (with_reducible refine Below.alloc ?_ ?_ _) | (with_reducible refine Below.setCell ?_ ?_ _) | (with_reducible refine Below.drew ?_) | (with_reducible refine below_drewN ?_ _) | (with_reducible assumption) | (with_reducible refine below_after (by with_reducible assumption) ?_) | go_size))
  case hn1 => simp; omega
  case hBs1 => simp
  case h0 =>
    refine ⟨⟨rfl, ?_, ?_, ?_, ?_, ?_, ?_, ?_, ?_, ?_, ?_, ?_⟩, ?_⟩
    all_goals first | (go_cell; done) | (show _ = some (Value.int .i64 1); go_cell; done) | (show _ = some (Value.int .i64 0); go_cell; done) | (simp; done) | ((repeat' (first | (with_reducible exact Below.refl _ _) | (with_reducible refine Below.alloc ?_ ?_ _) | (with_reducible refine Below.setCell ?_ ?_ _) | (with_reducible refine Below.drew ?_) | (with_reducible refine below_drewN ?_ _) | (with_reducible assumption) | (with_reducible refine below_after (by with_reducible assumption) ?_) | go_size)); done)
  case assign =>
    intro l x W K hK
    gi_wp2
    exact hK
  case body =>
    rintro l pre ⟨⟨ix, x⟩, hxc⟩ W ⟨⟨hok, c0, c1, cc, f0, f1, z0, z1, z2, z3, z4, hsz0⟩, hB⟩ _
    have hpt := okF_pt0 hok
    have hP := isPt_c1 hpt
    have hQ := isPt_c2 hpt
    have hxb : -1000000 ≤ x ∧ x ≤ 1000000 := crd_iff.1 hxc
    have HF : Hid (ff (came (pre ++ [⟨(ix, x), hxc⟩])) = (x * (ff (came pre)).1 + (ff (came pre)).2, (ff (came pre)).1)) := by
      show ff (came (pre ++ [⟨(ix, x), hxc⟩])) = _
      rw [came_snoc]; rfl
    have HO : Hid (okF (came (pre ++ [⟨(ix, x), hxc⟩])) = (okF (came pre) && isPt (ff (came (pre ++ [⟨(ix, x), hxc⟩]))))) := by
      show okF (came (pre ++ [⟨(ix, x), hxc⟩])) = _
      rw [came_snoc]; rfl
    have HK := Lib.hid hok
    generalize (ff (came pre)).1 = P at *
    generalize (ff (came pre)).2 = Q at *
    have hm := mul_bd hxb.1 hxb.2 hP.1 hP.2
    obtain ⟨hm1, hm2⟩ := hm
    obtain ⟨hP1, hP2⟩ := hP
    obtain ⟨hQ1, hQ2⟩ := hQ
    have hw1 : wrap64 (x * P) = x * P := IntWalk.wrap64_in _ (by omega)
    have hw2 : wrap64 (x * P + Q) = x * P + Q := IntWalk.wrap64_in _ (by omega)
    clear hok hpt hxb
    cases hpt : isPt (x * P + Q, P)
    · have HN : Hid (okF (came (pre ++ [⟨(ix, x), hxc⟩])) = false) := by
        show okF (came (pre ++ [⟨(ix, x), hxc⟩])) = false
        rw [HO.out, HF.out, hpt, Bool.and_false]
      gi_wp2_with (refine ⟨trivial, ?_⟩; gi_at_call 84; refine (CallsIn.inRound l (callsIn_wide.2 (isPoint_any _ _ _))).mono ?_; rintro e wn ⟨rfl, hb⟩; obtain ⟨hcl, hfr, hlt, hsz⟩ := after_call hb; (try simp only [World.size_alloc, World.size_setCell, World.size_drew] at hcl hfr hlt hsz); have n0 : wn.cell? ⟨w.heap.size, 0, none⟩ = some (.int .i64 0) := (by rw [hcl _ _ (by omega)]; go_cell); have n1 : wn.cell? ⟨w.heap.size, 1, none⟩ = some (.int .i64 0) := (by rw [hcl _ _ (by omega)]; go_cell); have n2 : wn.cell? ⟨w.heap.size + 1, 0, none⟩ = some (.int .i64 0) := (by rw [hcl _ _ (by omega)]; go_cell); have n3 : wn.cell? ⟨w.heap.size + 1 + 1, 0, none⟩ = some (.int .i64 (x * P + Q)) := (by rw [hcl _ _ (by omega)]; go_cell); have n4 : wn.cell? ⟨w.heap.size + 1 + 1, 1, none⟩ = some (.int .i64 P) := (by rw [hcl _ _ (by omega)]; go_cell); have y0 : wn.frozen? ⟨w.heap.size, 0, none⟩ = false := (by rw [hfr _ _ (by omega)]; first | (simpa using z0) | (simp; exact z0)); have y1 : wn.frozen? ⟨w.heap.size, 1, none⟩ = false := (by rw [hfr _ _ (by omega)]; first | (simpa using z1) | (simp; exact z1)); have y2 : wn.frozen? ⟨w.heap.size + 1, 0, none⟩ = false := (by rw [hfr _ _ (by omega)]; first | (simpa using z2) | (simp; exact z2)); have y3 : wn.frozen? ⟨w.heap.size + 1 + 1, 0, none⟩ = false := (by rw [hfr _ _ (by omega)]; first | (simpa using z3) | (simp; exact z3)); have y4 : wn.frozen? ⟨w.heap.size + 1 + 1, 1, none⟩ = false := (by rw [hfr _ _ (by omega)]; first | (simpa using z4) | (simp; exact z4)); have hs5 : w.heap.size + 1 + 1 + 1 < wn.heap.size := hlt _ (by omega); have HBN := Lib.hid hb; clear hcl hfr hlt hb)
      have m0 := World.cell?_setCell_same' wn ⟨w.heap.size, 0, none⟩ (.int .i64 0) (by rw [n0]; rfl)
      refine ⟨((((((KeepsOthers.setCell W _ _).trans (KeepsOthers.setCell _ _ _)).trans (keepsOthers_of_below HBN.out)).trans (KeepsOthers.setCell _ _ _)).trans (KeepsOthers.setCell _ _ _)).trans (KeepsOthers.setCell _ _ _)).from _, ⟨rfl, HN.out, ?_, ?_, ?_⟩, ?_⟩
      · go_cell
      · go_cell
      · go_cell
      · exact ((((hB.trans ((((Below.refl w.heap.size W).setCell (by simp; omega) _).setCell (by simp; omega) _).trans (HBN.out.mono (by simp; omega)))).setCell (by simp) _).setCell (by simp) _).setCell (by simp) _)
    · have HN : Hid (okF (came (pre ++ [⟨(ix, x), hxc⟩])) = true) := by
        show okF (came (pre ++ [⟨(ix, x), hxc⟩])) = true
        rw [HO.out, HF.out, hpt, HK.out]; rfl
      gi_wp2_with (refine ⟨trivial, ?_⟩; gi_at_call 84; refine (CallsIn.inRound l (callsIn_wide.2 (isPoint_any _ _ _))).mono ?_; rintro e wn ⟨rfl, hb⟩; obtain ⟨hcl, hfr, hlt, hsz⟩ := after_call hb; (try simp only [World.size_alloc, World.size_setCell, World.size_drew] at hcl hfr hlt hsz); have n0 : wn.cell? ⟨w.heap.size, 0, none⟩ = some (.int .i64 0) := (by rw [hcl _ _ (by omega)]; go_cell); have n1 : wn.cell? ⟨w.heap.size, 1, none⟩ = some (.int .i64 0) := (by rw [hcl _ _ (by omega)]; go_cell); have n2 : wn.cell? ⟨w.heap.size + 1, 0, none⟩ = some (.int .i64 0) := (by rw [hcl _ _ (by omega)]; go_cell); have n3 : wn.cell? ⟨w.heap.size + 1 + 1, 0, none⟩ = some (.int .i64 (x * P + Q)) := (by rw [hcl _ _ (by omega)]; go_cell); have n4 : wn.cell? ⟨w.heap.size + 1 + 1, 1, none⟩ = some (.int .i64 P) := (by rw [hcl _ _ (by omega)]; go_cell); have y0 : wn.frozen? ⟨w.heap.size, 0, none⟩ = false := (by rw [hfr _ _ (by omega)]; first | (simpa using z0) | (simp; exact z0)); have y1 : wn.frozen? ⟨w.heap.size, 1, none⟩ = false := (by rw [hfr _ _ (by omega)]; first | (simpa using z1) | (simp; exact z1)); have y2 : wn.frozen? ⟨w.heap.size + 1, 0, none⟩ = false := (by rw [hfr _ _ (by omega)]; first | (simpa using z2) | (simp; exact z2)); have y3 : wn.frozen? ⟨w.heap.size + 1 + 1, 0, none⟩ = false := (by rw [hfr _ _ (by omega)]; first | (simpa using z3) | (simp; exact z3)); have y4 : wn.frozen? ⟨w.heap.size + 1 + 1, 1, none⟩ = false := (by rw [hfr _ _ (by omega)]; first | (simpa using z4) | (simp; exact z4)); have hs5 : w.heap.size + 1 + 1 + 1 < wn.heap.size := hlt _ (by omega); have HBN := Lib.hid hb; clear hcl hfr hlt hb)
      refine ⟨(((KeepsOthers.setCell W _ _).trans (KeepsOthers.setCell _ _ _)).trans (keepsOthers_of_below HBN.out)).from _, ⟨((((Below.refl w.heap.size W).setCell (by simp; omega) _).setCell (by simp; omega) _).trans (HBN.out.mono (by simp; omega))), ?_⟩, ⟨HN.out, n0, n1, n2, ?_, ?_, y0, y1, y2, y3, y4, hs5⟩, hB.trans ((((Below.refl w.heap.size W).setCell (by simp; omega) _).setCell (by simp; omega) _).trans (HBN.out.mono (by simp; omega)))⟩
      · rw [(bcell HBN.out).1 _ _ (by simp; omega), World.cell?_setCell_far _ _ _ _ (by show w.heap.size + 1 + 1 ≠ w.heap.size + 1 + 1 + 1; omega), World.cell?_setCell_far _ _ _ _ (by show w.heap.size + 1 + 1 ≠ w.heap.size + 1 + 1 + 1; omega)]
      · rw [HF.out]; exact n3
      · rw [HF.out]; exact n4
  case done =>
    rintro D ys W hD rfl ⟨⟨hok, c0, c1, cc, f0, f1, z0, z1, z2, z3, z4, hsz0⟩, hB⟩ hK
    have k0 := came_bk xs HZ.out xs.length (Nat.le_refl _)
    rw [Nat.sub_self, List.drop_zero] at k0
    rw [k0] at hok f0 f1
    gi_wp2
    have hK1 := (KeepsOthers.setCell W ⟨w.heap.size, 0, none⟩ (.int .i64 (ff xs).1)).same D _ hK rfl
    have hK2 := (KeepsOthers.setCell _ ⟨w.heap.size, 1, none⟩ (.int .i64 (ff xs).2)).same D _ hK1 rfl
    have hK3 := (KeepsOthers.setCell _ ⟨w.heap.size + 1, 0, none⟩ (.int .i64 0)).same D _ hK2 rfl
    refine ⟨by simp, .inl ⟨_, _, rfl, run_takeDeferred hK3, ?_⟩⟩
    have e0 : (((W.setCell ⟨w.heap.size, 0, none⟩ (.int .i64 (ff xs).1)).setCell ⟨w.heap.size, 1, none⟩ (.int .i64 (ff xs).2)).setCell ⟨w.heap.size + 1, 0, none⟩ (.int .i64 0)).cell? ⟨w.heap.size, 0, none⟩ = some (.int .i64 (ff xs).1) := by go_cell
    have e1 : (((W.setCell ⟨w.heap.size, 0, none⟩ (.int .i64 (ff xs).1)).setCell ⟨w.heap.size, 1, none⟩ (.int .i64 (ff xs).2)).setCell ⟨w.heap.size + 1, 0, none⟩ (.int .i64 0)).cell? ⟨w.heap.size, 1, none⟩ = some (.int .i64 (ff xs).2) := by go_cell
    have e2 : (((W.setCell ⟨w.heap.size, 0, none⟩ (.int .i64 (ff xs).1)).setCell ⟨w.heap.size, 1, none⟩ (.int .i64 (ff xs).2)).setCell ⟨w.heap.size + 1, 0, none⟩ (.int .i64 0)).cell? ⟨w.heap.size + 1, 0, none⟩ = some (.int .i64 0) := by go_cell
    have g0 := cell_kept e0 (grownBy_putObj' _ D (.deferred none)) (fun r e => by cases e; exact ⟨_, hK3, rfl⟩)
    have g1 := cell_kept e1 (grownBy_putObj' _ D (.deferred none)) (fun r e => by cases e; exact ⟨_, hK3, rfl⟩)
    have g2 := cell_kept e2 (grownBy_putObj' _ D (.deferred none)) (fun r e => by cases e; exact ⟨_, hK3, rfl⟩)
    refine ⟨.tuple #[.agg #[.int .i64 (ff xs).1, .int .i64 (ff xs).2], .int .i64 0], ?_, by unfold fA fB fC; rw [hok]; rfl, (((hB.setCell (by simp) _).setCell (by simp) _).setCell (by simp) _).trans (belowK_b (w := w) (Nat.le_refl _) _ D _ _ (by simp at hD; omega) hK3 rfl rfl)⟩
    simp [results, Try.f141, go_sem, g0, g1, g2]
  case stop =>
    rintro D c pre W hD ⟨k, hk, rfl⟩ ⟨⟨rfl, hno, c0, c1, cc⟩, hB⟩ hK
    gi_wp2
    refine ⟨by simp, .inl ⟨_, _, rfl, run_takeDeferred hK, ?_⟩⟩
    have g0 := cell_kept c0 (grownBy_putObj' _ D (.deferred none)) (fun r e => by cases e; exact ⟨_, hK, rfl⟩)
    have g1 := cell_kept c1 (grownBy_putObj' _ D (.deferred none)) (fun r e => by cases e; exact ⟨_, hK, rfl⟩)
    have g2 := cell_kept cc (grownBy_putObj' _ D (.deferred none)) (fun r e => by cases e; exact ⟨_, hK, rfl⟩)
    have hno2 : okF xs = false := by
      cases hokx : okF xs
      · rfl
      · exfalso
        rw [came_bk xs HZ.out k hk, okF_drop _ hokx] at hno
        cases hno
    refine ⟨.tuple #[.agg #[.int .i64 0, .int .i64 0], .int .i64 3], ?_, by unfold fA fB fC; rw [hno2]; rfl, hB.trans (belowK_b (w := w) (Nat.le_refl _) W D _ _ (by simp at hD; omega) hK rfl rfl)⟩
    simp [results, Try.f141, go_sem, g0, g1, g2]
end Go.Proofs.Ytoenlpkphekbnaa
