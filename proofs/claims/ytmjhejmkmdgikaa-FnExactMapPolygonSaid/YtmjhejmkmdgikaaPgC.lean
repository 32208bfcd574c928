/-
  Chapter 9's isConvex and areCorners, in the program (own work).
-/
import Derived.Test.YtmjhejmkmdgikaaPgF
namespace Go.Proofs.Ytmjhejmkmdgikaa
open Go.ChangeShapes Go.WideShapes Go.ChangeAt Go.RowKit Go.Shelf
set_option linter.unusedVariables false
set_option maxRecDepth 100000
set_option linter.unusedSimpArgs false
attribute [local go_sem] Oper.semAt_some

def lfB (ps : List (Int × Int)) (i : Nat) (c : Int × Int) : Bool := decide (0 < trn (pl ps i) (pl ps (i + 1)) c)
def ctL (ps : List (Int × Int)) (i j : Nat) : Nat := (ps.take j).countP (lfB ps i)
theorem ctL_le (ps : List (Int × Int)) (i j : Nat) : ctL ps i j ≤ j := by
  unfold ctL
  have := List.countP_le_length (p := lfB ps i) (l := ps.take j)
  rw [List.length_take] at this
  omega
theorem ctL_step {ps : List (Int × Int)} {i j : Nat} (hj : j < ps.length) : ctL ps i (j + 1) = ctL ps i j + (if lfB ps i (ps.getD j (0, 0)) = true then 1 else 0) := by
  unfold ctL
  rw [List.take_succ_eq_append_getElem hj, List.countP_append]
  have e : ps.getD j (0, 0) = ps[j] := by simp [List.getD, hj]
  rw [e]
  simp [List.countP_cons, List.countP_nil]
/-- Whether a side has all other corners to the left. -/
def okS (ps : List (Int × Int)) (i : Nat) : Bool := decide (ctL ps i ps.length = ps.length - 2)
def cvB (ps : List (Int × Int)) : Bool := (List.range ps.length).all (okS ps)
set_option maxRecDepth 100000 in
set_option maxHeartbeats 4000000 in
theorem isConvex_some (ps : List (Int × Int)) (m g cap : Nat) (w : World) (hps : ps.length = m) (h3 : 3 ≤ m) (hm : m ≤ 12) (hg : g < w.heap.size) (hc : PtCells w g 0 ps) (hin : inC ps = true) :
    Calls Try.prog 135 #[.slice (some ⟨g, 0, none⟩) m cap] w fun e w' => e = .returned (.bool (cvB ps)) ∧ Below w.heap.size w w' := by
  have HPT := Lib.hid (fun k => inC_pt hin (show 0 < ps.length by omega) k)
  have HPS := Lib.hid hps
  have HC := Lib.hid hc
  have HGP : Hid (∀ j, j < m → isPt (ps.getD j (0, 0)) = true) := fun j hj => by
    have := HPT.out j
    rwa [pl_lt (by omega)] at this
  clear hc hin
  refine (callsIn_wide (n := 6)).1 ?_
  refine callsIn_of_wp_marks Try.func135 rfl trivial ?_ rfl
  simp only [Try.ntmps135, List.size_toArray, List.length_cons, List.length_nil, Nat.reduceAdd, Nat.reduceSub, Array.replicate_succ, Array.replicate_zero, List.push_toArray, List.append_toArray, List.nil_append, List.cons_append]
  gi_wp2_with (refine ⟨trivial, ?_⟩; gi_at_call 145; refine (callsIn_wide.2 (sides_any _ _ _ _)).mono ?_; rintro e wn ⟨rfl, rfl⟩)
  refine wpIn_rangeFunc_ownH rfl (by omega) (gf := 164) (lb := #[.pointer (some ⟨w.heap.size + 1 + 1, 0, none⟩)]) rfl trivial (enters_of Try.func164 (by kernel_rfl) rfl)
    (sides_stops _ (by omega) (w.heap.size + 1 + 1) g m cap ps hps (by omega) (by omega) _ ?hBs ?hgl ?hcA ?hcB) kps_t (kps_b ?hBs1 ?hgl1) (Below.refl _ _) (fun _ => rfl)
    (fun pre W => (Boxed W (w.heap.size + 1) 4 (.bool false) ∧ Boxed W w.heap.size 25 (.slice (some ⟨g, 0, none⟩) m cap) ∧ ∀ x, x ∈ pre → okS ps x.val = true) ∧ (Below w.heap.size w W ∧ w.heap.size + 1 + 1 + 1 ≤ W.heap.size))
    (fun c pre W => (c = .ret ∧ Boxed W (w.heap.size + 1) 4 (.bool false) ∧ ∃ x : Fin m, okS ps x.val = false) ∧ (Below w.heap.size w W ∧ w.heap.size + 1 + 1 + 1 ≤ W.heap.size))
    (OwnFrom.and (fun _ _ _ _ hs hg hr => ⟨boxed_own1 hs.1 hg (fun r e => (hr r e).2), boxed_own1 hs.2.1 hg (fun r e => (hr r e).2), hs.2.2⟩) (OwnFrom.and (ownFrom_below (Nat.le_refl _) (by simp; omega)) (fun _ _ _ _ hs hg _ => Nat.le_trans hs hg.size)))
    (fun _ => OwnFrom.and (fun _ _ _ _ hs hg hr => ⟨hs.1, boxed_own1 hs.2.1 hg (fun r e => (hr r e).2), hs.2.2⟩) (OwnFrom.and (ownFrom_below (Nat.le_refl _) (by simp; omega)) (fun _ _ _ _ hs hg _ => Nat.le_trans hs hg.size)))
    ?h0
    (fun x a' W => ∃ A B, w.heap.size + 1 + 1 < A ∧ w.heap.size + 1 + 1 < B ∧ g < A ∧ g < B ∧ Pc W A (pl ps x.val) ∧ Pc W B (pl ps (x.val + 1)) ∧ a' = { tmps := #[.slice (some ⟨g, 0, none⟩) m cap, .pointer (some ⟨w.heap.size, 0, none⟩), .pointer (some ⟨w.heap.size + 1, 0, none⟩), .pointer (some ⟨A, 0, none⟩), .pointer (some ⟨B, 0, none⟩), undef, undef, undef, .slice (some ⟨g, 0, none⟩) m cap, .func (.func 164) #[] #[.pointer (some ⟨w.heap.size + 1 + 1, 0, none⟩)], .agg #[.int .i64 (pl ps x.val).1, .int .i64 (pl ps x.val).2], .agg #[.int .i64 (pl ps (x.val + 1)).1, .int .i64 (pl ps (x.val + 1)).2], undef, undef, undef, undef, undef, undef, undef, undef, undef, undef, undef, undef, undef, undef, undef, undef, undef, undef, undef], defers := [] }) ?hAx ?assign ?body ?done ?stop
  case hBs => simp
  case hgl => simp; omega
  case hcA => go_cell
  case hcB => exact ptCells_kept HC.out (by rw [Below.heap_alloc _ _ _ (by simp; omega), Below.heap_alloc _ _ _ (by simp; omega), Below.heap_alloc _ _ _ hg])
  case hBs1 => simp
  case hgl1 => simp; omega
  case h0 =>
    refine ⟨⟨?_, ?_, fun x hx => by simp at hx⟩, ?_, by simp⟩
    · have := (Boxed.new (w.alloc (.cells #[.slice (some ⟨g, 0, none⟩) m cap] 25)) 4 (.bool false)).alloc (.cells #[.slice (some ⟨g, 0, none⟩) m cap] 25)
      rwa [World.size_alloc] at this
    · exact ((Boxed.new w 25 (.slice (some ⟨g, 0, none⟩) m cap)).alloc _).alloc _
    · (repeat' (first | (with_reducible exact Below.refl _ _) | (with_reducible refine Below.alloc ?_ ?_ _) | (with_reducible refine Below.setCell ?_ ?_ _) | (with_reducible refine Below.drew ?_) | (with_reducible refine below_drewN ?_ _) | (with_reducible assumption) | (with_reducible refine below_after (by with_reducible assumption) ?_) | go_size))
  case hAx =>
    rintro x a' _ W W' row ⟨A, B, h1, h2, h3, h4, h5, h6, h7⟩ hg hr
    exact ⟨A, B, h1, h2, h3, h4, h5.own hg (fun r e => (hr r e).2), h6.own hg (fun r e => (hr r e).2), h7⟩
  case assign =>
    rintro l pre x W K ⟨⟨hI1, hI2, hI3⟩, hB, hz⟩ hK
    have hsz := hB.size
    unfold enS vP
    gi_wp2
    have b2 : Below W.heap.size W ((W.alloc (.cells #[.int .i64 (pl ps x.val).1, .int .i64 (pl ps x.val).2] 32)).alloc (.cells #[.int .i64 (pl ps (x.val + 1)).1, .int .i64 (pl ps (x.val + 1)).2] 32)) := by (repeat' (first | (with_reducible exact Below.refl _ _) | (with_reducible refine Below.alloc ?_ ?_ _) | (with_reducible refine Below.setCell ?_ ?_ _) | (with_reducible refine Below.drew ?_) | (with_reducible refine below_drewN ?_ _) | (with_reducible assumption) | (with_reducible refine below_after (by with_reducible assumption) ?_) | go_size))
    refine hK _ _ ((keepsOthers_of_below b2).from _) (kps_below b2 (by omega) (by omega)) ⟨⟨boxed_below hI1 b2, boxed_below hI2 b2, hI3⟩, hB.trans (b2.mono hsz), Nat.le_trans hz b2.size⟩ ?_
    refine ⟨W.heap.size, W.heap.size + 1, by omega, by omega, by omega, by omega, ?_, ?_, rfl⟩
    · exact (Below.heap_alloc _ _ _ (by simp)).trans (World.alloc_heap_new W _)
    · have := World.alloc_heap_new (W.alloc (.cells #[.int .i64 (pl ps x.val).1, .int .i64 (pl ps x.val).2] 32)) (.cells #[.int .i64 (pl ps (x.val + 1)).1, .int .i64 (pl ps (x.val + 1)).2] 32)
      rwa [World.size_alloc] at this
  case body =>
    rintro l pre x a' W hl hrec ⟨⟨hI1, hI2, hI3⟩, hB, hz⟩ ⟨A, B, h1, h2, h3, h4, hA, hB2, rfl⟩ hlt
    have HX1 := Lib.hid (HPT.out x.val)
    have HX2 := Lib.hid (HPT.out (x.val + 1))
    have HOK : Hid (okS ps x.val = decide (ctL ps x.val m = m - 2)) := by show okS ps x.val = _; unfold okS; rw [HPS.out]
    have HST : Hid (∀ j, j < m → ctL ps x.val (j + 1) = ctL ps x.val j + (if lfB ps x.val (ps.getD j (0, 0)) = true then 1 else 0)) := fun j hj => ctL_step (by omega)
    have HLF : Hid (∀ c, lfB ps x.val c = decide (0 < trn (pl ps x.val) (pl ps (x.val + 1)) c)) := fun c => rfl
    obtain ⟨X0, X1, hX⟩ : ∃ a b, pl ps x.val = (a, b) := ⟨_, _, rfl⟩
    obtain ⟨Y0, Y1, hY⟩ : ∃ a b, pl ps (x.val + 1) = (a, b) := ⟨_, _, rfl⟩
    rw [hX] at hA HX1 HLF ⊢
    rw [hY] at hB2 HX2 HLF ⊢
    clear hX hY
    have HI3 := Lib.hid hI3
    have HHA := Lib.hid hA
    have HHB := Lib.hid hB2
    have HI1 := Lib.hid hI1
    have HI2 := Lib.hid hI2
    have HBB := Lib.hid hB
    have hsz := hB.size
    have HCW : Hid (PtCells W g 0 ps) := ptCells_kept HC.out (hB.block g hg)
    have e0 := hI2.cell
    have gW : g < W.heap.size := by omega
    clear hI3 hA hB2 hI1 hI2 hB
    gi_wp2
    clear e0
    gi_loopw [5, 14] (fun t5 t14 wr => ∃ (j : Nat), t5 = .int .i64 (ctL ps x.val j : Int) ∧ t14 = .int .i64 (j : Int) ∧ j ≤ m ∧ Below W.heap.size W wr) (fun _ t14 _ => m - (intOf t14).toNat)
    case atStart => exact ⟨0, rfl, rfl, by omega, Below.refl _ _⟩
    case round =>
      obtain ⟨j, rfl, rfl, hj, hBr⟩ := hrel
      by_cases hjm : j < m
      · have hqj : (0 : Int) ≤ (j : Int) := by omega
        have hbsz := hBr.size
        have hq3 : (j : Int) < (m : Int) := by omega
        have hcl := ctL_le ps x.val j
        have hs := HST.out j hjm
        have hp := HGP.out j hjm
        have hlf := HLF.out (ps.getD j (0, 0))
        obtain ⟨p0, p1⟩ := HCW.out j (by have := HPS.out; omega)
        obtain ⟨Z0, Z1, hZ⟩ : ∃ a b, ps.getD j (0, 0) = (a, b) := ⟨_, _, rfl⟩
        rw [hZ, Nat.zero_add] at p0 p1
        rw [hZ] at hs hp hlf
        clear hZ
        have p0 := (hBr.cell (p := ⟨g, j * 2, none⟩) gW).trans p0
        have p1 := (hBr.cell (p := ⟨g, j * 2 + 1, none⟩) gW).trans p1
        have HA3 := Lib.hid (HHA.out.below hBr)
        have HB3 := Lib.hid (HHB.out.below hBr)
        have a0 := HA3.out.c0
        have a1 := HA3.out.c1
        have b0 := HB3.out.c0
        have b1 := HB3.out.c1
        have la := HA3.out.lt
        have lb := HB3.out.lt
        obtain ⟨T, hT⟩ : ∃ T, trn (X0, X1) (Y0, Y1) (Z0, Z1) = T := ⟨_, rfl⟩
        rw [hT] at hlf
        have HT : Hid (∀ w, Calls Try.prog 146 #[.agg #[.int .i64 X0, .int .i64 X1], .agg #[.int .i64 Y0, .int .i64 Y1], .agg #[.int .i64 Z0, .int .i64 Z1]] w fun e w' => e = .returned (.int .i64 T) ∧ Below w.heap.size w w') := fun w => by
          rw [← hT]; exact turnOf_any _ _ _ _ _ _ w HX1.out HX2.out hp
        clear hT hp
        by_cases hTp : 0 < T
        · have hs' : ctL ps x.val (j + 1) = ctL ps x.val j + 1 := by rw [hs, hlf, decide_eq_true hTp]; rfl
          have q2 : IntKind.i64.wrap ((ctL ps x.val j : Int) + 1) = ((ctL ps x.val (j + 1) : Nat) : Int) := by rw [IntKind.wrap_i64, hs']; omega
          clear hs hlf
          gi_wp2_with (refine ⟨trivial, ?_⟩; gi_at_call 146; refine (CallsIn.inRound l (callsIn_wide.2 (HT.out _))).mono ?_; rintro e w1 ⟨rfl, hb⟩)
          go_roundw
          case rel => exact ⟨j + 1, by congr 1; omega, by go_num, by omega, by (repeat' (first | (with_reducible exact Below.refl _ _) | (with_reducible refine Below.alloc ?_ ?_ _) | (with_reducible refine Below.setCell ?_ ?_ _) | (with_reducible refine Below.drew ?_) | (with_reducible refine below_drewN ?_ _) | (with_reducible assumption) | (with_reducible refine below_after (by with_reducible assumption) ?_) | go_size))⟩
          case measure => simp only [intOf]; omega
        · have hs' : ctL ps x.val (j + 1) = ctL ps x.val j := by rw [hs, hlf, decide_eq_false hTp]; rfl
          clear hs hlf
          gi_wp2_with (refine ⟨trivial, ?_⟩; gi_at_call 146; refine (CallsIn.inRound l (callsIn_wide.2 (HT.out _))).mono ?_; rintro e w1 ⟨rfl, hb⟩)
          go_roundw
          case rel => exact ⟨j + 1, by rw [hs'], by go_num, by omega, by (repeat' (first | (with_reducible exact Below.refl _ _) | (with_reducible refine Below.alloc ?_ ?_ _) | (with_reducible refine Below.setCell ?_ ?_ _) | (with_reducible refine Below.drew ?_) | (with_reducible refine below_drewN ?_ _) | (with_reducible assumption) | (with_reducible refine below_after (by with_reducible assumption) ?_) | go_size))⟩
          case measure => simp only [intOf]; omega
      · obtain rfl : j = m := by omega
        have q1 : ¬ (j : Int) < (j : Int) := by omega
        have hcl := ctL_le ps x.val j
        have hbsz := hBr.size
        have HI13 := Lib.hid (boxed_below HI1.out hBr)
        have e0 := (boxed_below HI2.out hBr).cell
        have e1 := HI13.out.cell
        have e2 := HI13.out.frozen
        have qs : IntKind.i64.wrap ((j : Int) - 2) = (j : Int) - 2 := by rw [IntKind.wrap_i64]; omega
        by_cases hq : ctL ps x.val j = j - 2
        · have hb : ((ctL ps x.val j : Int) != (j : Int) - 2) = false := by
            have : (ctL ps x.val j : Int) = (j : Int) - 2 := by omega
            rw [this]; simp
          have hok : okS ps x.val = true := by rw [HOK.out]; simp [hq]
          gi_wp2
          refine ⟨(keepsOthers_of_below hBr).from _, ⟨hBr.block _ (by omega), hBr.block _ (by omega)⟩, ⟨HI13.out, boxed_below HI2.out hBr, ?_⟩, HBB.out.trans (hBr.mono hsz), Nat.le_trans hz hbsz⟩
          intro y hy
          rcases List.mem_append.1 hy with hy | hy
          · exact HI3.out y hy
          · simp at hy; subst hy; exact hok
        · have hb : ((ctL ps x.val j : Int) != (j : Int) - 2) = true := by
            have : (ctL ps x.val j : Int) ≠ (j : Int) - 2 := by omega
            simpa using this
          have hok : okS ps x.val = false := by rw [HOK.out]; simp [hq]
          gi_wp2
          refine ⟨((keepsOthers_of_below hBr).trans (KeepsOthers.setCell wr ⟨w.heap.size + 1, 0, none⟩ (.bool false))).from _, ⟨rfl, HI13.out.set _, x, hok⟩, (HBB.out.trans (hBr.mono hsz)).setCell (p := ⟨w.heap.size + 1, 0, none⟩) (by simp) _, ?_⟩
          simpa using Nat.le_trans hz hbsz
  case done =>
    rintro D ys W hD hy ⟨⟨hI1, hI2, hI3⟩, hB, hz⟩ hK
    have hR : cvB ps = true := by
      unfold cvB
      rw [HPS.out, ← hy, List.all_eq_true]
      intro k hk
      obtain ⟨y, hy, rfl⟩ := List.mem_map.1 hk
      exact hI3 y hy
    have HI := Lib.hid hI1
    have f0 := hI1.frozen
    have f1 := hI1.cell
    gi_wp2
    have hK1 := (KeepsOthers.setCell W ⟨w.heap.size + 1, 0, none⟩ (.bool true)).same D _ hK rfl
    refine ⟨by simp, .inl ⟨_, _, rfl, run_takeDeferred hK1, ?_⟩⟩
    have e0 : (W.setCell ⟨w.heap.size + 1, 0, none⟩ (.bool true)).cell? ⟨w.heap.size + 1, 0, none⟩ = some (.bool true) := by go_cell
    have g0 := cell_kept e0 (grownBy_putObj' _ D (.deferred none)) (fun r e => by cases e; exact ⟨_, hK1, rfl⟩)
    refine ⟨.bool true, ?_, by rw [hR], (hB.setCell (p := ⟨w.heap.size + 1, 0, none⟩) (by simp) _).trans (belowK_b (w := w) (Nat.le_refl _) _ D _ _ (by simp at hD; omega) hK1 rfl rfl)⟩
    simp [results, Try.f135, go_sem, g0]
  case stop =>
    rintro D c pre W hD _ ⟨⟨rfl, hI1, x, hx⟩, hB, hz⟩ hK
    have hR : cvB ps = false := by
      unfold cvB
      rw [HPS.out, List.all_eq_false]
      exact ⟨x.val, List.mem_range.2 x.isLt, by rw [hx]; simp⟩
    gi_wp2
    refine ⟨by simp, .inl ⟨_, _, rfl, run_takeDeferred hK, ?_⟩⟩
    have g0 := cell_kept hI1.cell (grownBy_putObj' _ D (.deferred none)) (fun r e => by cases e; exact ⟨_, hK, rfl⟩)
    refine ⟨.bool false, ?_, by rw [hR], hB.trans (belowK_b (w := w) (Nat.le_refl _) _ D _ _ (by simp at hD; omega) hK rfl rfl)⟩
    simp [results, Try.f135, go_sem, g0]
end Go.Proofs.Ytmjhejmkmdgikaa
