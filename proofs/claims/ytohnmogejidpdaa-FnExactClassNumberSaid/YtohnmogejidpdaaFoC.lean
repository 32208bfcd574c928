/-
  The first reduced form and the cycle of a form, in the program and in the model (own work).
-/
import Derived.Test.YtohnmogejidpdaaFoL
import Derived.Deep.Cut
import Derived.Deep.RegionWith
namespace Go.Proofs.Ytohnmogejidpdaa
open Go.ChangeShapes Go.WideShapes Go.ChangeAt Go.RowKit
set_option linter.unusedVariables false
set_option linter.unusedSimpArgs false
set_option maxRecDepth 100000

/-- A number that a cell holds. -/
def numAt (w : World) (g j : Nat) : Int := match w.cell? ⟨g, j, none⟩ with
  | some (.int _ n) => n
  | _ => 0
theorem Bk3.num {w : World} {g : Nat} {a b c : Int} (h : Bk3 w g a b c) : numAt w g 0 = a ∧ numAt w g 1 = b ∧ numAt w g 2 = c := by
  unfold numAt
  rw [h.1.1, h.1.2.1, h.1.2.2]
  exact ⟨rfl, rfl, rfl⟩
theorem isReduced_fm (y : Tr) (w : World) (h : fmT y = true) : Calls Try.prog 77 #[.agg #[.int .i64 y.1, .int .i64 y.2.1, .int .i64 y.2.2]] w fun e w' => e = .returned (.bool (rdT y)) ∧ Below w.heap.size w w' := by
  obtain ⟨ha, hb, hc⟩ := fm_bc h
  obtain ⟨d1, d2, _⟩ := isD_parts (fmT_d h)
  exact isReduced_any y.1 y.2.1 y.2.2 w ha hb hc d1 d2
theorem nextForm_fm (y : Tr) (w : World) (h : fmT y = true) : Calls Try.prog 79 #[.agg #[.int .i64 y.1, .int .i64 y.2.1, .int .i64 y.2.2]] w fun e w' => e = .returned (.agg #[.int .i64 (nxT y).1, .int .i64 (nxT y).2.1, .int .i64 (nxT y).2.2]) ∧ Below w.heap.size w w' := nextForm_any y.1 y.2.1 y.2.2 w h
theorem l06Next_fm (y : Tr) (w : World) (h : fmT y = true) : Calls Try.prog 78 #[.agg #[.int .i64 y.1, .int .i64 y.2.1, .int .i64 y.2.2], .int .i64 (dT y), .int .i64 (rtB (dT y))] w fun e w' => e = .returned (.agg #[.int .i64 (nxT y).1, .int .i64 (nxT y).2.1, .int .i64 (nxT y).2.2]) ∧ Below w.heap.size w w' := l06Next_any y.1 y.2.1 y.2.2 w h
theorem l06Reduced_fm (y : Tr) (w : World) (h : fmT y = true) : Calls Try.prog 75 #[.agg #[.int .i64 y.1, .int .i64 y.2.1, .int .i64 y.2.2], .int .i64 (rtB (dT y))] w fun e w' => e = .returned (.bool (rdT y)) ∧ Below w.heap.size w w' := by
  obtain ⟨ha, hb, hc⟩ := fm_bc h
  obtain ⟨d1, d2, _⟩ := isD_parts (fmT_d h)
  have := rtB_ok d1 d2
  exact l06Reduced_any y.1 y.2.1 y.2.2 _ w ha hb this.1 (Int.le_trans this.2.1 (by decide))
set_option maxHeartbeats 1600000 in
theorem firstReduced_any (a b c : Int) (w : World) (h : fmT (a, b, c) = true) :
    Calls Try.prog 82 #[.agg #[.int .i64 a, .int .i64 b, .int .i64 c]] w fun e w' => e = .returned (aggT (frT (a, b, c))) ∧ Below w.heap.size w w' := by
  obtain ⟨R, hR⟩ : ∃ R, frT (a, b, c) = R := ⟨_, rfl⟩
  rw [hR]
  have HR := Lib.hid hR
  have H0 := Lib.hid h
  clear hR h
  have hs20 : w.heap.size < w.heap.size + 1 + 1 := (by omega)
  go_enter Try.func82, Try.ntmps82
  go_wp2_with fail
  go_loopw [] (fun wr => ∃ y : Tr, fmT y = true ∧ frT y = R ∧ Bk3 wr w.heap.size y.1 y.2.1 y.2.2 ∧ Bk3 wr (w.heap.size + 1) 0 0 0 ∧ Below w.heap.size w wr) (fun wr => msT (numAt wr w.heap.size 0, numAt wr w.heap.size 1, numAt wr w.heap.size 2))
  case atStart =>
    refine ⟨(a, b, c), H0.out, HR.out, ?_, ?_, by (repeat' (first | (with_reducible exact Below.refl _ _) | (with_reducible refine Below.alloc ?_ ?_ _) | (with_reducible refine Below.setCell ?_ ?_ _) | (with_reducible refine Below.drew ?_) | (with_reducible refine below_drewN ?_ _) | (with_reducible assumption) | (with_reducible refine below_after (by with_reducible assumption) ?_) | go_size))⟩
    · exact (bk3_new w a b c _).below ((Below.refl _ _).alloc (Nat.le_refl _) _)
    · have := bk3_new (w.alloc (.cells #[.int .i64 a, .int .i64 b, .int .i64 c] 43)) 0 0 0 43
      rwa [World.size_alloc] at this
  case round =>
    obtain ⟨y, hf, hr, hP, hR2, hbel⟩ := hrel
    have HF := Lib.hid hf
    have HE := Lib.hid hr
    have HP := Lib.hid hP
    have HQ := Lib.hid hR2
    have HB := Lib.hid hbel
    have e1 := HP.out.num
    obtain ⟨n0, n1, n2⟩ := e1
    have HM : Hid (msT (numAt wr w.heap.size 0, numAt wr w.heap.size 1, numAt wr w.heap.size 2) = msT y) := by
      show msT _ = _
      rw [n0, n1, n2]
    clear hf hr hP hR2 hbel n0 n1 n2
    cases hrd : rdT y
    · have HC : Hid (∀ w, Calls Try.prog 77 #[.agg #[.int .i64 y.1, .int .i64 y.2.1, .int .i64 y.2.2]] w fun e w' => e = .returned (.bool false) ∧ Below w.heap.size w w') := fun w => by
        have := isReduced_fm y w HF.out
        rwa [hrd] at this
      have HN : Hid (∀ w, Calls Try.prog 79 #[.agg #[.int .i64 y.1, .int .i64 y.2.1, .int .i64 y.2.2]] w fun e w' => e = .returned (.agg #[.int .i64 (nxT y).1, .int .i64 (nxT y).2.1, .int .i64 (nxT y).2.2]) ∧ Below w.heap.size w w') := fun w => nextForm_fm y w HF.out
      have HY : Hid (fmT (nxT y) = true ∧ frT (nxT y) = R ∧ msT (nxT y) < msT y) := ⟨nxT_fm HF.out, (frT_nx (fmT_d HF.out) hrd).trans HE.out, msT_nx (fmT_d HF.out) hrd⟩
      generalize nxT y = z at *
      obtain ⟨z0, z1, z2⟩ := z
      obtain ⟨y0, y1, y2⟩ := y
      dsimp only at HC HN HP
      clear hrd
      obtain ⟨⟨c0, c1, c2⟩, ⟨f0, f1, f2⟩, gz⟩ := HP.out
      go_wp2_with fail
      go_at_call 77
      refine (HC.out _).mono ?_
      rintro e wn ⟨rfl, hb⟩
      clear c0 c1 c2 f0 f1 f2 gz
      have HP := Lib.hid (HP.out.below hb)
      have HQ := Lib.hid (HQ.out.below hb)
      have HB := Lib.hid (below_after hb HB.out)
      clear hb
      obtain ⟨⟨c0, c1, c2⟩, ⟨f0, f1, f2⟩, gz⟩ := HP.out
      go_wp2_with fail
      go_at_call 79
      refine (HN.out _).mono ?_
      rintro e wm ⟨rfl, hb⟩
      clear c0 c1 c2 f0 f1 f2 gz
      have HP := Lib.hid (HP.out.below hb)
      have HQ := Lib.hid (HQ.out.below hb)
      have HB := Lib.hid (below_after hb HB.out)
      clear hb
      obtain ⟨⟨c0, c1, c2⟩, ⟨f0, f1, f2⟩, gz⟩ := HP.out
      go_wp2_with fail
      have HP2 := Lib.hid (((HP.out.set0 z0).set1 z1).set2 z2)
      have HQ2 := Lib.hid (((HQ.out.far ⟨w.heap.size, 0, none⟩ (.int .i64 z0) (by simp)).far ⟨w.heap.size, 1, none⟩ (.int .i64 z1) (by simp)).far ⟨w.heap.size, 2, none⟩ (.int .i64 z2) (by simp))
      have HB2 := Lib.hid (Below.setCell (Below.setCell (Below.setCell HB.out (p := ⟨w.heap.size, 0, none⟩) (Nat.le_refl _) (.int .i64 z0)) (p := ⟨w.heap.size, 1, none⟩) (Nat.le_refl _) (.int .i64 z1)) (p := ⟨w.heap.size, 2, none⟩) (Nat.le_refl _) (.int .i64 z2))
      clear c0 c1 c2 f0 f1 f2 gz
      go_roundw
      case rel => exact ⟨(z0, z1, z2), HY.out.1, HY.out.2.1, HP2.out, HQ2.out, HB2.out⟩
      case measure =>
        have := HP2.out.num
        rw [this.1, this.2.1, this.2.2, HM.out]
        exact HY.out.2.2
    · have HC : Hid (∀ w, Calls Try.prog 77 #[.agg #[.int .i64 y.1, .int .i64 y.2.1, .int .i64 y.2.2]] w fun e w' => e = .returned (.bool true) ∧ Below w.heap.size w w') := fun w => by
        have := isReduced_fm y w HF.out
        rwa [hrd] at this
      have HY : Hid (R = y) := HE.out.symm.trans (frT_rd hrd)
      obtain ⟨y0, y1, y2⟩ := y
      dsimp only at HC HP
      clear hrd
      obtain ⟨⟨c0, c1, c2⟩, ⟨f0, f1, f2⟩, gz⟩ := HP.out
      go_wp2_with fail
      go_at_call 77
      refine (HC.out _).mono ?_
      rintro e wn ⟨rfl, hb⟩
      clear c0 c1 c2 f0 f1 f2 gz
      have HP := Lib.hid (HP.out.below hb)
      have HQ := Lib.hid (HQ.out.below hb)
      have HB := Lib.hid (below_after hb HB.out)
      clear hb
      obtain ⟨⟨c0, c1, c2⟩, ⟨f0, f1, f2⟩, gz⟩ := HP.out
      obtain ⟨⟨d0, d1, d2⟩, ⟨k0, k1, k2⟩, dz⟩ := HQ.out
      go_wp2_with fail
      refine bodyPost_ret (v := .agg #[.int .i64 y0, .int .i64 y1, .int .i64 y2]) (by simp (maxDischargeDepth := 8) [results, Try.results82, go_sem, *]) rfl ?_
      have hb := HB.out
      exact ⟨by rw [HY.out]; rfl, by (repeat' (first | (with_reducible exact Below.refl _ _) | (with_reducible refine Below.alloc ?_ ?_ _) | (with_reducible refine Below.setCell ?_ ?_ _) | (with_reducible refine Below.drew ?_) | (with_reducible refine below_drewN ?_ _) | (with_reducible assumption) | (with_reducible refine below_after (by with_reducible assumption) ?_) | go_size))⟩
/-- A list of one form that has just been laid. -/
theorem own_one (w : World) (B : Nat) (a b c : Int) (hb : B ≤ w.heap.size) : OwnT B (w.alloc (.cells #[.int .i64 a, .int .i64 b, .int .i64 c] 43)) (.slice (some ⟨w.heap.size, 0, none⟩) 1 1) [(a, b, c)] :=
  ⟨by simp [flT], .inr ⟨w.heap.size, 1, _, rfl, hb, heap_alloc_new w _, Nat.le_refl _, by decide, rfl, by simp [flT]⟩⟩
def lenV (v : Value) : Nat := match v with
  | .slice _ n _ => n
  | _ => 0
/-- The first forms of a cycle. -/
def itL (x : Tr) (i : Nat) : List Tr := (List.range i).map (fun k => itT k x)
theorem itL_len (x : Tr) (i : Nat) : (itL x i).length = i := by simp [itL]
theorem itL_succ (x : Tr) (i : Nat) : itL x (i + 1) = itL x i ++ [itT i x] := by simp [itL, List.range_succ]
theorem beq_tr (x y : Tr) : ((x.1 == y.1) && (x.2.1 == y.2.1) && (x.2.2 == y.2.2)) = decide (x = y) := by
  obtain ⟨a, b, c⟩ := x
  obtain ⟨d, e, f⟩ := y
  rw [Bool.eq_iff_iff]
  simp [and_assoc]
theorem OwnT.up {B B' : Nat} {w : World} {v : Value} {l : List Tr} (h : OwnT B w v l) (hb : B' ≤ B) : OwnT B' w v l := by
  refine ⟨h.1, ?_⟩
  rcases h.2 with h' | ⟨g, cap, cur, h1, h2, h3⟩
  · exact .inl h'
  · exact .inr ⟨g, cap, cur, h1, by omega, h3⟩
set_option maxHeartbeats 3200000 in
theorem cycleFrom_any (a b c : Int) (w : World) (h : fmT (a, b, c) = true) (hr : rdT (a, b, c) = true) :
    Calls Try.prog 81 #[.agg #[.int .i64 a, .int .i64 b, .int .i64 c]] w fun e w' => ∃ v, e = .returned v ∧ OwnT w.heap.size w' v (cyT (a, b, c)) ∧ Below w.heap.size w w' := by
  obtain ⟨p, hp1, hp2, hp3, hp4⟩ := per_ex (a, b, c) h hr
  have hcy : cyT (a, b, c) = itL (a, b, c) p := cyT_of hp1 hp2 hp3 hp4
  rw [hcy]
  have HN : Hid (∀ (i : Nat) w, Calls Try.prog 79 #[.agg #[.int .i64 (itT i (a, b, c)).1, .int .i64 (itT i (a, b, c)).2.1, .int .i64 (itT i (a, b, c)).2.2]] w fun e w' => e = .returned (.agg #[.int .i64 (itT (i + 1) (a, b, c)).1, .int .i64 (itT (i + 1) (a, b, c)).2.1, .int .i64 (itT (i + 1) (a, b, c)).2.2]) ∧ Below w.heap.size w w') := fun i w => nextForm_fm (itT i (a, b, c)) w (itT_ok _ h hr i).1
  have HP : Hid (1 ≤ p ∧ p ≤ 8192 ∧ itT p (a, b, c) = (a, b, c) ∧ ∀ j, 1 ≤ j → j < p → itT j (a, b, c) ≠ (a, b, c)) := ⟨hp1, hp2, hp3, hp4⟩
  clear hp1 hp2 hp3 hp4 hcy h hr
  obtain ⟨G, hG⟩ : ∃ G, w.heap.size = G := ⟨_, rfl⟩
  have HG := Lib.hid hG
  have hs20 : w.heap.size < w.heap.size + 1 + 1 := (by omega)
  go_enter Try.func81, Try.ntmps81
  go_upto_region 2 with fail
  obtain ⟨wB, hwB⟩ : ∃ wB, wB = (w.alloc (.cells #[.int .i64 a, .int .i64 b, .int .i64 c] 43)).alloc (.cells #[.int .i64 a, .int .i64 b, .int .i64 c] 43) := ⟨_, rfl⟩
  rw [← hwB]
  have HX : Hid (Bk3 wB G a b c) := by rw [hwB, ← hG]; exact (bk3_new w a b c _).below ((Below.refl _ _).alloc (Nat.le_refl _) _)
  have HL : Hid (OwnT (G + 1) wB (.slice (some ⟨G + 1, 0, none⟩) 1 1) (itL (a, b, c) 1)) := by
    have := own_one (w.alloc (.cells #[.int .i64 a, .int .i64 b, .int .i64 c] 43)) (w.heap.size + 1) a b c (by simp)
    rw [World.size_alloc, hG] at this
    rw [hwB]; exact this
  have HB : Hid (Below w.heap.size w wB) := by show Below w.heap.size w wB; rw [hwB]; (repeat' (first | (with_reducible exact Below.refl _ _) | (with_reducible refine Below.alloc ?_ ?_ _) | (with_reducible refine Below.setCell ?_ ?_ _) | (with_reducible refine Below.drew ?_) | (with_reducible refine below_drewN ?_ _) | (with_reducible assumption) | (with_reducible refine below_after (by with_reducible assumption) ?_) | go_size))
  have HZ : Hid (wB.heap.size = G + 1 + 1) := by show _ = _; rw [hwB, ← hG]; simp
  clear hwB hs20
  obtain ⟨⟨z0, z1, z2⟩, hz⟩ : ∃ z, itT 1 (a, b, c) = z := ⟨_, rfl⟩
  have HI := Lib.hid hz
  have HN0 : Hid (∀ w, Calls Try.prog 79 #[.agg #[.int .i64 a, .int .i64 b, .int .i64 c]] w fun e w' => e = .returned (.agg #[.int .i64 z0, .int .i64 z1, .int .i64 z2]) ∧ Below w.heap.size w w') := fun w => by
    have := HN.out 0 w
    rwa [show itT (0 + 1) (a, b, c) = (z0, z1, z2) from hz] at this
  clear hz
  obtain ⟨⟨c0, c1, c2⟩, ⟨f0, f1, f2⟩, gz⟩ := HX.out
  go_wp2_with fail
  go_at_call 79
  refine (HN0.out _).mono ?_
  rintro e wn ⟨rfl, hb⟩
  clear c0 c1 c2 f0 f1 f2 gz
  have HX := Lib.hid (HX.out.below hb)
  have HL := Lib.hid (HL.out.below hb)
  have HB := Lib.hid (below_after hb HB.out)
  have HZ : Hid (G + 1 + 1 ≤ wn.heap.size) := by have := hb.size; have := HZ.out; show _ ≤ _; omega
  clear hb
  go_wp2_with fail
  obtain ⟨wE, hwE⟩ : ∃ wE, wE = wn.alloc (.cells #[.int .i64 z0, .int .i64 z1, .int .i64 z2] 43) := ⟨_, rfl⟩
  rw [← hwE]
  obtain ⟨gy, hgy⟩ : ∃ g, wn.heap.size = g := ⟨_, rfl⟩
  rw [hgy]
  have HY : Hid (Bk3 wE gy z0 z1 z2) := by rw [hwE, ← hgy]; exact bk3_new wn _ _ _ _
  have HX := Lib.hid (HX.out.below ((Below.refl _ _).alloc (Nat.le_refl _) (.cells #[.int .i64 z0, .int .i64 z1, .int .i64 z2] 43)))
  have HL := Lib.hid (HL.out.below ((Below.refl _ _).alloc (Nat.le_refl _) (.cells #[.int .i64 z0, .int .i64 z1, .int .i64 z2] 43)))
  have HB := Lib.hid (Below.alloc HB.out HB.out.size (.cells #[.int .i64 z0, .int .i64 z1, .int .i64 z2] 43))
  rw [← hwE] at HX HL HB
  have HK : Hid (G + 1 < gy) := by have := HZ.out; show _ < _; omega
  clear hwE hgy HZ
  go_loopw [3, 4] (fun v y wr => ∃ (i n : Nat) (va : Option Addr) (vc gy : Nat) (z : Tr), v = .slice va n vc ∧ y = .pointer (some ⟨gy, 0, none⟩) ∧ n = i + 1 ∧ i + 1 ≤ p ∧ z = itT (i + 1) (a, b, c) ∧ OwnT (G + 1) wr (.slice va n vc) (itL (a, b, c) (i + 1)) ∧ Bk3 wr gy z.1 z.2.1 z.2.2 ∧ Bk3 wr G a b c ∧ (∀ k, (Value.slice va n vc).ownBlock = some k → k < gy) ∧ G < gy ∧ Below w.heap.size w wr) (fun v _ _ => p - lenV v)
  case atStart => exact ⟨0, 1, _, _, gy, (z0, z1, z2), rfl, rfl, rfl, HP.out.1, HI.out.symm, HL.out, HY.out, HX.out, fun k hk => by simp [Value.ownBlock] at hk; have := HK.out; omega, by have := HK.out; omega, HB.out⟩
  case round =>
    obtain ⟨i, n, va, vc, gy, ⟨z0, z1, z2⟩, rfl, rfl, hn, hi, hz, hL, hY, hX, hne, hgy, hB⟩ := hrel
    clear HX HL HB HY HK HI HN0
    have HI := Lib.hid hz
    have HL := Lib.hid hL
    have HY := Lib.hid hY
    have HX := Lib.hid hX
    have HE := Lib.hid hne
    have HB := Lib.hid hB
    have HJ : Hid (n = i + 1 ∧ i + 1 ≤ p ∧ G < gy) := ⟨hn, hi, hgy⟩
    dsimp only at HY
    clear hz hL hY hX hne hB hn hi hgy
    obtain ⟨⟨c0, c1, c2⟩, ⟨f0, f1, f2⟩, gz⟩ := HX.out
    obtain ⟨⟨d0, d1, d2⟩, ⟨k0, k1, k2⟩, dz⟩ := HY.out
    have he := eq_fo z0 z1 z2 a b c
    rw [beq_tr (z0, z1, z2) (a, b, c)] at he
    by_cases hip : i + 1 = p
    · have hzx : (z0, z1, z2) = (a, b, c) := by rw [HI.out, hip]; exact HP.out.2.2.1
      rw [decide_eq_true hzx] at he
      have HF : Hid (itL (a, b, c) (i + 1) = itL (a, b, c) p) := by show _ = _; rw [hip]
      clear hzx hip
      go_wp2_with fail
      refine bodyPost_ret (v := .slice va n vc) (by simp (maxDischargeDepth := 8) [results, Try.results81, go_sem, *]) rfl ?_
      exact ⟨_, rfl, by rw [← HF.out, HG.out]; exact HL.out.up (by omega), HB.out⟩
    · have hzx : ¬ (z0, z1, z2) = (a, b, c) := by rw [HI.out]; exact HP.out.2.2.2 (i + 1) (by omega) (by have := HJ.out; omega)
      rw [decide_eq_false hzx] at he
      have HV : Hid (i + 1 < p) := by have := HJ.out; show _ < _; omega
      clear hzx hip
      have HLq := Lib.hid (HL.out.below ((Below.refl _ _).alloc (Nat.le_refl _) (.cells #[.int .i64 z0, .int .i64 z1, .int .i64 z2] 43)))
      have HXq := Lib.hid (HX.out.below ((Below.refl _ _).alloc (Nat.le_refl _) (.cells #[.int .i64 z0, .int .i64 z1, .int .i64 z2] 43)))
      have HYq := Lib.hid (HY.out.below ((Below.refl _ _).alloc (Nat.le_refl _) (.cells #[.int .i64 z0, .int .i64 z1, .int .i64 z2] 43)))
      have HBq := Lib.hid (Below.alloc HB.out HB.out.size (.cells #[.int .i64 z0, .int .i64 z1, .int .i64 z2] 43))
      have hGB : G + 1 ≤ (wr.alloc (.cells #[.int .i64 z0, .int .i64 z1, .int .i64 z2] 43)).heap.size := by rw [World.size_alloc]; omega
      have HGB := Lib.hid hGB
      clear hGB
      go_wp2_with (at_builtin; refine wpList_app_T1 (B := G + 1) rfl _ _ rfl HLq.out (a0 := z0) (a1 := z1) (a2 := z2) ?c0 ?c1 ?c2 HGB.out rfl rfl (by rw [itL_len]; have := HP.out.2.1; have := HJ.out.2.1; omega) ?_)
      case c0 => go_cell
      case c1 => go_cell
      case c2 => go_cell
      intro v' w' ho hgrow
      have hl2 : (itL (a, b, c) (i + 1) ++ [(z0, z1, z2)]).length = n + 1 := by rw [List.length_append, itL_len, HJ.out.1]; rfl
      have hl3 : itL (a, b, c) (i + 1) ++ [(z0, z1, z2)] = itL (a, b, c) (i + 1 + 1) := by rw [itL_succ (a, b, c) (i + 1), HI.out]
      obtain ⟨va', vc', rfl⟩ := viewT ho
      rw [hl2] at ho ⊢
      rw [hl3] at ho
      have HL2 := Lib.hid ho
      have hno : ∀ k, (Value.slice va n vc).ownBlock = some k → k ≠ gy := fun k hk => by have := HE.out k hk; omega
      have HY2 := Lib.hid (HYq.out.grown hgrow (fun e => hno gy e rfl))
      have hno2 : ∀ k, (Value.slice va n vc).ownBlock = some k → G + 1 ≤ k := fun k hk => (World.ownsRow.lt HL.out k hk).1
      have HX2 := Lib.hid (HXq.out.grown hgrow (fun e => by have := hno2 G e; omega))
      have HB2 := Lib.hid (Below.grown HBq.out hgrow HBq.out.size (fun k hk => by have := hno2 k hk; have := HG.out; omega))
      clear ho hgrow hno hno2 hl2 hl3 HLq HXq HYq HBq HGB c0 c1 c2 f0 f1 f2 gz d0 d1 d2 k0 k1 k2 dz
      obtain ⟨⟨d0, d1, d2⟩, ⟨k0, k1, k2⟩, dz⟩ := HY2.out
      go_upto_region 4 with fail
      obtain ⟨gn, hgn⟩ : ∃ g, w'.heap.size = g := ⟨_, rfl⟩
      obtain ⟨wE, hwE⟩ : ∃ wE, wE = w'.alloc (.cells #[.int .i64 z0, .int .i64 z1, .int .i64 z2] 43) := ⟨_, rfl⟩
      rw [← hwE, hgn]
      have HN2 : Hid (Bk3 wE gn z0 z1 z2) := by rw [hwE, ← hgn]; exact bk3_new w' _ _ _ _
      have HX3 := Lib.hid (HX2.out.below ((Below.refl _ _).alloc (Nat.le_refl _) (.cells #[.int .i64 z0, .int .i64 z1, .int .i64 z2] 43)))
      have HL3 := Lib.hid (HL2.out.below ((Below.refl _ _).alloc (Nat.le_refl _) (.cells #[.int .i64 z0, .int .i64 z1, .int .i64 z2] 43)))
      have HB3 := Lib.hid (Below.alloc HB2.out HB2.out.size (.cells #[.int .i64 z0, .int .i64 z1, .int .i64 z2] 43))
      rw [← hwE] at HX3 HL3 HB3
      have HK3 : Hid ((∀ k, (Value.slice va' (n + 1) vc').ownBlock = some k → k < gn) ∧ G < gn ∧ w.heap.size ≤ gn) := ⟨fun k hk => by have := (World.ownsRow.lt HL2.out k hk).2; omega, by have := HX2.out.2.2; omega, by have := HB2.out.size; omega⟩
      clear hwE hgn d0 d1 d2 k0 k1 k2 dz
      obtain ⟨⟨y0, y1, y2⟩, hy⟩ : ∃ z, itT (i + 1 + 1) (a, b, c) = z := ⟨_, rfl⟩
      have HI2 := Lib.hid hy
      have HN0 : Hid (∀ w, Calls Try.prog 79 #[.agg #[.int .i64 z0, .int .i64 z1, .int .i64 z2]] w fun e w' => e = .returned (.agg #[.int .i64 y0, .int .i64 y1, .int .i64 y2]) ∧ Below w.heap.size w w') := fun w => by
        have := HN.out (i + 1) w
        rwa [hy, ← HI.out] at this
      clear hy
      obtain ⟨⟨d0, d1, d2⟩, ⟨k0, k1, k2⟩, dz⟩ := HN2.out
      go_wp2_with fail
      go_at_call 79
      refine (HN0.out _).mono ?_
      rintro e wm ⟨rfl, hb⟩
      clear d0 d1 d2 k0 k1 k2 dz
      have HX4 := Lib.hid (HX3.out.below hb)
      have HL4 := Lib.hid (HL3.out.below hb)
      have HN4 := Lib.hid (HN2.out.below hb)
      have HB4 := Lib.hid (below_after hb HB3.out)
      clear hb
      obtain ⟨⟨d0, d1, d2⟩, ⟨k0, k1, k2⟩, dz⟩ := HN4.out
      go_wp2_with fail
      have hne4 : ∀ k, (Value.slice va' (n + 1) vc').ownBlock = some k → k ≠ gn := fun k hk => by have := HK3.out.1 k hk; omega
      have HX5 := Lib.hid (((HX4.out.far ⟨gn, 0, none⟩ (.int .i64 y0) (by have := HK3.out.2.1; show G ≠ gn; omega)).far ⟨gn, 1, none⟩ (.int .i64 y1) (by have := HK3.out.2.1; show G ≠ gn; omega)).far ⟨gn, 2, none⟩ (.int .i64 y2) (by have := HK3.out.2.1; show G ≠ gn; omega))
      have HL5 := Lib.hid (((HL4.out.far (g := gn) 0 (.int .i64 y0) hne4).far (g := gn) 1 (.int .i64 y1) hne4).far (g := gn) 2 (.int .i64 y2) hne4)
      have HN5 := Lib.hid (((HN4.out.set0 y0).set1 y1).set2 y2)
      have HB5 := Lib.hid (Below.setCell (Below.setCell (Below.setCell HB4.out (p := ⟨gn, 0, none⟩) HK3.out.2.2 (.int .i64 y0)) (p := ⟨gn, 1, none⟩) HK3.out.2.2 (.int .i64 y1)) (p := ⟨gn, 2, none⟩) HK3.out.2.2 (.int .i64 y2))
      clear d0 d1 d2 k0 k1 k2 dz hne4
      go_roundw
      case rel => exact ⟨i + 1, n + 1, va', vc', gn, (y0, y1, y2), rfl, rfl, by rw [HJ.out.1], by have := HV.out; omega, HI2.out.symm, HL5.out, HN5.out, HX5.out, HK3.out.1, HK3.out.2.1, HB5.out⟩
      case measure => simp only [lenV]; have := HJ.out.1; have := HV.out; omega
set_option maxHeartbeats 6400000 in
theorem l06Cycle_any (a0 b0 c0 : Int) (w : World) (h : fmT (a0, b0, c0) = true) :
    Calls Try.prog 80 #[.agg #[.int .i64 a0, .int .i64 b0, .int .i64 c0]] w fun e w' => ∃ v, e = .returned v ∧ OwnT w.heap.size w' v (cyT (frT (a0, b0, c0))) ∧ Below w.heap.size w w' := by
  obtain ⟨hX1, hX2, hX3⟩ := frT_facts h
  obtain ⟨⟨a, b, c⟩, hX⟩ : ∃ R, frT (a0, b0, c0) = R := ⟨_, rfl⟩
  rw [hX] at hX1 hX2 hX3 ⊢
  have HR := Lib.hid hX
  obtain ⟨p, hp1, hp2, hp3, hp4⟩ := per_ex (a, b, c) hX1 hX2
  have hcy : cyT (a, b, c) = itL (a, b, c) p := cyT_of hp1 hp2 hp3 hp4
  rw [hcy]
  obtain ⟨ba, bb, bc⟩ := fm_bc h
  obtain ⟨d1, d2, _⟩ := isD_parts (fmT_d h)
  have HD : Hid (∀ w, Calls Try.prog 74 #[.agg #[.int .i64 a0, .int .i64 b0, .int .i64 c0]] w fun e w' => e = .returned (.int .i64 (dT (a0, b0, c0))) ∧ Below w.heap.size w w') := fun w => l06Disc_any a0 b0 c0 w ba bb bc
  have HW : Hid (∀ w, Calls Try.prog 76 #[.int .i64 (dT (a0, b0, c0))] w fun e w' => e = .returned (.int .i64 (rtB (dT (a0, b0, c0)))) ∧ w = w') := fun w => by
    have := l06Root_any (dT (a0, b0, c0)) w d1 d2
    rwa [rtC_of (fmT_d h)] at this
  have HNg : Hid (∀ (y : Tr) w, fmT y = true → dT y = dT (a0, b0, c0) → Calls Try.prog 78 #[.agg #[.int .i64 y.1, .int .i64 y.2.1, .int .i64 y.2.2], .int .i64 (dT (a0, b0, c0)), .int .i64 (rtB (dT (a0, b0, c0)))] w fun e w' => e = .returned (.agg #[.int .i64 (nxT y).1, .int .i64 (nxT y).2.1, .int .i64 (nxT y).2.2]) ∧ Below w.heap.size w w') := fun y w hy hd => by
    have := l06Next_fm y w hy
    rwa [hd] at this
  have HRg : Hid (∀ (y : Tr) w, fmT y = true → dT y = dT (a0, b0, c0) → Calls Try.prog 75 #[.agg #[.int .i64 y.1, .int .i64 y.2.1, .int .i64 y.2.2], .int .i64 (rtB (dT (a0, b0, c0)))] w fun e w' => e = .returned (.bool (rdT y)) ∧ Below w.heap.size w w') := fun y w hy hd => by
    have := l06Reduced_fm y w hy
    rwa [hd] at this
  have H0 : Hid (fmT (a0, b0, c0) = true) := h
  obtain ⟨D, hD⟩ : ∃ D, dT (a0, b0, c0) = D := ⟨_, rfl⟩
  rw [hD] at HD HW HNg HRg hX3
  obtain ⟨r, hr⟩ : ∃ r, rtB D = r := ⟨_, rfl⟩
  rw [hr] at HW HNg HRg
  have HDD := Lib.hid hD
  have HN : Hid (∀ (i : Nat) w, Calls Try.prog 78 #[.agg #[.int .i64 (itT i (a, b, c)).1, .int .i64 (itT i (a, b, c)).2.1, .int .i64 (itT i (a, b, c)).2.2], .int .i64 D, .int .i64 r] w fun e w' => e = .returned (.agg #[.int .i64 (itT (i + 1) (a, b, c)).1, .int .i64 (itT (i + 1) (a, b, c)).2.1, .int .i64 (itT (i + 1) (a, b, c)).2.2]) ∧ Below w.heap.size w w') := fun i w => HNg.out (itT i (a, b, c)) w (itT_ok _ hX1 hX2 i).1 ((itT_ok _ hX1 hX2 i).2.2.trans hX3)
  have HP : Hid (1 ≤ p ∧ p ≤ 8192 ∧ itT p (a, b, c) = (a, b, c) ∧ ∀ j, 1 ≤ j → j < p → itT j (a, b, c) ≠ (a, b, c)) := ⟨hp1, hp2, hp3, hp4⟩
  have HA : Hid (rdT (a, b, c) = true) := hX2
  clear hp1 hp2 hp3 hp4 hcy h hX hX1 hX2 hX3 ba bb bc d1 d2 hD hr
  obtain ⟨G, hG⟩ : ∃ G, w.heap.size = G := ⟨_, rfl⟩
  have HG := Lib.hid hG
  go_enter Try.func80, Try.ntmps80
  go_upto_region 1 with fail
  obtain ⟨wA, hwA⟩ : ∃ wA, wA = w.alloc (.cells #[.int .i64 a0, .int .i64 b0, .int .i64 c0] 43) := ⟨_, rfl⟩
  rw [← hwA]
  have HX : Hid (Bk3 wA G a0 b0 c0) := by rw [hwA, ← hG]; exact bk3_new w a0 b0 c0 _
  have HB : Hid (Below w.heap.size w wA) := by show Below w.heap.size w wA; rw [hwA]; (repeat' (first | (with_reducible exact Below.refl _ _) | (with_reducible refine Below.alloc ?_ ?_ _) | (with_reducible refine Below.setCell ?_ ?_ _) | (with_reducible refine Below.drew ?_) | (with_reducible refine below_drewN ?_ _) | (with_reducible assumption) | (with_reducible refine below_after (by with_reducible assumption) ?_) | go_size))
  clear hwA
  obtain ⟨⟨e0, e1, e2⟩, ⟨f0, f1, f2⟩, gz⟩ := HX.out
  go_wp2_with fail
  go_at_call 74
  refine (HD.out _).mono ?_
  rintro e wn ⟨rfl, hb⟩
  clear e0 e1 e2 f0 f1 f2 gz
  have HX := Lib.hid (HX.out.below hb)
  have HB := Lib.hid (below_after hb HB.out)
  clear hb
  obtain ⟨⟨e0, e1, e2⟩, ⟨f0, f1, f2⟩, gz⟩ := HX.out
  go_wp2_with (first | (go_at_call 76; refine (HW.out _).mono ?_; rintro e wn ⟨rfl, rfl⟩))
  clear e0 e1 e2 f0 f1 f2 gz
  go_loopw [] (fun wr => ∃ y : Tr, fmT y = true ∧ frT y = (a, b, c) ∧ dT y = D ∧ Bk3 wr G y.1 y.2.1 y.2.2 ∧ Below w.heap.size w wr) (fun wr => msT (numAt wr G 0, numAt wr G 1, numAt wr G 2))
  case atStart => exact ⟨(a0, b0, c0), H0.out, HR.out, HDD.out, HX.out, HB.out⟩
  case round =>
    obtain ⟨y, hf, hr, hd, hP, hbel⟩ := hrel
    clear HX HB
    have HF := Lib.hid hf
    have HE := Lib.hid hr
    have HDY := Lib.hid hd
    have HX := Lib.hid hP
    have HB := Lib.hid hbel
    have e1 := HX.out.num
    obtain ⟨n0, n1, n2⟩ := e1
    have HM : Hid (msT (numAt wr G 0, numAt wr G 1, numAt wr G 2) = msT y) := by
      show msT _ = _
      rw [n0, n1, n2]
    clear hf hr hd hP hbel n0 n1 n2
    cases hrd : rdT y
    · have HC : Hid (∀ w, Calls Try.prog 75 #[.agg #[.int .i64 y.1, .int .i64 y.2.1, .int .i64 y.2.2], .int .i64 r] w fun e w' => e = .returned (.bool false) ∧ Below w.heap.size w w') := fun w => by
        have := HRg.out y w HF.out HDY.out
        rwa [hrd] at this
      have HN1 : Hid (∀ w, Calls Try.prog 78 #[.agg #[.int .i64 y.1, .int .i64 y.2.1, .int .i64 y.2.2], .int .i64 D, .int .i64 r] w fun e w' => e = .returned (.agg #[.int .i64 (nxT y).1, .int .i64 (nxT y).2.1, .int .i64 (nxT y).2.2]) ∧ Below w.heap.size w w') := fun w => HNg.out y w HF.out HDY.out
      have HY : Hid (fmT (nxT y) = true ∧ frT (nxT y) = (a, b, c) ∧ dT (nxT y) = D ∧ msT (nxT y) < msT y) := ⟨nxT_fm HF.out, (frT_nx (fmT_d HF.out) hrd).trans HE.out, (nxT_d (fmT_d HF.out)).trans HDY.out, msT_nx (fmT_d HF.out) hrd⟩
      generalize nxT y = z at *
      obtain ⟨z0, z1, z2⟩ := z
      obtain ⟨y0, y1, y2⟩ := y
      dsimp only at HC HN1 HX
      clear hrd
      obtain ⟨⟨e0, e1, e2⟩, ⟨f0, f1, f2⟩, gz⟩ := HX.out
      go_wp2_with fail
      go_at_call 75
      refine (HC.out _).mono ?_
      rintro e wn ⟨rfl, hb⟩
      clear e0 e1 e2 f0 f1 f2 gz
      have HX := Lib.hid (HX.out.below hb)
      have HB := Lib.hid (below_after hb HB.out)
      clear hb
      obtain ⟨⟨e0, e1, e2⟩, ⟨f0, f1, f2⟩, gz⟩ := HX.out
      go_wp2_with fail
      go_at_call 78
      refine (HN1.out _).mono ?_
      rintro e wm ⟨rfl, hb⟩
      clear e0 e1 e2 f0 f1 f2 gz
      have HX := Lib.hid (HX.out.below hb)
      have HB := Lib.hid (below_after hb HB.out)
      clear hb
      obtain ⟨⟨e0, e1, e2⟩, ⟨f0, f1, f2⟩, gz⟩ := HX.out
      go_wp2_with fail
      have HX2 := Lib.hid (((HX.out.set0 z0).set1 z1).set2 z2)
      have HB2 := Lib.hid (Below.setCell (Below.setCell (Below.setCell HB.out (p := ⟨G, 0, none⟩) (Nat.le_of_eq HG.out) (.int .i64 z0)) (p := ⟨G, 1, none⟩) (Nat.le_of_eq HG.out) (.int .i64 z1)) (p := ⟨G, 2, none⟩) (Nat.le_of_eq HG.out) (.int .i64 z2))
      clear e0 e1 e2 f0 f1 f2 gz
      go_roundw
      case rel => exact ⟨(z0, z1, z2), HY.out.1, HY.out.2.1, HY.out.2.2.1, HX2.out, HB2.out⟩
      case measure =>
        have := HX2.out.num
        rw [this.1, this.2.1, this.2.2, HM.out]
        exact HY.out.2.2.2
    · have HC : Hid (∀ w, Calls Try.prog 75 #[.agg #[.int .i64 y.1, .int .i64 y.2.1, .int .i64 y.2.2], .int .i64 r] w fun e w' => e = .returned (.bool true) ∧ Below w.heap.size w w') := fun w => by
        have := HRg.out y w HF.out HDY.out
        rwa [hrd] at this
      obtain rfl : y = (a, b, c) := by rw [← HE.out, frT_rd hrd]
      dsimp only at HC HX
      clear hrd HE HM HDY HF
      obtain ⟨⟨e0, e1, e2⟩, ⟨f0, f1, f2⟩, gz⟩ := HX.out
      go_wp2_with fail
      go_at_call 75
      refine (HC.out _).mono ?_
      rintro e wq ⟨rfl, hb⟩
      clear e0 e1 e2 f0 f1 f2 gz
      have HX := Lib.hid (HX.out.below hb)
      have HB := Lib.hid (below_after hb HB.out)
      clear hb
      obtain ⟨⟨e0, e1, e2⟩, ⟨f0, f1, f2⟩, gz⟩ := HX.out
      go_upto_region 6 with fail
      obtain ⟨g1, hg1⟩ : ∃ g, wq.heap.size = g := ⟨_, rfl⟩
      obtain ⟨wB, hwB⟩ : ∃ wB, wB = wq.alloc (.cells #[.int .i64 a, .int .i64 b, .int .i64 c] 43) := ⟨_, rfl⟩
      rw [← hwB, hg1]
      have HL : Hid (OwnT (G + 1) wB (.slice (some ⟨g1, 0, none⟩) 1 1) (itL (a, b, c) 1)) := by
        have := own_one wq (G + 1) a b c (by omega)
        rw [hg1] at this
        rw [hwB]; exact this
      have HZ : Hid (g1 < wB.heap.size ∧ G < g1) := ⟨by rw [hwB, World.size_alloc]; omega, by omega⟩
      have HX := Lib.hid (HX.out.below ((Below.refl _ _).alloc (Nat.le_refl _) (.cells #[.int .i64 a, .int .i64 b, .int .i64 c] 43)))
      have HB := Lib.hid (Below.alloc HB.out HB.out.size (.cells #[.int .i64 a, .int .i64 b, .int .i64 c] 43))
      rw [← hwB] at HX HB
      clear hwB hg1 e0 e1 e2 f0 f1 f2 gz
      obtain ⟨⟨z0, z1, z2⟩, hz⟩ : ∃ z, itT 1 (a, b, c) = z := ⟨_, rfl⟩
      have HI := Lib.hid hz
      have HN0 : Hid (∀ w, Calls Try.prog 78 #[.agg #[.int .i64 a, .int .i64 b, .int .i64 c], .int .i64 D, .int .i64 r] w fun e w' => e = .returned (.agg #[.int .i64 z0, .int .i64 z1, .int .i64 z2]) ∧ Below w.heap.size w w') := fun w => by
        have := HN.out 0 w
        rwa [show itT (0 + 1) (a, b, c) = (z0, z1, z2) from hz] at this
      clear hz
      obtain ⟨⟨e0, e1, e2⟩, ⟨f0, f1, f2⟩, gz⟩ := HX.out
      go_wp2_with fail
      go_at_call 78
      refine (HN0.out _).mono ?_
      rintro e wn ⟨rfl, hb⟩
      clear e0 e1 e2 f0 f1 f2 gz
      have HX := Lib.hid (HX.out.below hb)
      have HL := Lib.hid (HL.out.below hb)
      have HB := Lib.hid (below_after hb HB.out)
      have HZ : Hid (g1 < wn.heap.size ∧ G < g1) := ⟨by have := hb.size; have := HZ.out.1; omega, HZ.out.2⟩
      clear hb
      go_wp2_with fail
      obtain ⟨wE, hwE⟩ : ∃ wE, wE = wn.alloc (.cells #[.int .i64 z0, .int .i64 z1, .int .i64 z2] 43) := ⟨_, rfl⟩
      rw [← hwE]
      obtain ⟨gy, hgy⟩ : ∃ g, wn.heap.size = g := ⟨_, rfl⟩
      rw [hgy]
      have HY : Hid (Bk3 wE gy z0 z1 z2) := by rw [hwE, ← hgy]; exact bk3_new wn _ _ _ _
      have HX := Lib.hid (HX.out.below ((Below.refl _ _).alloc (Nat.le_refl _) (.cells #[.int .i64 z0, .int .i64 z1, .int .i64 z2] 43)))
      have HL := Lib.hid (HL.out.below ((Below.refl _ _).alloc (Nat.le_refl _) (.cells #[.int .i64 z0, .int .i64 z1, .int .i64 z2] 43)))
      have HB := Lib.hid (Below.alloc HB.out HB.out.size (.cells #[.int .i64 z0, .int .i64 z1, .int .i64 z2] 43))
      rw [← hwE] at HX HL HB
      have HK : Hid (g1 < gy ∧ G < g1) := ⟨by have := HZ.out.1; omega, HZ.out.2⟩
      clear hwE hgy HZ
      go_loopw [5, 6] (fun v y wr => ∃ (i n : Nat) (va : Option Addr) (vc gy : Nat) (z : Tr), v = .slice va n vc ∧ y = .pointer (some ⟨gy, 0, none⟩) ∧ n = i + 1 ∧ i + 1 ≤ p ∧ z = itT (i + 1) (a, b, c) ∧ OwnT (G + 1) wr (.slice va n vc) (itL (a, b, c) (i + 1)) ∧ Bk3 wr gy z.1 z.2.1 z.2.2 ∧ Bk3 wr G a b c ∧ (∀ k, (Value.slice va n vc).ownBlock = some k → k < gy) ∧ G < gy ∧ Below w.heap.size w wr) (fun v _ _ => p - lenV v)
      case atStart => exact ⟨0, 1, _, _, gy, (z0, z1, z2), rfl, rfl, rfl, HP.out.1, HI.out.symm, HL.out, HY.out, HX.out, fun k hk => by simp [Value.ownBlock] at hk; have := HK.out; omega, by have := HK.out; omega, HB.out⟩
      case round =>
        obtain ⟨i, n, va, vc, gy, ⟨z0, z1, z2⟩, rfl, rfl, hn, hi, hz, hL, hY, hX, hne, hgy, hB⟩ := hrel
        clear HX HL HB HY HK HI HN0
        have HI := Lib.hid hz
        have HL := Lib.hid hL
        have HY := Lib.hid hY
        have HX := Lib.hid hX
        have HE := Lib.hid hne
        have HB := Lib.hid hB
        have HJ : Hid (n = i + 1 ∧ i + 1 ≤ p ∧ G < gy) := ⟨hn, hi, hgy⟩
        dsimp only at HY
        clear hz hL hY hX hne hB hn hi hgy
        obtain ⟨⟨c0, c1, c2⟩, ⟨f0, f1, f2⟩, gz⟩ := HX.out
        obtain ⟨⟨d0, d1, d2⟩, ⟨k0, k1, k2⟩, dz⟩ := HY.out
        have he := eq_fo z0 z1 z2 a b c
        rw [beq_tr (z0, z1, z2) (a, b, c)] at he
        by_cases hip : i + 1 = p
        · have hzx : (z0, z1, z2) = (a, b, c) := by rw [HI.out, hip]; exact HP.out.2.2.1
          rw [decide_eq_true hzx] at he
          have HF : Hid (itL (a, b, c) (i + 1) = itL (a, b, c) p) := by show _ = _; rw [hip]
          clear hzx hip
          go_wp2_with fail
          refine bodyPost_ret (v := .slice va n vc) (by simp (maxDischargeDepth := 8) [results, Try.results80, go_sem, *]) rfl ?_
          exact ⟨_, rfl, by rw [← HF.out, HG.out]; exact HL.out.up (by omega), HB.out⟩
        · have hzx : ¬ (z0, z1, z2) = (a, b, c) := by rw [HI.out]; exact HP.out.2.2.2 (i + 1) (by omega) (by have := HJ.out; omega)
          rw [decide_eq_false hzx] at he
          have HV : Hid (i + 1 < p) := by have := HJ.out; show _ < _; omega
          clear hzx hip
          have HLq := Lib.hid (HL.out.below ((Below.refl _ _).alloc (Nat.le_refl _) (.cells #[.int .i64 z0, .int .i64 z1, .int .i64 z2] 43)))
          have HXq := Lib.hid (HX.out.below ((Below.refl _ _).alloc (Nat.le_refl _) (.cells #[.int .i64 z0, .int .i64 z1, .int .i64 z2] 43)))
          have HYq := Lib.hid (HY.out.below ((Below.refl _ _).alloc (Nat.le_refl _) (.cells #[.int .i64 z0, .int .i64 z1, .int .i64 z2] 43)))
          have HBq := Lib.hid (Below.alloc HB.out HB.out.size (.cells #[.int .i64 z0, .int .i64 z1, .int .i64 z2] 43))
          have hGB : G + 1 ≤ (wr.alloc (.cells #[.int .i64 z0, .int .i64 z1, .int .i64 z2] 43)).heap.size := by rw [World.size_alloc]; omega
          have HGB := Lib.hid hGB
          clear hGB
          go_wp2_with (at_builtin; refine wpList_app_T1 (B := G + 1) rfl _ _ rfl HLq.out (a0 := z0) (a1 := z1) (a2 := z2) ?c0 ?c1 ?c2 HGB.out rfl rfl (by rw [itL_len]; have := HP.out.2.1; have := HJ.out.2.1; omega) ?_)
          case c0 => go_cell
          case c1 => go_cell
          case c2 => go_cell
          intro v' w' ho hgrow
          have hl2 : (itL (a, b, c) (i + 1) ++ [(z0, z1, z2)]).length = n + 1 := by rw [List.length_append, itL_len, HJ.out.1]; rfl
          have hl3 : itL (a, b, c) (i + 1) ++ [(z0, z1, z2)] = itL (a, b, c) (i + 1 + 1) := by rw [itL_succ (a, b, c) (i + 1), HI.out]
          obtain ⟨va', vc', rfl⟩ := viewT ho
          rw [hl2] at ho ⊢
          rw [hl3] at ho
          have HL2 := Lib.hid ho
          have hno : ∀ k, (Value.slice va n vc).ownBlock = some k → k ≠ gy := fun k hk => by have := HE.out k hk; omega
          have HY2 := Lib.hid (HYq.out.grown hgrow (fun e => hno gy e rfl))
          have hno2 : ∀ k, (Value.slice va n vc).ownBlock = some k → G + 1 ≤ k := fun k hk => (World.ownsRow.lt HL.out k hk).1
          have HX2 := Lib.hid (HXq.out.grown hgrow (fun e => by have := hno2 G e; omega))
          have HB2 := Lib.hid (Below.grown HBq.out hgrow HBq.out.size (fun k hk => by have := hno2 k hk; have := HG.out; omega))
          clear ho hgrow hno hno2 hl2 hl3 HLq HXq HYq HBq HGB c0 c1 c2 f0 f1 f2 gz d0 d1 d2 k0 k1 k2 dz
          obtain ⟨⟨d0, d1, d2⟩, ⟨k0, k1, k2⟩, dz⟩ := HY2.out
          go_upto_region 8 with fail
          obtain ⟨gn, hgn⟩ : ∃ g, w'.heap.size = g := ⟨_, rfl⟩
          obtain ⟨wE, hwE⟩ : ∃ wE, wE = w'.alloc (.cells #[.int .i64 z0, .int .i64 z1, .int .i64 z2] 43) := ⟨_, rfl⟩
          rw [← hwE, hgn]
          have HN2 : Hid (Bk3 wE gn z0 z1 z2) := by rw [hwE, ← hgn]; exact bk3_new w' _ _ _ _
          have HX3 := Lib.hid (HX2.out.below ((Below.refl _ _).alloc (Nat.le_refl _) (.cells #[.int .i64 z0, .int .i64 z1, .int .i64 z2] 43)))
          have HL3 := Lib.hid (HL2.out.below ((Below.refl _ _).alloc (Nat.le_refl _) (.cells #[.int .i64 z0, .int .i64 z1, .int .i64 z2] 43)))
          have HB3 := Lib.hid (Below.alloc HB2.out HB2.out.size (.cells #[.int .i64 z0, .int .i64 z1, .int .i64 z2] 43))
          rw [← hwE] at HX3 HL3 HB3
          have HK3 : Hid ((∀ k, (Value.slice va' (n + 1) vc').ownBlock = some k → k < gn) ∧ G < gn ∧ w.heap.size ≤ gn) := ⟨fun k hk => by have := (World.ownsRow.lt HL2.out k hk).2; omega, by have := HX2.out.2.2; omega, by have := HB2.out.size; omega⟩
          clear hwE hgn d0 d1 d2 k0 k1 k2 dz
          obtain ⟨⟨y0, y1, y2⟩, hy⟩ : ∃ z, itT (i + 1 + 1) (a, b, c) = z := ⟨_, rfl⟩
          have HI2 := Lib.hid hy
          have HN0 : Hid (∀ w, Calls Try.prog 78 #[.agg #[.int .i64 z0, .int .i64 z1, .int .i64 z2], .int .i64 D, .int .i64 r] w fun e w' => e = .returned (.agg #[.int .i64 y0, .int .i64 y1, .int .i64 y2]) ∧ Below w.heap.size w w') := fun w => by
            have := HN.out (i + 1) w
            rwa [hy, ← HI.out] at this
          clear hy
          obtain ⟨⟨d0, d1, d2⟩, ⟨k0, k1, k2⟩, dz⟩ := HN2.out
          go_wp2_with fail
          go_at_call 78
          refine (HN0.out _).mono ?_
          rintro e wm ⟨rfl, hb⟩
          clear d0 d1 d2 k0 k1 k2 dz
          have HX4 := Lib.hid (HX3.out.below hb)
          have HL4 := Lib.hid (HL3.out.below hb)
          have HN4 := Lib.hid (HN2.out.below hb)
          have HB4 := Lib.hid (below_after hb HB3.out)
          clear hb
          obtain ⟨⟨d0, d1, d2⟩, ⟨k0, k1, k2⟩, dz⟩ := HN4.out
          go_wp2_with fail
          have hne4 : ∀ k, (Value.slice va' (n + 1) vc').ownBlock = some k → k ≠ gn := fun k hk => by have := HK3.out.1 k hk; omega
          have HX5 := Lib.hid (((HX4.out.far ⟨gn, 0, none⟩ (.int .i64 y0) (by have := HK3.out.2.1; show G ≠ gn; omega)).far ⟨gn, 1, none⟩ (.int .i64 y1) (by have := HK3.out.2.1; show G ≠ gn; omega)).far ⟨gn, 2, none⟩ (.int .i64 y2) (by have := HK3.out.2.1; show G ≠ gn; omega))
          have HL5 := Lib.hid (((HL4.out.far (g := gn) 0 (.int .i64 y0) hne4).far (g := gn) 1 (.int .i64 y1) hne4).far (g := gn) 2 (.int .i64 y2) hne4)
          have HN5 := Lib.hid (((HN4.out.set0 y0).set1 y1).set2 y2)
          have HB5 := Lib.hid (Below.setCell (Below.setCell (Below.setCell HB4.out (p := ⟨gn, 0, none⟩) HK3.out.2.2 (.int .i64 y0)) (p := ⟨gn, 1, none⟩) HK3.out.2.2 (.int .i64 y1)) (p := ⟨gn, 2, none⟩) HK3.out.2.2 (.int .i64 y2))
          clear d0 d1 d2 k0 k1 k2 dz hne4
          go_roundw
          case rel => exact ⟨i + 1, n + 1, va', vc', gn, (y0, y1, y2), rfl, rfl, by rw [HJ.out.1], by have := HV.out; omega, HI2.out.symm, HL5.out, HN5.out, HX5.out, HK3.out.1, HK3.out.2.1, HB5.out⟩
          case measure => simp only [lenV]; have := HJ.out.1; have := HV.out; omega
end Go.Proofs.Ytohnmogejidpdaa
