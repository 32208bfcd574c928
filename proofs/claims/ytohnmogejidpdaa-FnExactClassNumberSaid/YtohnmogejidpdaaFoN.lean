/-
  The next form, in the program and in the model (own work).
-/
import Derived.Test.YtohnmogejidpdaaFoS
namespace Go.Proofs.Ytohnmogejidpdaa
open Go.ChangeShapes Go.WideShapes Go.ChangeAt Go.RowKit
set_option linter.unusedVariables false
set_option linter.unusedSimpArgs false
set_option maxRecDepth 100000

theorem max_nxH (w c : Int) : max w (absI c) = nxH w c := by unfold nxH; split <;> omega
set_option maxHeartbeats 1600000 in
theorem nextForm_abs (a b c d r n H q : Int) (w : World) (hb : Bc b) (hc : Bc c) (r0 : 0 ≤ r) (r1 : r ≤ 63) (n0 : 1 ≤ n) (n1 : n ≤ 1000000) (H0 : 0 ≤ H) (H1 : H ≤ 1000000) (q0 : 0 ≤ q) (q1 : q ≤ 2000000) (d1 : 1 ≤ d) (d2 : d ≤ 4000) (c0 : c ≠ 0)
    (p0 : -1000000 ≤ H - q) (p1 : H - q ≤ 1000000) (C0 : -1000000 ≤ ((H - q) * (H - q) - d).tdiv (4 * c)) (C1 : ((H - q) * (H - q) - d).tdiv (4 * c) ≤ 1000000)
    (hm : max r n = H)
    (hD : ∀ w, Calls Try.prog 73 #[.agg #[.int .i64 a, .int .i64 b, .int .i64 c]] w fun e w' => e = .returned (.int .i64 d) ∧ Below w.heap.size w w')
    (hR : ∀ w, Calls Try.prog 86 #[.int .i64 d] w fun e w' => e = .returned (.int .i64 r) ∧ w = w')
    (hA : ∀ w, Calls Try.prog 56 #[.int .i64 c] w fun e w' => e = .returned (.int .i64 n) ∧ w = w')
    (hV : ∀ w, Calls Try.prog 100 #[.int .i64 (H + b), .int .i64 (2 * n)] w fun e w' => e = .returned (.tuple #[.int .i64 ((H + b) / (2 * n)), .int .i64 q]) ∧ Below w.heap.size w w') :
    Calls Try.prog 79 #[.agg #[.int .i64 a, .int .i64 b, .int .i64 c]] w fun e w' => e = .returned (.agg #[.int .i64 c, .int .i64 (H - q), .int .i64 (((H - q) * (H - q) - d).tdiv (4 * c))]) ∧ Below w.heap.size w w' := by
  have HD := Lib.hid hD
  have HR := Lib.hid hR
  have HA := Lib.hid hA
  have HV := Lib.hid hV
  have hmx := fun (W : World) (ts : Array TypeId) (t : TypeId) => run_max2 Try.prog W ts t r n H hm
  obtain ⟨b0, b1⟩ := hb
  obtain ⟨s0, s1⟩ := hc
  have m := mul_bd p0 p1 p0 p1
  obtain ⟨m0, m1⟩ := m
  have h4 : ¬ (4 * c = 0) := by omega
  obtain ⟨T, hT⟩ : ∃ T, ((H - q) * (H - q) - d).tdiv (4 * c) = T := ⟨_, rfl⟩
  rw [hT] at C0 C1 ⊢
  have hTw : IntKind.i64.wrap T = T := by rw [IntKind.wrap_i64]; omega
  have hw4 : IntKind.i64.wrap (4 * c) = 4 * c := by rw [IntKind.wrap_i64]; omega
  have hwm : IntKind.i64.wrap ((H - q) * (H - q)) = (H - q) * (H - q) := by rw [IntKind.wrap_i64]; omega
  have hwd : IntKind.i64.wrap ((H - q) * (H - q) - d) = (H - q) * (H - q) - d := by rw [IntKind.wrap_i64]; omega
  clear hD hR hA hV hm
  have hs20 : w.heap.size < w.heap.size + 1 + 1 := (by omega)
  go_enter Try.func79, Try.ntmps79
  go_wp2_with (first | (go_at_call 73; refine (HD.out _).mono ?_; rintro e wn ⟨rfl, hb⟩; first | (have h2 := after_call2 hb hcl hfr hlt (by ((repeat' (first | (with_reducible exact Below.refl _ _) | (with_reducible refine Below.alloc ?_ ?_ _) | (with_reducible refine Below.setCell ?_ ?_ _) | (with_reducible refine Below.drew ?_) | (with_reducible refine below_drewN ?_ _) | (with_reducible assumption) | (with_reducible refine below_after (by with_reducible assumption) ?_) | go_size)); done)); obtain ⟨hclx, hfrx, hltx, hsz⟩ := after_call hb; (try simp only [World.size_alloc, World.size_setCell, World.size_drew] at hclx hfrx hltx hsz); (try (have hszl := Nat.lt_of_succ_le hsz)); obtain ⟨hcl, hfr, hlt⟩ := h2) | (obtain ⟨hcl, hfr, hlt, hsz⟩ := after_call hb; (try simp only [World.size_alloc, World.size_setCell, World.size_drew] at hcl hfr hlt hsz))) | (go_at_call 86; refine (HR.out _).mono ?_; rintro e wn ⟨rfl, rfl⟩) | (go_at_call 56; refine (HA.out _).mono ?_; rintro e wn ⟨rfl, rfl⟩) | (go_at_call 100; refine (HV.out _).mono ?_; rintro e wn ⟨rfl, hb⟩; first | (have h2 := after_call2 hb hcl hfr hlt (by ((repeat' (first | (with_reducible exact Below.refl _ _) | (with_reducible refine Below.alloc ?_ ?_ _) | (with_reducible refine Below.setCell ?_ ?_ _) | (with_reducible refine Below.drew ?_) | (with_reducible refine below_drewN ?_ _) | (with_reducible assumption) | (with_reducible refine below_after (by with_reducible assumption) ?_) | go_size)); done)); obtain ⟨hclx, hfrx, hltx, hsz⟩ := after_call hb; (try simp only [World.size_alloc, World.size_setCell, World.size_drew] at hclx hfrx hltx hsz); (try (have hszl := Nat.lt_of_succ_le hsz)); obtain ⟨hcl, hfr, hlt⟩ := h2) | (obtain ⟨hcl, hfr, hlt, hsz⟩ := after_call hb; (try simp only [World.size_alloc, World.size_setCell, World.size_drew] at hcl hfr hlt hsz))))
  go_region_held3 (fun W => W.cell? ⟨w.heap.size, 0, none⟩ = some (.int .i64 a) ∧ W.cell? ⟨w.heap.size, 1, none⟩ = some (.int .i64 b) ∧ W.cell? ⟨w.heap.size, 2, none⟩ = some (.int .i64 c) ∧ w.heap.size < W.heap.size) (first | (go_keep; done) | ((repeat' apply And.intro) <;> first | (go_keep; done) | (go_cell; done) | (refine (Below.cell (B := w.heap.size + 1) ?_ ?_).trans ?_; focus (repeat' (first | (with_reducible refine Below.alloc ?_ ?_ _) | (with_reducible refine Below.setCell ?_ ?_ _) | (with_reducible refine Below.drew ?_) | (with_reducible exact Below.refl _ _) | (first | omega | (simp only [World.size_alloc, World.size_drew, World.size_setCell]; omega) | (simp; omega)))); focus (first | omega | (simp only [World.size_alloc, World.size_drew, World.size_setCell]; omega) | (simp; omega)); first | (go_keep; done) | ((refine (Below.cell (by with_reducible assumption) ?_).trans ?_) <;> first | (go_keep; done) | (first | omega | (simp only [World.size_alloc, World.size_drew, World.size_setCell]; omega) | (simp; omega)))) | ((refine (Below.cell (by with_reducible assumption) ?_).trans ?_) <;> first | (go_keep; done) | (simp only [World.size_alloc, World.size_drew, World.size_setCell]; omega) | omega) | (simp only [World.size_alloc, World.size_drew, World.size_setCell]; omega) | omega)) (fail)
  go_wp2
  refine bodyPost_ret (v := .agg #[.int .i64 c, .int .i64 (H - q), .int .i64 T]) (by simp (maxDischargeDepth := 8) [results, Try.results79, go_sem, *]) rfl ?_
  exact ⟨rfl, by (repeat' (first | (with_reducible exact Below.refl _ _) | (with_reducible refine Below.alloc ?_ ?_ _) | (with_reducible refine Below.setCell ?_ ?_ _) | (with_reducible refine Below.drew ?_) | (with_reducible refine below_drewN ?_ _) | (with_reducible assumption) | (with_reducible refine below_after (by with_reducible assumption) ?_) | go_size))⟩
theorem nx_args {a b c : Int} (h : isFm a b c = true) : ∃ d r n H q : Int, dsc a b c = d ∧ rtB d = r ∧ absI c = n ∧ nxH r c = H ∧ (H + b) % (2 * n) = q ∧ nxB r b c = H - q ∧ nxC d (H - q) c = ((H - q) * (H - q) - d).tdiv (4 * c) ∧ 0 ≤ r ∧ r ≤ 63 ∧ 1 ≤ n ∧ n ≤ 1000000 ∧ 0 ≤ H ∧ H ≤ 1000000 ∧ 0 ≤ q ∧ q ≤ 2000000 ∧ 1 ≤ d ∧ d ≤ 4000 ∧ c ≠ 0 ∧ -1000000 ≤ H - q ∧ H - q ≤ 1000000 ∧ -1000000 ≤ ((H - q) * (H - q) - d).tdiv (4 * c) ∧ ((H - q) * (H - q) - d).tdiv (4 * c) ≤ 1000000 := by
  obtain ⟨ha, hb, hc⟩ := fm_bc h
  have hD := (isFm_parts h).2.2.2
  obtain ⟨d1, d2, _⟩ := isD_parts hD
  obtain ⟨_, hB, hC⟩ := fm_bc (nx_form h)
  have c0 : c ≠ 0 := (isD_ac hD).2
  obtain ⟨r0, r1, _, _⟩ := rtB_ok d1 d2
  obtain ⟨n0, n1⟩ := absI_bd hc
  have n2 : 1 ≤ absI c := by unfold absI; omega
  have hq0 := Int.emod_nonneg (nxH (rtB (dsc a b c)) c + b) (by omega : 2 * absI c ≠ 0)
  have hq1 := Int.emod_lt_of_pos (nxH (rtB (dsc a b c)) c + b) (by omega : 0 < 2 * absI c)
  have hH := nxH_ge (rtB (dsc a b c)) c
  have hH2 : nxH (rtB (dsc a b c)) c ≤ 1000000 := by unfold nxH; split <;> omega
  exact ⟨_, _, _, _, _, rfl, rfl, rfl, rfl, rfl, rfl, rfl, r0, r1, n2, n1, by omega, hH2, hq0, by omega, d1, d2, c0, hB.1, hB.2, hC.1, hC.2⟩
theorem nextForm_any (a b c : Int) (w : World) (h : isFm a b c = true) :
    Calls Try.prog 79 #[.agg #[.int .i64 a, .int .i64 b, .int .i64 c]] w fun e w' => e = .returned (.agg #[.int .i64 c, .int .i64 (nxB (rtB (dsc a b c)) b c), .int .i64 (nxC (dsc a b c) (nxB (rtB (dsc a b c)) b c) c)]) ∧ Below w.heap.size w w' := by
  obtain ⟨ha, hb, hc⟩ := fm_bc h
  obtain ⟨d, r, n, H, q, ed, er, en, eH, eq, eB, eC, r0, r1, n0, n1, H0, H1, q0, q1, d1, d2, c0, p0, p1, C0, C1⟩ := nx_args h
  rw [ed, er, eB, eC]
  exact nextForm_abs a b c d r n H q w hb hc r0 r1 n0 n1 H0 H1 q0 q1 d1 d2 c0 p0 p1 C0 C1 (by rw [← en, max_nxH]; exact eH)
    (fun w => by have := discriminant_any a b c w ha hb hc; rwa [ed] at this)
    (fun w => by have := rootBelow_any d w d1 d2; rwa [er] at this)
    (fun w => by have := absolute_any c w (by obtain ⟨h1, h2⟩ := hc; exact ⟨by omega, by omega⟩); rwa [en] at this)
    (fun w => by have := divideDown_any (H + b) (2 * n) w (by omega) (by omega) (by have := hb.1; omega) (by have := hb.2; omega); rwa [eq] at this)
set_option maxHeartbeats 1600000 in
theorem l06Next_abs (a b c d r n H q : Int) (w : World) (hb : Bc b) (hc : Bc c) (r0 : 0 ≤ r) (r1 : r ≤ 63) (n0 : 1 ≤ n) (n1 : n ≤ 1000000) (H0 : 0 ≤ H) (H1 : H ≤ 1000000) (q0 : 0 ≤ q) (q1 : q ≤ 2000000) (d1 : 1 ≤ d) (d2 : d ≤ 4000) (c0 : c ≠ 0)
    (p0 : -1000000 ≤ H - q) (p1 : H - q ≤ 1000000) (C0 : -1000000 ≤ ((H - q) * (H - q) - d).tdiv (4 * c)) (C1 : ((H - q) * (H - q) - d).tdiv (4 * c) ≤ 1000000)
    (hm : max c (-c) = n) (hh : H = if r < n then n else r)
    (hV : ∀ w, Calls Try.prog 99 #[.int .i64 (2 * n), .int .i64 (H + b)] w fun e w' => e = .returned (.int .i64 q) ∧ w = w') :
    Calls Try.prog 78 #[.agg #[.int .i64 a, .int .i64 b, .int .i64 c], .int .i64 d, .int .i64 r] w fun e w' => e = .returned (.agg #[.int .i64 c, .int .i64 (H - q), .int .i64 (((H - q) * (H - q) - d).tdiv (4 * c))]) ∧ Below w.heap.size w w' := by
  have HV := Lib.hid hV
  have hmx := fun (W : World) (ts : Array TypeId) (t : TypeId) => run_max2 Try.prog W ts t c (-c) n hm
  obtain ⟨b0, b1⟩ := hb
  obtain ⟨s0, s1⟩ := hc
  have m := mul_bd p0 p1 p0 p1
  obtain ⟨m0, m1⟩ := m
  have h4 : ¬ (4 * c = 0) := by omega
  obtain ⟨T, hT⟩ : ∃ T, ((H - q) * (H - q) - d).tdiv (4 * c) = T := ⟨_, rfl⟩
  rw [hT] at C0 C1 ⊢
  have hTw : IntKind.i64.wrap T = T := by rw [IntKind.wrap_i64]; omega
  have hw4 : IntKind.i64.wrap (4 * c) = 4 * c := by rw [IntKind.wrap_i64]; omega
  have hwm : IntKind.i64.wrap ((H - q) * (H - q)) = (H - q) * (H - q) := by rw [IntKind.wrap_i64]; omega
  have hwd : IntKind.i64.wrap ((H - q) * (H - q) - d) = (H - q) * (H - q) - d := by rw [IntKind.wrap_i64]; omega
  clear hV hm
  by_cases hrn : r < n
  · rw [if_pos hrn] at hh
    subst hh
    have hs20 : w.heap.size < w.heap.size + 1 + 1 := (by omega)
    go_enter Try.func78, Try.ntmps78
    go_wp2_with (first | (go_at_call 99; refine (HV.out _).mono ?_; rintro e wn ⟨rfl, rfl⟩))
    go_region_held3 (fun W => W.cell? ⟨w.heap.size, 0, none⟩ = some (.int .i64 a) ∧ W.cell? ⟨w.heap.size, 1, none⟩ = some (.int .i64 b) ∧ W.cell? ⟨w.heap.size, 2, none⟩ = some (.int .i64 c) ∧ w.heap.size < W.heap.size) (first | (go_keep; done) | ((repeat' apply And.intro) <;> first | (go_keep; done) | (go_cell; done) | (refine (Below.cell (B := w.heap.size + 1) ?_ ?_).trans ?_; focus (repeat' (first | (with_reducible refine Below.alloc ?_ ?_ _) | (with_reducible refine Below.setCell ?_ ?_ _) | (with_reducible refine Below.drew ?_) | (with_reducible exact Below.refl _ _) | (first | omega | (simp only [World.size_alloc, World.size_drew, World.size_setCell]; omega) | (simp; omega)))); focus (first | omega | (simp only [World.size_alloc, World.size_drew, World.size_setCell]; omega) | (simp; omega)); first | (go_keep; done) | ((refine (Below.cell (by with_reducible assumption) ?_).trans ?_) <;> first | (go_keep; done) | (first | omega | (simp only [World.size_alloc, World.size_drew, World.size_setCell]; omega) | (simp; omega)))) | ((refine (Below.cell (by with_reducible assumption) ?_).trans ?_) <;> first | (go_keep; done) | (simp only [World.size_alloc, World.size_drew, World.size_setCell]; omega) | omega) | (simp only [World.size_alloc, World.size_drew, World.size_setCell]; omega) | omega)) (fail)
    go_wp2
    refine bodyPost_ret (v := .agg #[.int .i64 c, .int .i64 (H - q), .int .i64 T]) (by simp (maxDischargeDepth := 8) [results, Try.results78, go_sem, *]) rfl ?_
    exact ⟨rfl, by (repeat' (first | (with_reducible exact Below.refl _ _) | (with_reducible refine Below.alloc ?_ ?_ _) | (with_reducible refine Below.setCell ?_ ?_ _) | (with_reducible refine Below.drew ?_) | (with_reducible refine below_drewN ?_ _) | (with_reducible assumption) | (with_reducible refine below_after (by with_reducible assumption) ?_) | go_size))⟩
  · rw [if_neg hrn] at hh
    subst hh
    have hs20 : w.heap.size < w.heap.size + 1 + 1 := (by omega)
    go_enter Try.func78, Try.ntmps78
    go_wp2_with (first | (go_at_call 99; refine (HV.out _).mono ?_; rintro e wn ⟨rfl, rfl⟩))
    go_region_held3 (fun W => W.cell? ⟨w.heap.size, 0, none⟩ = some (.int .i64 a) ∧ W.cell? ⟨w.heap.size, 1, none⟩ = some (.int .i64 b) ∧ W.cell? ⟨w.heap.size, 2, none⟩ = some (.int .i64 c) ∧ w.heap.size < W.heap.size) (first | (go_keep; done) | ((repeat' apply And.intro) <;> first | (go_keep; done) | (go_cell; done) | (refine (Below.cell (B := w.heap.size + 1) ?_ ?_).trans ?_; focus (repeat' (first | (with_reducible refine Below.alloc ?_ ?_ _) | (with_reducible refine Below.setCell ?_ ?_ _) | (with_reducible refine Below.drew ?_) | (with_reducible exact Below.refl _ _) | (first | omega | (simp only [World.size_alloc, World.size_drew, World.size_setCell]; omega) | (simp; omega)))); focus (first | omega | (simp only [World.size_alloc, World.size_drew, World.size_setCell]; omega) | (simp; omega)); first | (go_keep; done) | ((refine (Below.cell (by with_reducible assumption) ?_).trans ?_) <;> first | (go_keep; done) | (first | omega | (simp only [World.size_alloc, World.size_drew, World.size_setCell]; omega) | (simp; omega)))) | ((refine (Below.cell (by with_reducible assumption) ?_).trans ?_) <;> first | (go_keep; done) | (simp only [World.size_alloc, World.size_drew, World.size_setCell]; omega) | omega) | (simp only [World.size_alloc, World.size_drew, World.size_setCell]; omega) | omega)) (fail)
    go_wp2
    refine bodyPost_ret (v := .agg #[.int .i64 c, .int .i64 (H - q), .int .i64 T]) (by simp (maxDischargeDepth := 8) [results, Try.results78, go_sem, *]) rfl ?_
    exact ⟨rfl, by (repeat' (first | (with_reducible exact Below.refl _ _) | (with_reducible refine Below.alloc ?_ ?_ _) | (with_reducible refine Below.setCell ?_ ?_ _) | (with_reducible refine Below.drew ?_) | (with_reducible refine below_drewN ?_ _) | (with_reducible assumption) | (with_reducible refine below_after (by with_reducible assumption) ?_) | go_size))⟩
theorem l06Next_any (a b c : Int) (w : World) (h : isFm a b c = true) :
    Calls Try.prog 78 #[.agg #[.int .i64 a, .int .i64 b, .int .i64 c], .int .i64 (dsc a b c), .int .i64 (rtB (dsc a b c))] w fun e w' => e = .returned (.agg #[.int .i64 c, .int .i64 (nxB (rtB (dsc a b c)) b c), .int .i64 (nxC (dsc a b c) (nxB (rtB (dsc a b c)) b c) c)]) ∧ Below w.heap.size w w' := by
  obtain ⟨ha, hb, hc⟩ := fm_bc h
  obtain ⟨d, r, n, H, q, ed, er, en, eH, eq, eB, eC, r0, r1, n0, n1, H0, H1, q0, q1, d1, d2, c0, p0, p1, C0, C1⟩ := nx_args h
  rw [ed, er, eB, eC]
  exact l06Next_abs a b c d r n H q w hb hc r0 r1 n0 n1 H0 H1 q0 q1 d1 d2 c0 p0 p1 C0 C1 (by rw [max_abs]; exact en) (by rw [← eH]; unfold nxH; rw [en])
    (fun w => by have := l01Rest_any (2 * n) (H + b) w (by omega) (by omega) (by have := hb.1; omega) (by have := hb.2; omega); rwa [eq] at this)
end Go.Proofs.Ytohnmogejidpdaa
