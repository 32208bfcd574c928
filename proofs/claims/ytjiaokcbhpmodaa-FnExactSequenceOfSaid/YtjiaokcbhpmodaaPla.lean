/-
  Contracts of chapter 3's PlaceOnSail: the first place of a point in a list of points (own work).
-/
import Derived.Test.YtjiaokcbhpmodaaArb
namespace Go.Proofs.Ytjiaokcbhpmodaa
open Go.ChangeShapes Go.WideShapes Go.ChangeAt Go.RowKit
set_option linter.unusedVariables false
set_option linter.unusedSimpArgs false

/-- The first place of p, -1 if there is none. -/
def ixF (p : Int × Int) : List (Int × Int) → Nat → Int
  | [], _ => -1
  | q :: l, k => if q = p then k else ixF p l (k + 1)
def ixI (L : List (Int × Int)) (p : Int × Int) : Int := ixF p L 0
theorem ixF_at {p : Int × Int} : ∀ (l : List (Int × Int)) (k j : Nat), (∀ i, i < j → l.getD i (0, 0) ≠ p) → j < l.length → l.getD j (0, 0) = p → ixF p l k = k + j
  | [], k, j, _, h, _ => by simp at h
  | q :: l, k, 0, _, _, e => by
    rw [ixF, if_pos (by simpa using e)]; omega
  | q :: l, k, j + 1, hn, h, e => by
    have h0 := hn 0 (by omega)
    rw [ixF, if_neg (by simpa using h0), ixF_at l (k + 1) j (fun i hi => by simpa using hn (i + 1) (by omega)) (by simpa using h) (by simpa using e)]
    omega
theorem ixF_none {p : Int × Int} : ∀ (l : List (Int × Int)) (k : Nat), (∀ i, i < l.length → l.getD i (0, 0) ≠ p) → ixF p l k = -1
  | [], k, _ => by rw [ixF]
  | q :: l, k, hn => by
    have h0 := hn 0 (by simp)
    rw [ixF, if_neg (by simpa using h0)]
    exact ixF_none l (k + 1) (fun i hi => by simpa using hn (i + 1) (by simpa using hi))
theorem ixI_at {L : List (Int × Int)} {p : Int × Int} {k : Nat} (hn : ∀ i, i < k → L.getD i (0, 0) ≠ p) (hk : k < L.length) (he : L.getD k (0, 0) = p) : ixI L p = k := by
  unfold ixI; rw [ixF_at L 0 k hn hk he]; omega
theorem ixI_none {L : List (Int × Int)} {p : Int × Int} (hn : ∀ i, i < L.length → L.getD i (0, 0) ≠ p) : ixI L p = -1 := ixF_none L 0 hn
theorem ixF_range {p : Int × Int} : ∀ (l : List (Int × Int)) (k : Nat), ixF p l k = -1 ∨ (0 ≤ ixF p l k ∧ ixF p l k < k + l.length)
  | [], k => .inl (by rw [ixF])
  | q :: l, k => by
    by_cases h : q = p
    · rw [ixF, if_pos h, List.length_cons]; omega
    · rw [ixF, if_neg h, List.length_cons]
      have := ixF_range (p := p) l (k + 1)
      omega
def plV (L : List (Int × Int)) (C : Int) (c : Int × Int) : Int := if isPt c = true then (if C = 0 then (if ixI L c < 0 then 0 else ixI L c) else 0) else 0
def plC (L : List (Int × Int)) (C : Int) (c : Int × Int) : Int := if isPt c = true then (if C = 0 then (if ixI L c < 0 then 4 else 0) else C) else 1
set_option maxHeartbeats 1600000 in
theorem index_any (L : List (Int × Int)) (x y : Int) (g cp n : Nat) (w : World) (hN : L.length = n) (hl : n ≤ 2000) (hpt : PtsAt w g L) :
    Calls Try.prog 58 #[.slice (some ⟨g, 0, none⟩) n cp, .agg #[.int .i64 x, .int .i64 y]] w fun e w' => e = .returned (.int .i64 (ixI L (x, y))) ∧ Below w.heap.size w w' := by
  have heq := eq_pt
  have HN := Lib.hid hN
  have HL := Lib.hid hl
  have HPT := Lib.hid hpt
  have hgs := hpt.1
  obtain ⟨I, hI⟩ : ∃ I, ixI L (x, y) = I := ⟨_, rfl⟩
  rw [hI]
  have HI := Lib.hid hI
  clear hN hl hpt hI
  go_enter Try.func58, Try.ntmps58
  go_wp2
  obtain ⟨wA, hwA⟩ : ∃ wA, w.alloc (.cells #[.int .i64 x, .int .i64 y] 24) = wA := ⟨_, rfl⟩
  have HBA : Hid (Below w.heap.size w wA) := by
    show Below w.heap.size w wA
    rw [← hwA]; (repeat' (first | (with_reducible exact Below.refl _ _) | (with_reducible refine Below.alloc ?_ ?_ _) | (with_reducible refine Below.setCell ?_ ?_ _) | (with_reducible refine Below.drew ?_) | (with_reducible refine below_drewN ?_ _) | (with_reducible assumption) | (with_reducible refine below_after (by with_reducible assumption) ?_) | go_size))
  have HKA : Hid (∀ W', Below wA.heap.size wA W' → W'.cell? ⟨w.heap.size, 0, none⟩ = some (.int .i64 x) ∧ W'.cell? ⟨w.heap.size, 1, none⟩ = some (.int .i64 y) ∧ PtsAt W' g L ∧ w.heap.size < W'.heap.size ∧ g < W'.heap.size) := by
    intro W' hB
    have hz : wA.heap.size = w.heap.size + 1 := by rw [← hwA]; simp
    have hz2 := hB.size
    subst hwA
    refine ⟨?_, ?_, PtsAt.below HPT.out (hB.mono (by omega) |> fun h => (HBA.out).trans h), by omega, by omega⟩
    all_goals (rw [(bcell hB).1 _ _ (by omega)]; clear hB hz hz2; go_cell)
  rw [hwA]
  clear hwA
  go_loopw [8] (fun i wr => ∃ k : Nat, k ≤ n ∧ i = .int .i64 (k : Int) ∧ (∀ j, j < k → L.getD j (0, 0) ≠ (x, y)) ∧ Below wA.heap.size wA wr) (fun i _ => n - (intOf i).toNat)
  case atStart => exact ⟨0, by omega, rfl, fun j hj => by omega, Below.refl _ _⟩
  case round =>
    obtain ⟨k, hk, rfl, hno, hbel⟩ := hrel
    have HNO := Lib.hid hno
    have HBL := Lib.hid hbel
    by_cases hlt : k < n
    · obtain ⟨⟨u, v⟩, hu⟩ : ∃ u, L.getD k (0, 0) = u := ⟨_, rfl⟩
      have HU := Lib.hid hu
      have HKR : Hid (∀ W', Below wr.heap.size wr W' → W'.cell? ⟨w.heap.size, 0, none⟩ = some (.int .i64 x) ∧ W'.cell? ⟨w.heap.size, 1, none⟩ = some (.int .i64 y) ∧ W'.cell? ⟨g, k * 2, none⟩ = some (.int .i64 u) ∧ W'.cell? ⟨g, k * 2 + 1, none⟩ = some (.int .i64 v)) := by
        intro W' hB
        obtain ⟨a1, a2, a3, _, _⟩ := HKA.out W' (below_after hB HBL.out)
        obtain ⟨b1, b2⟩ := a3.2 k (by rw [HN.out]; exact hlt)
        rw [HU.out] at b1 b2
        exact ⟨a1, a2, b1, b2⟩
      obtain ⟨x0, x1, x2, x3⟩ := HKR.out wr (Below.refl _ _)
      have i0 : (0 : Int) ≤ (k : Int) := by omega
      have i1 : (k : Int) < (n : Int) := by omega
      have i2 : (n : Int) ≤ 2000 := by have := HL.out; omega
      clear hno hbel hu
      by_cases hq : (u, v) = (x, y)
      · have hq1 : u = x := congrArg Prod.fst hq
        have hq2 : v = y := congrArg Prod.snd hq
        subst hq1 hq2
        have HR := Lib.hid (ixI_at HNO.out (by rw [HN.out]; exact hlt) HU.out)
        clear hq
        go_wp2
        go_region_held3 (fun W' => W'.cell? ⟨w.heap.size, 0, none⟩ = some (.int .i64 u) ∧ W'.cell? ⟨w.heap.size, 1, none⟩ = some (.int .i64 v) ∧ W'.cell? ⟨g, k * 2, none⟩ = some (.int .i64 u) ∧ W'.cell? ⟨g, k * 2 + 1, none⟩ = some (.int .i64 v)) ((refine (HKR.out _ ?_); repeat' (first | (with_reducible refine Below.alloc ?_ ?_ _) | (with_reducible refine Below.setCell ?_ ?_ _) | (with_reducible refine Below.drew ?_) | (with_reducible exact Below.refl _ _) | (with_reducible refine below_after (by with_reducible assumption) ?_) | (first | omega | (simp only [World.size_alloc, World.size_drew, World.size_setCell]; omega))))) (fail)
        all_goals
          go_wp2
          go_ret
          exact ⟨by rw [← HI.out, HR.out]; rfl, below_after (by (repeat' (first | (with_reducible exact Below.refl _ _) | (with_reducible refine Below.alloc ?_ ?_ _) | (with_reducible refine Below.setCell ?_ ?_ _) | (with_reducible refine Below.drew ?_) | (with_reducible refine below_drewN ?_ _) | (with_reducible assumption) | (with_reducible refine below_after (by with_reducible assumption) ?_) | go_size))) (below_after HBL.out HBA.out)⟩
      · have hq1 : (x == u && y == v) = false := by
          cases h : (x == u && y == v)
          · rfl
          · simp only [Bool.and_eq_true, beq_iff_eq] at h
            exact absurd (by rw [h.1, h.2]) hq
        have HQ := Lib.hid hq
        have hq2 : ¬ (x = u ∧ y = v) := fun h => HQ.out (by rw [h.1, h.2])
        have hq3 : x = u → ¬ y = v := fun h h' => HQ.out (by rw [h, h'])
        clear hq
        go_wp2
        go_region_held3 (fun W' => W'.cell? ⟨w.heap.size, 0, none⟩ = some (.int .i64 x) ∧ W'.cell? ⟨w.heap.size, 1, none⟩ = some (.int .i64 y) ∧ W'.cell? ⟨g, k * 2, none⟩ = some (.int .i64 u) ∧ W'.cell? ⟨g, k * 2 + 1, none⟩ = some (.int .i64 v)) ((refine (HKR.out _ ?_); repeat' (first | (with_reducible refine Below.alloc ?_ ?_ _) | (with_reducible refine Below.setCell ?_ ?_ _) | (with_reducible refine Below.drew ?_) | (with_reducible exact Below.refl _ _) | (with_reducible refine below_after (by with_reducible assumption) ?_) | (first | omega | (simp only [World.size_alloc, World.size_drew, World.size_setCell]; omega))))) (fail)
        all_goals
          go_wp2
          go_roundw
          case rel =>
            refine ⟨k + 1, by omega, by go_num, fun j hj => ?_, below_after (by (repeat' (first | (with_reducible exact Below.refl _ _) | (with_reducible refine Below.alloc ?_ ?_ _) | (with_reducible refine Below.setCell ?_ ?_ _) | (with_reducible refine Below.drew ?_) | (with_reducible refine below_drewN ?_ _) | (with_reducible assumption) | (with_reducible refine below_after (by with_reducible assumption) ?_) | go_size))) HBL.out⟩
            by_cases he : j = k
            · rw [he, HU.out]; exact HQ.out
            · exact HNO.out j (by omega)
          case measure => simp [intOf]; omega
    · have hkn : k = n := by omega
      have HR := Lib.hid (ixI_none (L := L) (p := (x, y)) (fun i hi => HNO.out i (by rw [HN.out] at hi; omega)))
      clear hno hbel
      go_wp2
      go_ret
      exact ⟨by rw [← HI.out, HR.out]; rfl, below_after HBL.out HBA.out⟩
theorem impl_PlaceOnSail_any (a b c d x y : Int) (w : World) : Calls Try.prog 40 #[.agg #[.int .i64 a, .int .i64 b], .agg #[.int .i64 c, .int .i64 d], .agg #[.int .i64 x, .int .i64 y]] w fun e w' => e = .returned (.tuple #[.int .i64 (plV (slL (a, b) (c, d)) (slC (a, b) (c, d)) (x, y)), .int .i64 (plC (slL (a, b) (c, d)) (slC (a, b) (c, d)) (x, y))]) ∧ Below w.heap.size w w' := by
  cases hp : isPt (x, y)
  · have e1 : plV (slL (a, b) (c, d)) (slC (a, b) (c, d)) (x, y) = 0 := by unfold plV; rw [hp]; rfl
    have e2 : plC (slL (a, b) (c, d)) (slC (a, b) (c, d)) (x, y) = 1 := by unfold plC; rw [hp]; rfl
    rw [e1, e2]
    clear e1 e2
    have hs20 : w.heap.size < w.heap.size + 1 + 1 := (by omega); have hs30 : w.heap.size < w.heap.size + 1 + 1 + 1 := (by omega); have hs31 : w.heap.size + 1 < w.heap.size + 1 + 1 + 1 := (by omega); have hs40 : w.heap.size < w.heap.size + 1 + 1 + 1 + 1 := (by omega); have hs41 : w.heap.size + 1 < w.heap.size + 1 + 1 + 1 + 1 := (by omega); have hs42 : w.heap.size + 1 + 1 < w.heap.size + 1 + 1 + 1 + 1 := (by omega)
    go_enter Try.func40, Try.ntmps40
    go_wp2_with (go_at_call 57; refine (isPoint_any _ _ _).mono ?_; rintro e wn ⟨rfl, hb⟩; first | (have h2 := after_call2 hb hcl hfr hlt (by ((repeat' (first | (with_reducible exact Below.refl _ _) | (with_reducible refine Below.alloc ?_ ?_ _) | (with_reducible refine Below.setCell ?_ ?_ _) | (with_reducible refine Below.drew ?_) | (with_reducible refine below_drewN ?_ _) | (with_reducible assumption) | (with_reducible refine below_after (by with_reducible assumption) ?_) | go_size)); done)); obtain ⟨hclx, hfrx, hltx, hsz⟩ := after_call hb; (try simp only [World.size_alloc, World.size_setCell, World.size_drew] at hclx hfrx hltx hsz); (try (have hszl := Nat.lt_of_succ_le hsz)); obtain ⟨hcl, hfr, hlt⟩ := h2) | (obtain ⟨hcl, hfr, hlt, hsz⟩ := after_call hb; (try simp only [World.size_alloc, World.size_setCell, World.size_drew] at hcl hfr hlt hsz)))
    go_ret2
    exact ⟨rfl, by (repeat' (first | (with_reducible exact Below.refl _ _) | (with_reducible refine Below.alloc ?_ ?_ _) | (with_reducible refine Below.setCell ?_ ?_ _) | (with_reducible refine Below.drew ?_) | (with_reducible refine below_drewN ?_ _) | (with_reducible assumption) | (with_reducible refine below_after (by with_reducible assumption) ?_) | go_size))⟩
  · rcases sl_cases (a, b) (c, d) with ⟨hc, _, _, _, h2, h3⟩ | ⟨hc, hn, _⟩
    · obtain ⟨L, hL⟩ : ∃ L, slL (a, b) (c, d) = L := ⟨_, rfl⟩
      have hSP : ∀ w, Calls Try.prog 18 #[.agg #[.int .i64 a, .int .i64 b], .agg #[.int .i64 c, .int .i64 d]] w (RetPC w L 0) := by
        intro w; have := impl_SailPoints_any a b c d w; rw [hc, hL] at this; exact this
      rw [hc]
      rw [hL] at h2 h3 ⊢
      obtain ⟨n, hN⟩ : ∃ n, L.length = n := ⟨_, rfl⟩
      rw [hN] at h2 h3
      have e1 : plV L 0 (x, y) = if ixI L (x, y) < 0 then 0 else ixI L (x, y) := by unfold plV; rw [hp]; rfl
      have e2 : plC L 0 (x, y) = if ixI L (x, y) < 0 then 4 else 0 := by unfold plC; rw [hp]; rfl
      rw [e1, e2]
      have hr : ixI L (x, y) = -1 ∨ (0 ≤ ixI L (x, y) ∧ ixI L (x, y) < 0 + L.length) := ixF_range L 0
      have HIX : Hid (∀ g cp w, PtsAt w g L → Calls Try.prog 58 #[.slice (some ⟨g, 0, none⟩) n cp, .agg #[.int .i64 x, .int .i64 y]] w fun e w' => e = .returned (.int .i64 (ixI L (x, y))) ∧ Below w.heap.size w w') :=
        fun g cp w h => index_any L x y g cp n w hN h3 h
      generalize ixI L (x, y) = I at *
      have HSP := Lib.hid hSP
      have HN := Lib.hid hN
      have H2 : Hid (1 ≤ n) := by show 1 ≤ n; omega
      by_cases hI : I < 0
      · rw [if_pos hI, if_pos hI]
        clear hSP hN hL e1 e2 hc h2 h3 hr
        have hs20 : w.heap.size < w.heap.size + 1 + 1 := (by omega); have hs30 : w.heap.size < w.heap.size + 1 + 1 + 1 := (by omega); have hs31 : w.heap.size + 1 < w.heap.size + 1 + 1 + 1 := (by omega); have hs40 : w.heap.size < w.heap.size + 1 + 1 + 1 + 1 := (by omega); have hs41 : w.heap.size + 1 < w.heap.size + 1 + 1 + 1 + 1 := (by omega); have hs42 : w.heap.size + 1 + 1 < w.heap.size + 1 + 1 + 1 + 1 := (by omega)
        go_enter Try.func40, Try.ntmps40
        go_wp2_with (first | (go_at_call 57; refine (isPoint_any _ _ _).mono ?_; rintro e wn ⟨rfl, hb⟩; first | (have h2 := after_call2 hb hcl hfr hlt (by ((repeat' (first | (with_reducible exact Below.refl _ _) | (with_reducible refine Below.alloc ?_ ?_ _) | (with_reducible refine Below.setCell ?_ ?_ _) | (with_reducible refine Below.drew ?_) | (with_reducible refine below_drewN ?_ _) | (with_reducible assumption) | (with_reducible refine below_after (by with_reducible assumption) ?_) | go_size)); done)); obtain ⟨hclx, hfrx, hltx, hsz⟩ := after_call hb; (try simp only [World.size_alloc, World.size_setCell, World.size_drew] at hclx hfrx hltx hsz); (try (have hszl := Nat.lt_of_succ_le hsz)); obtain ⟨hcl, hfr, hlt⟩ := h2) | (obtain ⟨hcl, hfr, hlt, hsz⟩ := after_call hb; (try simp only [World.size_alloc, World.size_setCell, World.size_drew] at hcl hfr hlt hsz))) | (go_at_call 18; refine (HSP.out _).mono ?_; rintro e wn hr; obtain ⟨g, cp, rfl, hge, hpt, hb⟩ := retpc_some hr HN.out H2.out; clear hr; have HPT := Lib.hid hpt; clear hpt; first | (have h2 := after_call2 hb hcl hfr hlt (by ((repeat' (first | (with_reducible exact Below.refl _ _) | (with_reducible refine Below.alloc ?_ ?_ _) | (with_reducible refine Below.setCell ?_ ?_ _) | (with_reducible refine Below.drew ?_) | (with_reducible refine below_drewN ?_ _) | (with_reducible assumption) | (with_reducible refine below_after (by with_reducible assumption) ?_) | go_size)); done)); obtain ⟨hclx, hfrx, hltx, hsz⟩ := after_call hb; (try simp only [World.size_alloc, World.size_setCell, World.size_drew] at hclx hfrx hltx hsz); (try (have hszl := Nat.lt_of_succ_le hsz)); obtain ⟨hcl, hfr, hlt⟩ := h2) | (obtain ⟨hcl, hfr, hlt, hsz⟩ := after_call hb; (try simp only [World.size_alloc, World.size_setCell, World.size_drew] at hcl hfr hlt hsz))) | (go_at_call 58; refine (HIX.out _ _ _ HPT.out).mono ?_; rintro e wk ⟨rfl, hb⟩; first | (have h2 := after_call2 hb hcl hfr hlt (by ((repeat' (first | (with_reducible exact Below.refl _ _) | (with_reducible refine Below.alloc ?_ ?_ _) | (with_reducible refine Below.setCell ?_ ?_ _) | (with_reducible refine Below.drew ?_) | (with_reducible refine below_drewN ?_ _) | (with_reducible assumption) | (with_reducible refine below_after (by with_reducible assumption) ?_) | go_size)); done)); obtain ⟨hclx, hfrx, hltx, hsz⟩ := after_call hb; (try simp only [World.size_alloc, World.size_setCell, World.size_drew] at hclx hfrx hltx hsz); (try (have hszl := Nat.lt_of_succ_le hsz)); obtain ⟨hcl, hfr, hlt⟩ := h2) | (obtain ⟨hcl, hfr, hlt, hsz⟩ := after_call hb; (try simp only [World.size_alloc, World.size_setCell, World.size_drew] at hcl hfr hlt hsz))))
        go_ret2
        exact ⟨rfl, by (repeat' (first | (with_reducible exact Below.refl _ _) | (with_reducible refine Below.alloc ?_ ?_ _) | (with_reducible refine Below.setCell ?_ ?_ _) | (with_reducible refine Below.drew ?_) | (with_reducible refine below_drewN ?_ _) | (with_reducible assumption) | (with_reducible refine below_after (by with_reducible assumption) ?_) | go_size))⟩
      · rw [if_neg hI, if_neg hI]
        clear hSP hN hL e1 e2 hc h2 h3
        have hs20 : w.heap.size < w.heap.size + 1 + 1 := (by omega); have hs30 : w.heap.size < w.heap.size + 1 + 1 + 1 := (by omega); have hs31 : w.heap.size + 1 < w.heap.size + 1 + 1 + 1 := (by omega); have hs40 : w.heap.size < w.heap.size + 1 + 1 + 1 + 1 := (by omega); have hs41 : w.heap.size + 1 < w.heap.size + 1 + 1 + 1 + 1 := (by omega); have hs42 : w.heap.size + 1 + 1 < w.heap.size + 1 + 1 + 1 + 1 := (by omega)
        go_enter Try.func40, Try.ntmps40
        go_wp2_with (first | (go_at_call 57; refine (isPoint_any _ _ _).mono ?_; rintro e wn ⟨rfl, hb⟩; first | (have h2 := after_call2 hb hcl hfr hlt (by ((repeat' (first | (with_reducible exact Below.refl _ _) | (with_reducible refine Below.alloc ?_ ?_ _) | (with_reducible refine Below.setCell ?_ ?_ _) | (with_reducible refine Below.drew ?_) | (with_reducible refine below_drewN ?_ _) | (with_reducible assumption) | (with_reducible refine below_after (by with_reducible assumption) ?_) | go_size)); done)); obtain ⟨hclx, hfrx, hltx, hsz⟩ := after_call hb; (try simp only [World.size_alloc, World.size_setCell, World.size_drew] at hclx hfrx hltx hsz); (try (have hszl := Nat.lt_of_succ_le hsz)); obtain ⟨hcl, hfr, hlt⟩ := h2) | (obtain ⟨hcl, hfr, hlt, hsz⟩ := after_call hb; (try simp only [World.size_alloc, World.size_setCell, World.size_drew] at hcl hfr hlt hsz))) | (go_at_call 18; refine (HSP.out _).mono ?_; rintro e wn hr; obtain ⟨g, cp, rfl, hge, hpt, hb⟩ := retpc_some hr HN.out H2.out; clear hr; have HPT := Lib.hid hpt; clear hpt; first | (have h2 := after_call2 hb hcl hfr hlt (by ((repeat' (first | (with_reducible exact Below.refl _ _) | (with_reducible refine Below.alloc ?_ ?_ _) | (with_reducible refine Below.setCell ?_ ?_ _) | (with_reducible refine Below.drew ?_) | (with_reducible refine below_drewN ?_ _) | (with_reducible assumption) | (with_reducible refine below_after (by with_reducible assumption) ?_) | go_size)); done)); obtain ⟨hclx, hfrx, hltx, hsz⟩ := after_call hb; (try simp only [World.size_alloc, World.size_setCell, World.size_drew] at hclx hfrx hltx hsz); (try (have hszl := Nat.lt_of_succ_le hsz)); obtain ⟨hcl, hfr, hlt⟩ := h2) | (obtain ⟨hcl, hfr, hlt, hsz⟩ := after_call hb; (try simp only [World.size_alloc, World.size_setCell, World.size_drew] at hcl hfr hlt hsz))) | (go_at_call 58; refine (HIX.out _ _ _ HPT.out).mono ?_; rintro e wk ⟨rfl, hb⟩; first | (have h2 := after_call2 hb hcl hfr hlt (by ((repeat' (first | (with_reducible exact Below.refl _ _) | (with_reducible refine Below.alloc ?_ ?_ _) | (with_reducible refine Below.setCell ?_ ?_ _) | (with_reducible refine Below.drew ?_) | (with_reducible refine below_drewN ?_ _) | (with_reducible assumption) | (with_reducible refine below_after (by with_reducible assumption) ?_) | go_size)); done)); obtain ⟨hclx, hfrx, hltx, hsz⟩ := after_call hb; (try simp only [World.size_alloc, World.size_setCell, World.size_drew] at hclx hfrx hltx hsz); (try (have hszl := Nat.lt_of_succ_le hsz)); obtain ⟨hcl, hfr, hlt⟩ := h2) | (obtain ⟨hcl, hfr, hlt, hsz⟩ := after_call hb; (try simp only [World.size_alloc, World.size_setCell, World.size_drew] at hcl hfr hlt hsz))))
        go_ret2
        exact ⟨rfl, by (repeat' (first | (with_reducible exact Below.refl _ _) | (with_reducible refine Below.alloc ?_ ?_ _) | (with_reducible refine Below.setCell ?_ ?_ _) | (with_reducible refine Below.drew ?_) | (with_reducible refine below_drewN ?_ _) | (with_reducible assumption) | (with_reducible refine below_after (by with_reducible assumption) ?_) | go_size))⟩
    · have e1 : plV (slL (a, b) (c, d)) (slC (a, b) (c, d)) (x, y) = 0 := by unfold plV; rw [hp, if_pos rfl, if_neg hc]
      have e2 : plC (slL (a, b) (c, d)) (slC (a, b) (c, d)) (x, y) = slC (a, b) (c, d) := by unfold plC; rw [hp, if_pos rfl, if_neg hc]
      rw [e1, e2]
      have hSP : ∀ w, Calls Try.prog 18 #[.agg #[.int .i64 a, .int .i64 b], .agg #[.int .i64 c, .int .i64 d]] w (RetPC w [] (slC (a, b) (c, d))) := by
        intro w; have := impl_SailPoints_any a b c d w; rw [hn] at this; exact this
      generalize slC (a, b) (c, d) = C at *
      have HSP := Lib.hid hSP
      have hc2 : (C == 0) = false := by simpa using hc
      have hc3 : ¬ C = 0 := hc
      have hc4 : (C != 0) = true := by simpa using hc
      clear e1 e2 hSP hn
      have hs20 : w.heap.size < w.heap.size + 1 + 1 := (by omega); have hs30 : w.heap.size < w.heap.size + 1 + 1 + 1 := (by omega); have hs31 : w.heap.size + 1 < w.heap.size + 1 + 1 + 1 := (by omega); have hs40 : w.heap.size < w.heap.size + 1 + 1 + 1 + 1 := (by omega); have hs41 : w.heap.size + 1 < w.heap.size + 1 + 1 + 1 + 1 := (by omega); have hs42 : w.heap.size + 1 + 1 < w.heap.size + 1 + 1 + 1 + 1 := (by omega)
      go_enter Try.func40, Try.ntmps40
      go_wp2_with (first | (go_at_call 57; refine (isPoint_any _ _ _).mono ?_; rintro e wn ⟨rfl, hb⟩; first | (have h2 := after_call2 hb hcl hfr hlt (by ((repeat' (first | (with_reducible exact Below.refl _ _) | (with_reducible refine Below.alloc ?_ ?_ _) | (with_reducible refine Below.setCell ?_ ?_ _) | (with_reducible refine Below.drew ?_) | (with_reducible refine below_drewN ?_ _) | (with_reducible assumption) | (with_reducible refine below_after (by with_reducible assumption) ?_) | go_size)); done)); obtain ⟨hclx, hfrx, hltx, hsz⟩ := after_call hb; (try simp only [World.size_alloc, World.size_setCell, World.size_drew] at hclx hfrx hltx hsz); (try (have hszl := Nat.lt_of_succ_le hsz)); obtain ⟨hcl, hfr, hlt⟩ := h2) | (obtain ⟨hcl, hfr, hlt, hsz⟩ := after_call hb; (try simp only [World.size_alloc, World.size_setCell, World.size_drew] at hcl hfr hlt hsz))) | (go_at_call 18; refine (HSP.out _).mono ?_; rintro e wn hr; obtain ⟨va, vc, rfl, hb⟩ := retpc_none hr rfl; clear hr; first | (have h2 := after_call2 hb hcl hfr hlt (by ((repeat' (first | (with_reducible exact Below.refl _ _) | (with_reducible refine Below.alloc ?_ ?_ _) | (with_reducible refine Below.setCell ?_ ?_ _) | (with_reducible refine Below.drew ?_) | (with_reducible refine below_drewN ?_ _) | (with_reducible assumption) | (with_reducible refine below_after (by with_reducible assumption) ?_) | go_size)); done)); obtain ⟨hclx, hfrx, hltx, hsz⟩ := after_call hb; (try simp only [World.size_alloc, World.size_setCell, World.size_drew] at hclx hfrx hltx hsz); (try (have hszl := Nat.lt_of_succ_le hsz)); obtain ⟨hcl, hfr, hlt⟩ := h2) | (obtain ⟨hcl, hfr, hlt, hsz⟩ := after_call hb; (try simp only [World.size_alloc, World.size_setCell, World.size_drew] at hcl hfr hlt hsz))))
      go_ret2
      exact ⟨rfl, by (repeat' (first | (with_reducible exact Below.refl _ _) | (with_reducible refine Below.alloc ?_ ?_ _) | (with_reducible refine Below.setCell ?_ ?_ _) | (with_reducible refine Below.drew ?_) | (with_reducible refine below_drewN ?_ _) | (with_reducible assumption) | (with_reducible refine below_after (by with_reducible assumption) ?_) | go_size))⟩
theorem retpnc_some {w w' : World} {L : List (Int × Int)} {ns : List Int} {C : Int} {e : Ending} {n : Nat} (h : RetPNC w L ns C e w') (hn : L.length = n) (h1 : 1 ≤ n) :
    ∃ g cp na nc, e = .returned (.tuple #[.slice (some ⟨g, 0, none⟩) n cp, .slice na ns.length nc, .int .i64 C]) ∧ w.heap.size ≤ g ∧ PtsAt w' g L ∧ OwnI w.heap.size w' (.slice na ns.length nc) ns ∧ Below w.heap.size w w' := by
  obtain ⟨v, v2, rfl, ho, hi, hb⟩ := h
  obtain ⟨g, cp, e, hg, hp, _⟩ := retpc_some (C := C) ⟨v, rfl, ho, hb⟩ hn h1
  obtain ⟨na, nc, rfl, _⟩ := own_view hi
  have e' : v = .slice (some ⟨g, 0, none⟩) n cp := by simp at e; exact e
  subst e'
  exact ⟨g, cp, na, nc, rfl, hg, hp, hi, hb⟩
theorem retpnc_none {w w' : World} {L : List (Int × Int)} {ns : List Int} {C : Int} {e : Ending} (h : RetPNC w L ns C e w') :
    ∃ a n cp na m nc, e = .returned (.tuple #[.slice a n cp, .slice na m nc, .int .i64 C]) ∧ Below w.heap.size w w' := by
  obtain ⟨v, v2, rfl, ho, hi, hb⟩ := h
  obtain ⟨a, cp, rfl, _⟩ := own_viewF ho
  obtain ⟨na, nc, rfl, _⟩ := own_view hi
  exact ⟨_, _, _, _, _, _, rfl, hb⟩
set_option maxHeartbeats 4000000 in
theorem spec_PlaceOnSail_some (a b c d x y : Int) (L : List (Int × Int)) (ns : List Int) (n : Nat) (w : World) (hp : isPt (x, y) = true) (hN : L.length = n) (h1 : 1 ≤ n) (hl : n ≤ 2000)
    (hSP : ∀ w, Calls Try.prog 46 #[.agg #[.int .i64 a, .int .i64 b], .agg #[.int .i64 c, .int .i64 d]] w (RetPNC w L ns 0)) :
    Calls Try.prog 39 #[.agg #[.int .i64 a, .int .i64 b], .agg #[.int .i64 c, .int .i64 d], .agg #[.int .i64 x, .int .i64 y]] w fun e w' => e = .returned (.tuple #[.int .i64 (plV L 0 (x, y)), .int .i64 (plC L 0 (x, y))]) ∧ Below w.heap.size w w' := by
  have heq := eq_pt
  have HSP := Lib.hid hSP
  have HN := Lib.hid hN
  have HL := Lib.hid hl
  have H1 := Lib.hid h1
  have e1 : plV L 0 (x, y) = if ixI L (x, y) < 0 then 0 else ixI L (x, y) := by unfold plV; rw [hp]; rfl
  have e2 : plC L 0 (x, y) = if ixI L (x, y) < 0 then 4 else 0 := by unfold plC; rw [hp]; rfl
  obtain ⟨I, hI⟩ : ∃ I, plV L 0 (x, y) = I := ⟨_, rfl⟩
  obtain ⟨J, hJ⟩ : ∃ J, plC L 0 (x, y) = J := ⟨_, rfl⟩
  rw [hI, hJ]
  have HA : Hid (∀ k : Nat, ixI L (x, y) = k → I = k ∧ J = 0) := by
    intro k hk
    rw [e1, hk, if_neg (by omega)] at hI
    rw [e2, hk, if_neg (by omega)] at hJ
    exact ⟨hI.symm, hJ.symm⟩
  have HB : Hid (ixI L (x, y) = -1 → I = 0 ∧ J = 4) := by
    intro hk
    rw [e1, hk, if_pos (by omega)] at hI
    rw [e2, hk, if_pos (by omega)] at hJ
    exact ⟨hI.symm, hJ.symm⟩
  clear hSP hN hl h1 e1 e2 hI hJ
  have hs20 : w.heap.size < w.heap.size + 1 + 1 := (by omega); have hs30 : w.heap.size < w.heap.size + 1 + 1 + 1 := (by omega); have hs31 : w.heap.size + 1 < w.heap.size + 1 + 1 + 1 := (by omega); have hs40 : w.heap.size < w.heap.size + 1 + 1 + 1 + 1 := (by omega); have hs41 : w.heap.size + 1 < w.heap.size + 1 + 1 + 1 + 1 := (by omega); have hs42 : w.heap.size + 1 + 1 < w.heap.size + 1 + 1 + 1 + 1 := (by omega)
  go_enter Try.func39, Try.ntmps39
  go_wp2_with (first | (go_at_call 55; refine (l01Is_any _ _ _).mono ?_; rintro e wn ⟨rfl, hb⟩; first | (have h2 := after_call2 hb hcl hfr hlt (by ((repeat' (first | (with_reducible exact Below.refl _ _) | (with_reducible refine Below.alloc ?_ ?_ _) | (with_reducible refine Below.setCell ?_ ?_ _) | (with_reducible refine Below.drew ?_) | (with_reducible refine below_drewN ?_ _) | (with_reducible assumption) | (with_reducible refine below_after (by with_reducible assumption) ?_) | go_size)); done)); obtain ⟨hclx, hfrx, hltx, hsz⟩ := after_call hb; (try simp only [World.size_alloc, World.size_setCell, World.size_drew] at hclx hfrx hltx hsz); (try (have hszl := Nat.lt_of_succ_le hsz)); obtain ⟨hcl, hfr, hlt⟩ := h2) | (obtain ⟨hcl, hfr, hlt, hsz⟩ := after_call hb; (try simp only [World.size_alloc, World.size_setCell, World.size_drew] at hcl hfr hlt hsz))) | (go_at_call 46; refine (HSP.out _).mono ?_; rintro e wA hr; obtain ⟨g, cp, na, nc, rfl, hge, hpt, _, hb⟩ := retpnc_some hr HN.out H1.out; clear hr; have HPT := Lib.hid hpt; clear hpt; first | (have h2 := after_call2 hb hcl hfr hlt (by ((repeat' (first | (with_reducible exact Below.refl _ _) | (with_reducible refine Below.alloc ?_ ?_ _) | (with_reducible refine Below.setCell ?_ ?_ _) | (with_reducible refine Below.drew ?_) | (with_reducible refine below_drewN ?_ _) | (with_reducible assumption) | (with_reducible refine below_after (by with_reducible assumption) ?_) | go_size)); done)); obtain ⟨hclx, hfrx, hltx, hsz⟩ := after_call hb; (try simp only [World.size_alloc, World.size_setCell, World.size_drew] at hclx hfrx hltx hsz); (try (have hszl := Nat.lt_of_succ_le hsz)); obtain ⟨hcl, hfr, hlt⟩ := h2) | (obtain ⟨hcl, hfr, hlt, hsz⟩ := after_call hb; (try simp only [World.size_alloc, World.size_setCell, World.size_drew] at hcl hfr hlt hsz))))
  have HBA : Hid (Below w.heap.size w wA) := by show Below w.heap.size w wA; (repeat' (first | (with_reducible exact Below.refl _ _) | (with_reducible refine Below.alloc ?_ ?_ _) | (with_reducible refine Below.setCell ?_ ?_ _) | (with_reducible refine Below.drew ?_) | (with_reducible refine below_drewN ?_ _) | (with_reducible assumption) | (with_reducible refine below_after (by with_reducible assumption) ?_) | go_size))
  have HKA : Hid (∀ W', Below wA.heap.size wA W' → W'.cell? ⟨w.heap.size + 1 + 1, 0, none⟩ = some (.int .i64 x) ∧ W'.cell? ⟨w.heap.size + 1 + 1, 1, none⟩ = some (.int .i64 y) ∧ PtsAt W' g L) := by
    intro W' hB
    have c0 : wA.cell? ⟨w.heap.size + 1 + 1, 0, none⟩ = some (.int .i64 x) := by go_cell
    have c1 : wA.cell? ⟨w.heap.size + 1 + 1, 1, none⟩ = some (.int .i64 y) := by go_cell
    have hz := World.block_lt_of_cell? wA _ c0
    exact ⟨((bcell hB).1 _ _ hz).trans c0, ((bcell hB).1 _ _ hz).trans c1, PtsAt.below HPT.out hB⟩
  (repeat (first | clear hb | clear hcl | clear hfr | clear hlt | clear hclx | clear hfrx | clear hltx))
  go_loopw [11] (fun i wr => ∃ k : Nat, k ≤ n ∧ i = .int .i64 (k : Int) ∧ (∀ j, j < k → L.getD j (0, 0) ≠ (x, y)) ∧ Below wA.heap.size wA wr) (fun i _ => n - (intOf i).toNat)
  case atStart => exact ⟨0, by omega, rfl, fun j hj => by omega, Below.refl _ _⟩
  case round =>
    obtain ⟨k, hk, rfl, hno, hbel⟩ := hrel
    have HNO := Lib.hid hno
    have HBL := Lib.hid hbel
    by_cases hlt : k < n
    · obtain ⟨⟨u, v⟩, hu⟩ : ∃ u, L.getD k (0, 0) = u := ⟨_, rfl⟩
      have HU := Lib.hid hu
      have HKR : Hid (∀ W', Below wr.heap.size wr W' → W'.cell? ⟨w.heap.size + 1 + 1, 0, none⟩ = some (.int .i64 x) ∧ W'.cell? ⟨w.heap.size + 1 + 1, 1, none⟩ = some (.int .i64 y) ∧ W'.cell? ⟨g, k * 2, none⟩ = some (.int .i64 u) ∧ W'.cell? ⟨g, k * 2 + 1, none⟩ = some (.int .i64 v)) := by
        intro W' hB
        obtain ⟨a1, a2, a3⟩ := HKA.out W' (below_after hB HBL.out)
        obtain ⟨b1, b2⟩ := a3.2 k (by rw [HN.out]; exact hlt)
        rw [HU.out] at b1 b2
        exact ⟨a1, a2, b1, b2⟩
      obtain ⟨x0, x1, x2, x3⟩ := HKR.out wr (Below.refl _ _)
      have i0 : (0 : Int) ≤ (k : Int) := by omega
      have i1 : (k : Int) < (n : Int) := by omega
      have i2 : (n : Int) ≤ 2000 := by have := HL.out; omega
      clear hno hbel hu
      by_cases hq : (u, v) = (x, y)
      · have hq1 : u = x := congrArg Prod.fst hq
        have hq2 : v = y := congrArg Prod.snd hq
        subst hq1 hq2
        have HR := Lib.hid (HA.out k (ixI_at HNO.out (by rw [HN.out]; exact hlt) HU.out))
        clear hq
        go_wp2
        go_region_held3 (fun W' => W'.cell? ⟨w.heap.size + 1 + 1, 0, none⟩ = some (.int .i64 u) ∧ W'.cell? ⟨w.heap.size + 1 + 1, 1, none⟩ = some (.int .i64 v) ∧ W'.cell? ⟨g, k * 2, none⟩ = some (.int .i64 u) ∧ W'.cell? ⟨g, k * 2 + 1, none⟩ = some (.int .i64 v)) ((refine (HKR.out _ ?_); repeat' (first | (with_reducible refine Below.alloc ?_ ?_ _) | (with_reducible refine Below.setCell ?_ ?_ _) | (with_reducible refine Below.drew ?_) | (with_reducible exact Below.refl _ _) | (with_reducible refine below_after (by with_reducible assumption) ?_) | (first | omega | (simp only [World.size_alloc, World.size_drew, World.size_setCell]; omega))))) (fail)
        all_goals
          go_wp2
          go_ret2
          exact ⟨by rw [HR.out.1, HR.out.2]; rfl, below_after (by (repeat' (first | (with_reducible exact Below.refl _ _) | (with_reducible refine Below.alloc ?_ ?_ _) | (with_reducible refine Below.setCell ?_ ?_ _) | (with_reducible refine Below.drew ?_) | (with_reducible refine below_drewN ?_ _) | (with_reducible assumption) | (with_reducible refine below_after (by with_reducible assumption) ?_) | go_size))) (below_after HBL.out HBA.out)⟩
      · have hq1 : (u == x && v == y) = false := by
          cases h : (u == x && v == y)
          · rfl
          · simp only [Bool.and_eq_true, beq_iff_eq] at h
            exact absurd (by rw [h.1, h.2]) hq
        have HQ := Lib.hid hq
        have hq2 : ¬ (u = x ∧ v = y) := fun h => HQ.out (by rw [h.1, h.2])
        have hq3 : u = x → ¬ v = y := fun h h' => HQ.out (by rw [h, h'])
        clear hq
        go_wp2
        go_region_held3 (fun W' => W'.cell? ⟨w.heap.size + 1 + 1, 0, none⟩ = some (.int .i64 x) ∧ W'.cell? ⟨w.heap.size + 1 + 1, 1, none⟩ = some (.int .i64 y) ∧ W'.cell? ⟨g, k * 2, none⟩ = some (.int .i64 u) ∧ W'.cell? ⟨g, k * 2 + 1, none⟩ = some (.int .i64 v)) ((refine (HKR.out _ ?_); repeat' (first | (with_reducible refine Below.alloc ?_ ?_ _) | (with_reducible refine Below.setCell ?_ ?_ _) | (with_reducible refine Below.drew ?_) | (with_reducible exact Below.refl _ _) | (with_reducible refine below_after (by with_reducible assumption) ?_) | (first | omega | (simp only [World.size_alloc, World.size_drew, World.size_setCell]; omega))))) (fail)
        all_goals
          go_wp2
          go_roundw
          case rel =>
            refine ⟨k + 1, by omega, by go_num, fun j hj => ?_, below_after (by (repeat' (first | (with_reducible exact Below.refl _ _) | (with_reducible refine Below.alloc ?_ ?_ _) | (with_reducible refine Below.setCell ?_ ?_ _) | (with_reducible refine Below.drew ?_) | (with_reducible refine below_drewN ?_ _) | (with_reducible assumption) | (with_reducible refine below_after (by with_reducible assumption) ?_) | go_size))) HBL.out⟩
            by_cases he : j = k
            · rw [he, HU.out]; exact HQ.out
            · exact HNO.out j (by omega)
          case measure => simp [intOf]; omega
    · have hkn : k = n := by omega
      have HR := Lib.hid (HB.out (ixI_none (L := L) (p := (x, y)) (fun i hi => HNO.out i (by rw [HN.out] at hi; omega))))
      clear hno hbel
      go_wp2
      go_ret2
      exact ⟨by rw [HR.out.1, HR.out.2]; rfl, below_after HBL.out HBA.out⟩
theorem spec_PlaceOnSail_any (a b c d x y : Int) (w : World) : Calls Try.prog 39 #[.agg #[.int .i64 a, .int .i64 b], .agg #[.int .i64 c, .int .i64 d], .agg #[.int .i64 x, .int .i64 y]] w fun e w' => e = .returned (.tuple #[.int .i64 (plV (slL (a, b) (c, d)) (slC (a, b) (c, d)) (x, y)), .int .i64 (plC (slL (a, b) (c, d)) (slC (a, b) (c, d)) (x, y))]) ∧ Below w.heap.size w w' := by
  cases hp : isPt (x, y)
  · have e1 : plV (slL (a, b) (c, d)) (slC (a, b) (c, d)) (x, y) = 0 := by unfold plV; rw [hp]; rfl
    have e2 : plC (slL (a, b) (c, d)) (slC (a, b) (c, d)) (x, y) = 1 := by unfold plC; rw [hp]; rfl
    rw [e1, e2]
    clear e1 e2
    have hs20 : w.heap.size < w.heap.size + 1 + 1 := (by omega); have hs30 : w.heap.size < w.heap.size + 1 + 1 + 1 := (by omega); have hs31 : w.heap.size + 1 < w.heap.size + 1 + 1 + 1 := (by omega); have hs40 : w.heap.size < w.heap.size + 1 + 1 + 1 + 1 := (by omega); have hs41 : w.heap.size + 1 < w.heap.size + 1 + 1 + 1 + 1 := (by omega); have hs42 : w.heap.size + 1 + 1 < w.heap.size + 1 + 1 + 1 + 1 := (by omega)
    go_enter Try.func39, Try.ntmps39
    go_wp2_with (go_at_call 55; refine (l01Is_any _ _ _).mono ?_; rintro e wn ⟨rfl, hb⟩; first | (have h2 := after_call2 hb hcl hfr hlt (by ((repeat' (first | (with_reducible exact Below.refl _ _) | (with_reducible refine Below.alloc ?_ ?_ _) | (with_reducible refine Below.setCell ?_ ?_ _) | (with_reducible refine Below.drew ?_) | (with_reducible refine below_drewN ?_ _) | (with_reducible assumption) | (with_reducible refine below_after (by with_reducible assumption) ?_) | go_size)); done)); obtain ⟨hclx, hfrx, hltx, hsz⟩ := after_call hb; (try simp only [World.size_alloc, World.size_setCell, World.size_drew] at hclx hfrx hltx hsz); (try (have hszl := Nat.lt_of_succ_le hsz)); obtain ⟨hcl, hfr, hlt⟩ := h2) | (obtain ⟨hcl, hfr, hlt, hsz⟩ := after_call hb; (try simp only [World.size_alloc, World.size_setCell, World.size_drew] at hcl hfr hlt hsz)))
    go_ret2
    exact ⟨rfl, by (repeat' (first | (with_reducible exact Below.refl _ _) | (with_reducible refine Below.alloc ?_ ?_ _) | (with_reducible refine Below.setCell ?_ ?_ _) | (with_reducible refine Below.drew ?_) | (with_reducible refine below_drewN ?_ _) | (with_reducible assumption) | (with_reducible refine below_after (by with_reducible assumption) ?_) | go_size))⟩
  · rcases sl_cases (a, b) (c, d) with ⟨hc, _, _, _, h2, h3⟩ | ⟨hc, hn, _⟩
    · have hSP : ∀ w, Calls Try.prog 46 #[.agg #[.int .i64 a, .int .i64 b], .agg #[.int .i64 c, .int .i64 d]] w (RetPNC w (slL (a, b) (c, d)) (cnL (a, b) (c, d)) 0) := by
        intro w; have := l03Code_any a b c d w; rw [hc] at this; exact this
      rw [hc]
      exact spec_PlaceOnSail_some a b c d x y _ _ _ w hp rfl (by omega) h3 hSP
    · have e1 : plV (slL (a, b) (c, d)) (slC (a, b) (c, d)) (x, y) = 0 := by unfold plV; rw [hp, if_pos rfl, if_neg hc]
      have e2 : plC (slL (a, b) (c, d)) (slC (a, b) (c, d)) (x, y) = slC (a, b) (c, d) := by unfold plC; rw [hp, if_pos rfl, if_neg hc]
      rw [e1, e2]
      have hSP : ∀ w, Calls Try.prog 46 #[.agg #[.int .i64 a, .int .i64 b], .agg #[.int .i64 c, .int .i64 d]] w (RetPNC w (slL (a, b) (c, d)) (cnL (a, b) (c, d)) (slC (a, b) (c, d))) := fun w => l03Code_any a b c d w
      generalize slC (a, b) (c, d) = C at *
      have HSP := Lib.hid hSP
      have hc2 : (C == 0) = false := by simpa using hc
      have hc3 : ¬ C = 0 := hc
      have hc4 : (C != 0) = true := by simpa using hc
      clear e1 e2 hSP hn
      have hs20 : w.heap.size < w.heap.size + 1 + 1 := (by omega); have hs30 : w.heap.size < w.heap.size + 1 + 1 + 1 := (by omega); have hs31 : w.heap.size + 1 < w.heap.size + 1 + 1 + 1 := (by omega); have hs40 : w.heap.size < w.heap.size + 1 + 1 + 1 + 1 := (by omega); have hs41 : w.heap.size + 1 < w.heap.size + 1 + 1 + 1 + 1 := (by omega); have hs42 : w.heap.size + 1 + 1 < w.heap.size + 1 + 1 + 1 + 1 := (by omega)
      go_enter Try.func39, Try.ntmps39
      go_wp2_with (first | (go_at_call 55; refine (l01Is_any _ _ _).mono ?_; rintro e wn ⟨rfl, hb⟩; first | (have h2 := after_call2 hb hcl hfr hlt (by ((repeat' (first | (with_reducible exact Below.refl _ _) | (with_reducible refine Below.alloc ?_ ?_ _) | (with_reducible refine Below.setCell ?_ ?_ _) | (with_reducible refine Below.drew ?_) | (with_reducible refine below_drewN ?_ _) | (with_reducible assumption) | (with_reducible refine below_after (by with_reducible assumption) ?_) | go_size)); done)); obtain ⟨hclx, hfrx, hltx, hsz⟩ := after_call hb; (try simp only [World.size_alloc, World.size_setCell, World.size_drew] at hclx hfrx hltx hsz); (try (have hszl := Nat.lt_of_succ_le hsz)); obtain ⟨hcl, hfr, hlt⟩ := h2) | (obtain ⟨hcl, hfr, hlt, hsz⟩ := after_call hb; (try simp only [World.size_alloc, World.size_setCell, World.size_drew] at hcl hfr hlt hsz))) | (go_at_call 46; refine (HSP.out _).mono ?_; rintro e wn hr; obtain ⟨va, vn, vc, na, nm, nc, rfl, hb⟩ := retpnc_none hr; clear hr; first | (have h2 := after_call2 hb hcl hfr hlt (by ((repeat' (first | (with_reducible exact Below.refl _ _) | (with_reducible refine Below.alloc ?_ ?_ _) | (with_reducible refine Below.setCell ?_ ?_ _) | (with_reducible refine Below.drew ?_) | (with_reducible refine below_drewN ?_ _) | (with_reducible assumption) | (with_reducible refine below_after (by with_reducible assumption) ?_) | go_size)); done)); obtain ⟨hclx, hfrx, hltx, hsz⟩ := after_call hb; (try simp only [World.size_alloc, World.size_setCell, World.size_drew] at hclx hfrx hltx hsz); (try (have hszl := Nat.lt_of_succ_le hsz)); obtain ⟨hcl, hfr, hlt⟩ := h2) | (obtain ⟨hcl, hfr, hlt, hsz⟩ := after_call hb; (try simp only [World.size_alloc, World.size_setCell, World.size_drew] at hcl hfr hlt hsz))))
      go_ret2
      exact ⟨rfl, by (repeat' (first | (with_reducible exact Below.refl _ _) | (with_reducible refine Below.alloc ?_ ?_ _) | (with_reducible refine Below.setCell ?_ ?_ _) | (with_reducible refine Below.drew ?_) | (with_reducible refine below_drewN ?_ _) | (with_reducible assumption) | (with_reducible refine below_after (by with_reducible assumption) ?_) | go_size))⟩
end Go.Proofs.Ytjiaokcbhpmodaa
