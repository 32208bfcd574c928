/-
  What is demanded of fractions, by contract: returned, or panicked with one of the two errors; the model's code; sums, differences and neighbours (own work).
-/
import Derived.Test.YtohnmogejidpdabDoorFr
import Derived.Test.YtohnmogejidpdabDoorErr
import Derived.WalkSmall
namespace Go.Proofs.YtohnmogejidpdabDoor
open Go.ChangeShapes Go.WideShapes Go.ChangeAt Go.RowKit
set_option linter.unusedVariables false
set_option maxRecDepth 100000
set_option linter.unusedSimpArgs false
set_option maxRecDepth 100000

/-- Whether all are points, and whether all are fractions. -/
def allPt (ps : List (Int × Int)) : Bool := ps.all isPt
def allFr (ps : List (Int × Int)) : Bool := ps.all fun p => isFr p.1 p.2
theorem pts_of_frs {ps : List (Int × Int)} (h : allFr ps = true) : allPt ps = true := by
  unfold allFr at h
  unfold allPt
  rw [List.all_eq_true] at h ⊢
  intro p hp
  exact isFr_pt (h p hp)
set_option maxHeartbeats 1600000 in
theorem demand_p0 (ps : List (Int × Int)) (a0 a1 : Addr) (b off cap : Nat) (w : World) (hs : Snt w a0 a1) (hb : b < w.heap.size) (hmax : ps.length ≤ 140737488351232) (hc : PtCells w b off ps) (hn : allPt ps = false) :
    Calls Tryd.prog 32 #[.slice (some ⟨b, off, none⟩) ps.length cap] w fun e w' => e = pan a0 ∧ Below w.heap.size w w' := by
  have HA : Hid (∀ w, b < w.heap.size → PtCells w b off ps → Calls Tryd.prog 53 #[.slice (some ⟨b, off, none⟩) ps.length cap] w fun e w' => e = .returned (.bool false) ∧ Below w.heap.size w w') := by
    intro w hb hc
    have := arePoints_any ps b off cap w hb hmax hc
    unfold allPt at hn
    rw [hn] at this
    exact this
  have HC := Lib.hid hc
  have HS := Lib.hid hs
  clear hc hs hn
  go_enter Tryd.func32, Tryd.ntmps32
  go_wp2_with fail
  go_at_call 53
  refine (HA.out _ hb HC.out).mono ?_
  rintro e w1 ⟨rfl, hb1⟩
  have g0 := (HS.out.below hb1).c0
  go_wp2_with fail
  exact ⟨rfl, rfl, hb1⟩
set_option maxHeartbeats 1600000 in
theorem demand_in (ps : List (Int × Int)) (a0 a1 : Addr) (b off cap : Nat) (w : World) (hs : Snt w a0 a1) (hb : b < w.heap.size) (hmax : ps.length ≤ 140737488351232) (hc : PtCells w b off ps) (hy : allPt ps = true) :
    Calls Tryd.prog 32 #[.slice (some ⟨b, off, none⟩) ps.length cap] w fun e w' => e = (bif allFr ps then .returned (.tuple #[]) else pan a1) ∧ Below w.heap.size w w' := by
  have HA : Hid (∀ n w, n = ps.length → b < w.heap.size → PtCells w b off ps → Calls Tryd.prog 53 #[.slice (some ⟨b, off, none⟩) n cap] w fun e w' => e = .returned (.bool true) ∧ Below w.heap.size w w') := by
    intro n w hn hb hc
    have := arePoints_any ps b off cap w hb hmax hc
    unfold allPt at hy
    rw [hy, ← hn] at this
    exact this
  obtain ⟨n, hn⟩ : ∃ n, n = ps.length := ⟨_, rfl⟩
  rw [← hn] at hmax ⊢
  have HN := Lib.hid hn
  have HC := Lib.hid hc
  have HS := Lib.hid hs
  clear hc hs hy hn
  go_enter Tryd.func32, Tryd.ntmps32
  go_wp2_with fail
  go_at_call 53
  refine (HA.out _ _ HN.out hb HC.out).mono ?_
  rintro e w1 ⟨rfl, hb1⟩
  have HB1 := Lib.hid hb1
  have hb2 : b < w1.heap.size := Nat.lt_of_lt_of_le hb hb1.size
  clear hb1
  go_wp2_with fail
  go_loopw [10] (fun i wr => ∃ k : Nat, k ≤ n ∧ i = .int .i64 k ∧ allFr (ps.take k) = true ∧ Below w1.heap.size w1 wr) (fun i _ => n - (intOf i).toNat)
  case atStart => exact ⟨0, by omega, rfl, rfl, Below.refl _ _⟩
  case round =>
    obtain ⟨k, hk, rfl, hall, hbel⟩ := hrel
    have HA := Lib.hid hall
    clear hall
    by_cases hlt : k < n
    · have hk' : k < ps.length := by rw [← HN.out]; exact hlt
      have h2 := HC.out k hk'
      obtain ⟨x, y, hxy⟩ : ∃ x y, ps.getD k (0, 0) = (x, y) := ⟨_, _, rfl⟩
      rw [hxy] at h2
      have hc0 := (hbel.cell (p := ⟨b, off + k * 2, none⟩) hb2).trans ((HB1.out.cell (p := ⟨b, off + k * 2, none⟩) hb).trans h2.1)
      have hc1 := (hbel.cell (p := ⟨b, off + k * 2 + 1, none⟩) hb2).trans ((HB1.out.cell (p := ⟨b, off + k * 2 + 1, none⟩) hb).trans h2.2)
      have hget : ps[k] = (x, y) := by rw [← hxy]; simp [List.getD, hk']
      have HT : Hid (allFr (ps.take (k + 1)) = isFr x y) := by
        show allFr (ps.take (k + 1)) = isFr x y
        have := HA.out
        unfold allFr at this ⊢
        rw [List.take_succ_eq_append_getElem hk', List.all_append, this, hget]; simp
      have HG : Hid ((x, y) ∈ ps) := by
        show (x, y) ∈ ps
        rw [← hget]; exact List.getElem_mem hk'
      have HBL := Lib.hid hbel
      have hsz := hbel.size
      clear hxy h2 hget hk' hbel
      cases hp : isFr x y
      · go_wp2_with fail
        go_at_call 54
        refine (IsFraction_any _ _ _).mono ?_
        rintro e w2 ⟨rfl, hb3⟩
        have HB2 : Hid (Below w.heap.size w w2) := below_after hb3 (Below.alloc (below_after HBL.out HB1.out) (by have := HB1.out.size; omega) _)
        have g1 : w2.cell? ⟨1, 0, none⟩ = some (er a1) := (HS.out.below HB2.out).c1
        clear hb3 hc0 hc1
        go_wp2_with fail
        have hF : allFr ps = false := by
          unfold allFr
          rw [List.all_eq_false]
          exact ⟨_, HG.out, by rw [hp]; simp⟩
        rw [hF]
        exact ⟨rfl, rfl, HB2.out⟩
      · go_wp2_with fail
        go_at_call 54
        refine (IsFraction_any _ _ _).mono ?_
        rintro e w2 ⟨rfl, hb3⟩
        have HB2 : Hid (Below w1.heap.size w1 w2) := below_after hb3 (Below.alloc HBL.out (by omega) _)
        clear hb3 hc0 hc1
        go_wp2_with fail
        go_roundw
        case rel => exact ⟨k + 1, by omega, by go_num, by rw [HT.out, hp], HB2.out⟩
        case measure => simp [intOf]; omega
    · have hge : n ≤ k := by omega
      clear hlt
      go_wp2
      have hF : allFr ps = true := by
        have := HA.out
        rw [List.take_of_length_le (by rw [← HN.out]; exact hge)] at this
        exact this
      rw [hF]
      go_end0
      exact ⟨rfl, below_after hbel HB1.out⟩
/-- How what is demanded ends. -/
def demE (a0 a1 : Addr) (ps : List (Int × Int)) : Ending := bif allPt ps then (bif allFr ps then .returned (.tuple #[]) else pan a1) else pan a0
theorem demand_any (ps : List (Int × Int)) (a0 a1 : Addr) (b off cap : Nat) (w : World) (hs : Snt w a0 a1) (hb : b < w.heap.size) (hmax : ps.length ≤ 140737488351232) (hc : PtCells w b off ps) :
    Calls Tryd.prog 32 #[.slice (some ⟨b, off, none⟩) ps.length cap] w fun e w' => e = demE a0 a1 ps ∧ Below w.heap.size w w' := by
  unfold demE
  cases h : allPt ps
  · exact demand_p0 ps a0 a1 b off cap w hs hb hmax hc h
  · exact demand_in ps a0 a1 b off cap w hs hb hmax hc h
theorem ptCells1 {W : World} {b : Nat} {x0 y0 : Int} (c0 : W.cell? ⟨b, 0, none⟩ = some (.int .i64 x0)) (d0 : W.cell? ⟨b, 1, none⟩ = some (.int .i64 y0)) : PtCells W b 0 [(x0, y0)] := by
  intro i hi
  obtain rfl : i = 0 := by simp at hi; omega
  exact ⟨by simpa using c0, by simpa using d0⟩
theorem ptCells2 {W : World} {b : Nat} {x0 y0 x1 y1 : Int} (c0 : W.cell? ⟨b, 0, none⟩ = some (.int .i64 x0)) (d0 : W.cell? ⟨b, 1, none⟩ = some (.int .i64 y0)) (c1 : W.cell? ⟨b, 2, none⟩ = some (.int .i64 x1)) (d1 : W.cell? ⟨b, 3, none⟩ = some (.int .i64 y1)) : PtCells W b 0 [(x0, y0), (x1, y1)] := by
  intro i hi
  have : i = 0 ∨ i = 1 := by simp at hi; omega
  rcases this with rfl | rfl
  · exact ⟨by simpa using c0, by simpa using d0⟩
  · exact ⟨by simpa using c1, by simpa using d1⟩
theorem ptCells3 {W : World} {b : Nat} {x0 y0 x1 y1 x2 y2 : Int} (c0 : W.cell? ⟨b, 0, none⟩ = some (.int .i64 x0)) (d0 : W.cell? ⟨b, 1, none⟩ = some (.int .i64 y0)) (c1 : W.cell? ⟨b, 2, none⟩ = some (.int .i64 x1)) (d1 : W.cell? ⟨b, 3, none⟩ = some (.int .i64 y1)) (c2 : W.cell? ⟨b, 4, none⟩ = some (.int .i64 x2)) (d2 : W.cell? ⟨b, 5, none⟩ = some (.int .i64 y2)) : PtCells W b 0 [(x0, y0), (x1, y1), (x2, y2)] := by
  intro i hi
  have : i = 0 ∨ i = 1 ∨ i = 2 := by simp at hi; omega
  rcases this with rfl | rfl | rfl
  · exact ⟨by simpa using c0, by simpa using d0⟩
  · exact ⟨by simpa using c1, by simpa using d1⟩
  · exact ⟨by simpa using c2, by simpa using d2⟩
def frE (ps : List (Int × Int)) : Int := bif allPt ps then (bif allFr ps then 0 else 2) else 1
set_option maxHeartbeats 1600000 in
theorem l05Code_any (ps : List (Int × Int)) (b off cap : Nat) (w : World) (hb : b < w.heap.size) (hmax : ps.length ≤ 140737488351232) (hc : PtCells w b off ps) :
    Calls Tryd.prog 22 #[.slice (some ⟨b, off, none⟩) ps.length cap] w fun e w' => e = .returned (.int .i64 (frE ps)) ∧ Below w.heap.size w w' := by
  unfold frE
  have hA := l01Code_any ps b off cap
  cases hy : allPt ps
  · have HA : Hid (∀ w, b < w.heap.size → PtCells w b off ps → Calls Tryd.prog 45 #[.slice (some ⟨b, off, none⟩) ps.length cap] w fun e w' => e = .returned (.int .i64 1) ∧ Below w.heap.size w w') := by
      intro w hb hc
      have := hA w hb hmax hc
      unfold allPt at hy
      rw [hy] at this
      exact this
    have HC := Lib.hid hc
    clear hc hy hA
    go_enter Tryd.func22, Tryd.ntmps22
    go_wp2_with fail
    go_at_call 45
    refine (HA.out _ hb HC.out).mono ?_
    rintro e w1 ⟨rfl, hb1⟩
    go_wp2_with fail
    go_ret
    exact ⟨rfl, hb1⟩
  · have HA : Hid (∀ n w, n = ps.length → b < w.heap.size → PtCells w b off ps → Calls Tryd.prog 45 #[.slice (some ⟨b, off, none⟩) n cap] w fun e w' => e = .returned (.int .i64 0) ∧ Below w.heap.size w w') := by
      intro n w hn hb hc
      have := hA w hb hmax hc
      unfold allPt at hy
      rw [hy, ← hn] at this
      exact this
    obtain ⟨n, hn⟩ : ∃ n, n = ps.length := ⟨_, rfl⟩
    rw [← hn] at hmax ⊢
    have HN := Lib.hid hn
    have HC := Lib.hid hc
    clear hc hy hn hA
    go_enter Tryd.func22, Tryd.ntmps22
    go_wp2_with fail
    go_at_call 45
    refine (HA.out _ _ HN.out hb HC.out).mono ?_
    rintro e w1 ⟨rfl, hb1⟩
    have HB1 := Lib.hid hb1
    have hb2 : b < w1.heap.size := Nat.lt_of_lt_of_le hb hb1.size
    clear hb1
    go_wp2_with fail
    go_loopw [4] (fun i wr => ∃ k : Nat, k ≤ n ∧ i = .int .i64 k ∧ allFr (ps.take k) = true ∧ Below w1.heap.size w1 wr) (fun i _ => n - (intOf i).toNat)
    case atStart => exact ⟨0, by omega, rfl, rfl, Below.refl _ _⟩
    case round =>
      obtain ⟨k, hk, rfl, hall, hbel⟩ := hrel
      have HA := Lib.hid hall
      clear hall
      by_cases hlt : k < n
      · have hk' : k < ps.length := by rw [← HN.out]; exact hlt
        have h2 := HC.out k hk'
        obtain ⟨x, y, hxy⟩ : ∃ x y, ps.getD k (0, 0) = (x, y) := ⟨_, _, rfl⟩
        rw [hxy] at h2
        have hc0 := (hbel.cell (p := ⟨b, off + k * 2, none⟩) hb2).trans ((HB1.out.cell (p := ⟨b, off + k * 2, none⟩) hb).trans h2.1)
        have hc1 := (hbel.cell (p := ⟨b, off + k * 2 + 1, none⟩) hb2).trans ((HB1.out.cell (p := ⟨b, off + k * 2 + 1, none⟩) hb).trans h2.2)
        have hget : ps[k] = (x, y) := by rw [← hxy]; simp [List.getD, hk']
        have HT : Hid (allFr (ps.take (k + 1)) = isFr x y) := by
          show allFr (ps.take (k + 1)) = isFr x y
          have := HA.out
          unfold allFr at this ⊢
          rw [List.take_succ_eq_append_getElem hk', List.all_append, this, hget]; simp
        have HG : Hid ((x, y) ∈ ps) := by
          show (x, y) ∈ ps
          rw [← hget]; exact List.getElem_mem hk'
        have HBL := Lib.hid hbel
        have hsz := hbel.size
        clear hxy h2 hget hk' hbel
        cases hp : isFr x y
        · go_wp2_with fail
          go_at_call 46
          refine (l05Is_any _ _ _).mono ?_
          rintro e w2 ⟨rfl, hb3⟩
          have HB2 : Hid (Below w.heap.size w w2) := below_after hb3 (below_after HBL.out HB1.out)
          clear hb3 hc0 hc1
          go_wp2_with fail
          have hF : allFr ps = false := by
            unfold allFr
            rw [List.all_eq_false]
            exact ⟨_, HG.out, by rw [hp]; simp⟩
          rw [hF]
          go_ret
          exact ⟨rfl, HB2.out⟩
        · go_wp2_with fail
          go_at_call 46
          refine (l05Is_any _ _ _).mono ?_
          rintro e w2 ⟨rfl, hb3⟩
          have HB2 : Hid (Below w1.heap.size w1 w2) := below_after hb3 HBL.out
          clear hb3 hc0 hc1
          go_wp2_with fail
          go_roundw
          case rel => exact ⟨k + 1, by omega, by go_num, by rw [HT.out, hp], HB2.out⟩
          case measure => simp [intOf]; omega
      · have hge : n ≤ k := by omega
        clear hlt
        go_wp2
        have hF : allFr ps = true := by
          have := HA.out
          rw [List.take_of_length_le (by rw [← HN.out]; exact hge)] at this
          exact this
        rw [hF]
        go_ret
        exact ⟨rfl, below_after hbel HB1.out⟩
theorem sumOf_any (x0 y0 x1 y1 : Int) (w : World) (h0 : Bn x0) (h1 : Bn y0) (h2 : Bn x1) (h3 : Bn y1) :
    Calls Tryd.prog 68 #[.agg #[.int .i64 x0, .int .i64 y0], .agg #[.int .i64 x1, .int .i64 y1]] w fun e w' => e = .returned (.agg #[.int .i64 (x0 + x1), .int .i64 (y0 + y1)]) ∧ Below w.heap.size w w' := by
  have HC : Hid (∀ w, Calls Tryd.prog 59 #[.agg #[.int .i64 x0, .int .i64 y0], .agg #[.int .i64 x1, .int .i64 y1], .int .i64 1] w fun e w' => e = .returned (.agg #[.int .i64 (x0 + x1), .int .i64 (y0 + y1)]) ∧ Below w.heap.size w w') := fun w => by
    have := plusTimes_any x0 y0 x1 y1 1 w h0 h1 h2 h3 ⟨by decide, by decide⟩
    rw [Int.one_mul, Int.one_mul] at this
    exact this
  clear h0 h1 h2 h3
  have hs20 : w.heap.size < w.heap.size + 1 + 1 := (by omega); have hs30 : w.heap.size < w.heap.size + 1 + 1 + 1 := (by omega); have hs31 : w.heap.size + 1 < w.heap.size + 1 + 1 + 1 := (by omega); have hs40 : w.heap.size < w.heap.size + 1 + 1 + 1 + 1 := (by omega); have hs41 : w.heap.size + 1 < w.heap.size + 1 + 1 + 1 + 1 := (by omega); have hs42 : w.heap.size + 1 + 1 < w.heap.size + 1 + 1 + 1 + 1 := (by omega)
  go_enter Tryd.func68, Tryd.ntmps68
  go_wp2_with (go_at_call 59; refine (HC.out _).mono ?_; rintro e wn ⟨rfl, hb⟩; first | (have h2 := after_call2 hb hcl hfr hlt (by ((repeat' (first | (with_reducible exact Below.refl _ _) | (with_reducible refine Below.alloc ?_ ?_ _) | (with_reducible refine Below.setCell ?_ ?_ _) | (with_reducible refine Below.drew ?_) | (with_reducible refine below_drewN ?_ _) | (with_reducible assumption) | (with_reducible refine below_after (by with_reducible assumption) ?_) | go_size)); done)); obtain ⟨hclx, hfrx, hltx, hsz⟩ := after_call hb; (try simp only [World.size_alloc, World.size_setCell, World.size_drew] at hclx hfrx hltx hsz); (try (have hszl := Nat.lt_of_succ_le hsz)); obtain ⟨hcl, hfr, hlt⟩ := h2) | (obtain ⟨hcl, hfr, hlt, hsz⟩ := after_call hb; (try simp only [World.size_alloc, World.size_setCell, World.size_drew] at hcl hfr hlt hsz)))
  refine bodyPost_ret (v := .agg #[.int .i64 (x0 + x1), .int .i64 (y0 + y1)]) (by simp (maxDischargeDepth := 8) [results, Tryd.results68, go_sem, *]) rfl ?_
  exact ⟨rfl, by (repeat' (first | (with_reducible exact Below.refl _ _) | (with_reducible refine Below.alloc ?_ ?_ _) | (with_reducible refine Below.setCell ?_ ?_ _) | (with_reducible refine Below.drew ?_) | (with_reducible refine below_drewN ?_ _) | (with_reducible assumption) | (with_reducible refine below_after (by with_reducible assumption) ?_) | go_size))⟩
theorem bn_tn_sub {a b : Int} (h : Bn a) (k : Bn b) : Tn (a - b) := by unfold Bn at *; unfold Tn; omega
theorem bn_tn_add {a b : Int} (h : Bn a) (k : Bn b) : Tn (a + b) := by unfold Bn at *; unfold Tn; omega
end Go.Proofs.YtohnmogejidpdabDoor
