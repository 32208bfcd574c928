/-
  Contracts of chapter 1's small functions on points (own work): what each returns, and that it leaves all memory that was there as it was.
-/
import Derived.Test.YtoenlpkphekbnaaRows
import Derived.WalkKit
import Derived.ProofKit
import Derived.OpenShut
import Derived.Handy
import Derived.BigQuiet
import Derived.Deep.QuietTactic
import Derived.Deep.RegionHeld3
import Derived.Lib.Hide
namespace Go.Proofs.Ytoenlpkphekbnaa
open Go.ChangeShapes Go.WideShapes Go.ChangeAt Go.RowKit
set_option linter.unusedSimpArgs false
set_option linter.unusedVariables false
set_option maxRecDepth 100000

def crd (n : Int) : Bool := decide (-1000000 ≤ n) && decide (n ≤ 1000000)
theorem crd_iff {n : Int} : crd n = true ↔ -1000000 ≤ n ∧ n ≤ 1000000 := by simp [crd]
def isPt (p : Int × Int) : Bool := crd p.1 && crd p.2

/-- All memory that was there reads as it did. -/
theorem bcell {W w1 : World} (hb : Below W.heap.size W w1) : (∀ b o, b < W.heap.size → w1.cell? ⟨b, o, none⟩ = W.cell? ⟨b, o, none⟩) ∧ (∀ b o, b < W.heap.size → w1.frozen? ⟨b, o, none⟩ = W.frozen? ⟨b, o, none⟩) :=
  ⟨fun b o h => hb.cell (p := ⟨b, o, none⟩) h, fun b o h => hb.frozen (p := ⟨b, o, none⟩) h⟩

theorem below_after {a w w' : World} (k : Below w.heap.size w w') (h : Below a.heap.size a w) : Below a.heap.size a w' := h.trans (k.mono h.size)

theorem below_drewN {B : Nat} {a w : World} (h : Below B a w) (n : Nat) : Below B a (w.drewN n) := ⟨h.os, h.tape, h.output, h.size, h.block⟩

/-- What a call that leaves old memory alone says of it, in the walk's words. -/
theorem after_call {W w1 : World} (hb : Below W.heap.size W w1) : (∀ b o, b < W.heap.size → w1.cell? ⟨b, o, none⟩ = W.cell? ⟨b, o, none⟩) ∧ (∀ b o, b < W.heap.size → w1.frozen? ⟨b, o, none⟩ = W.frozen? ⟨b, o, none⟩) ∧ (∀ b, b < W.heap.size → b < w1.heap.size) ∧ W.heap.size ≤ w1.heap.size :=
  ⟨(bcell hb).1, (bcell hb).2, fun b h => Nat.lt_of_lt_of_le h hb.size, hb.size⟩

/-- The same, said of the world in which the blocks of the caller's own were last known. -/
theorem after_call2 {W0 w1 W wn : World} {n : Nat} (hb : Below W.heap.size W wn) (hcl : ∀ b o, b < n → w1.cell? ⟨b, o, none⟩ = W0.cell? ⟨b, o, none⟩) (hfr : ∀ b o, b < n → w1.frozen? ⟨b, o, none⟩ = W0.frozen? ⟨b, o, none⟩) (hlt : ∀ b, b < n → b < w1.heap.size) (hg : Below w1.heap.size w1 W) :
    (∀ b o, b < n → wn.cell? ⟨b, o, none⟩ = W0.cell? ⟨b, o, none⟩) ∧ (∀ b o, b < n → wn.frozen? ⟨b, o, none⟩ = W0.frozen? ⟨b, o, none⟩) ∧ (∀ b, b < n → b < wn.heap.size) := by
  refine ⟨fun b o h => ?_, fun b o h => ?_, fun b h => ?_⟩
  · rw [(bcell hb).1 b o (Nat.lt_of_lt_of_le (hlt b h) hg.size), (bcell hg).1 b o (hlt b h), hcl b o h]
  · rw [(bcell hb).2 b o (Nat.lt_of_lt_of_le (hlt b h) hg.size), (bcell hg).2 b o (hlt b h), hfr b o h]
  · exact Nat.lt_of_lt_of_le (hlt b h) (Nat.le_trans hg.size hb.size)

/-- The points' cells, from an address on. -/
def PtCells (w : World) (b off : Nat) (ps : List (Int × Int)) : Prop := ∀ i, i < ps.length → w.cell? ⟨b, off + i * 2, none⟩ = some (.int .i64 (ps.getD i (0, 0)).1) ∧ w.cell? ⟨b, off + i * 2 + 1, none⟩ = some (.int .i64 (ps.getD i (0, 0)).2)

/-- Two points, compared by ==. -/
theorem eq_arr2 (d : Nat) (x0 y0 x1 y1 : Int) (w : World) : (Op.equalIn (d + 2) 30 (.agg #[.int .i64 x0, .int .i64 y0]) (.agg #[.int .i64 x1, .int .i64 y1])).run Try.prog w = .ok (x0 == x1 && y0 == y1) w := by
  have hs : ∀ w : World, (sizeOf 2).run Try.prog w = .ok 1 w := fun _ => by kernel_rfl
  have p0 : ∀ (a b : Value) (w : World), (part 2 #[a, b] 0).run Try.prog w = .ok a w := fun _ _ _ => by kernel_rfl
  have p1 : ∀ (a b : Value) (w : World), (part 2 #[a, b] 1).run Try.prog w = .ok b w := fun _ _ _ => by kernel_rfl
  have e1 : ∀ (a b : Int) (w : World), (Op.equalIn (d + 1) 2 (.int .i64 a) (.int .i64 b)).run Try.prog w = .ok (a == b) w := fun a b w => run_equalIn_int w d 2 .i64 .i64 a b Try.underlying2
  rw [show d + 2 = (d + 1) + 1 from rfl]
  rw [Op.equalIn]
  simp only [Sem.run_bind, run_underlying Try.underlying30, Result.andThen_ok, hs, Std.Legacy.Range.forIn_eq_forIn_range', Std.Legacy.Range.size]
  simp only [show List.range' 0 2 = [0, 1] from rfl, List.forIn_cons, List.forIn_nil, Nat.zero_mul, Nat.one_mul, Sem.run_bind, p0, p1, e1, Result.andThen_ok]
  cases h0 : (x0 == x1) <;> cases h1 : (y0 == y1) <;> simp [go_sem, p0, p1, e1, h0, h1]
theorem eq_pt (x0 y0 x1 y1 : Int) (w : World) : (Op.equalIn 10000 30 (.agg #[.int .i64 x0, .int .i64 y0]) (.agg #[.int .i64 x1, .int .i64 y1])).run Try.prog w = .ok (x0 == x1 && y0 == y1) w := eq_arr2 9998 x0 y0 x1 y1 w

theorem isCoord_any (n : Int) (w : World) : Calls Try.prog 101 #[.int .i64 n] w fun e w' => e = .returned (.bool (crd n)) ∧ w = w' := by
  by_cases h1 : -1000000 ≤ n
  · by_cases h2 : n ≤ 1000000
    · go_enter Try.func101, Try.ntmps101
      go_wp2
      go_ret
      exact ⟨by simp [crd, h1, h2], rfl⟩
    · go_enter Try.func101, Try.ntmps101
      go_wp2
      go_ret
      exact ⟨by simp [crd, h1, h2], rfl⟩
  · have hd : decide (-1000000 ≤ n) = false := by simpa using h1
    go_enter Try.func101, Try.ntmps101
    go_wp2
    go_ret
    exact ⟨by simp [crd, hd], rfl⟩
theorem fits_any (n : Int) (w : World) : Calls Try.prog 103 #[.int .i64 n] w fun e w' => e = .returned (.bool (crd n)) ∧ w = w' := by
  by_cases h1 : -1000000 ≤ n
  · by_cases h2 : n ≤ 1000000
    · go_enter Try.func103, Try.ntmps103
      go_wp2
      go_ret
      exact ⟨by simp [crd, h1, h2], rfl⟩
    · go_enter Try.func103, Try.ntmps103
      go_wp2
      go_ret
      exact ⟨by simp [crd, h1, h2], rfl⟩
  · have hd : decide (-1000000 ≤ n) = false := by simpa using h1
    go_enter Try.func103, Try.ntmps103
    go_wp2
    go_ret
    exact ⟨by simp [crd, hd], rfl⟩
theorem isPoint_any (x y : Int) (w : World) : Calls Try.prog 84 #[.agg #[.int .i64 x, .int .i64 y]] w fun e w' => e = .returned (.bool (isPt (x, y))) ∧ Below w.heap.size w w' := by
  cases hx : crd x
  · go_enter Try.func84, Try.ntmps84
    go_wp2_with (go_at_call 101; refine (isCoord_any _ _).mono ?_; rintro e w' ⟨rfl, rfl⟩)
    go_ret
    exact ⟨by simp [isPt, hx], by go_grown⟩
  · go_enter Try.func84, Try.ntmps84
    go_wp2_with (go_at_call 101; refine (isCoord_any _ _).mono ?_; rintro e w' ⟨rfl, rfl⟩)
    go_ret
    exact ⟨by simp [isPt, hx], by go_grown⟩
theorem l01Is_any (x y : Int) (w : World) : Calls Try.prog 95 #[.agg #[.int .i64 x, .int .i64 y]] w fun e w' => e = .returned (.bool (isPt (x, y))) ∧ Below w.heap.size w w' := by
  cases hx : crd x
  · go_enter Try.func95, Try.ntmps95
    go_wp2_with (go_at_call 103; refine (fits_any _ _).mono ?_; rintro e w' ⟨rfl, rfl⟩)
    go_ret
    exact ⟨by simp [isPt, hx], by go_grown⟩
  · go_enter Try.func95, Try.ntmps95
    go_wp2_with (go_at_call 103; refine (fits_any _ _).mono ?_; rintro e w' ⟨rfl, rfl⟩)
    go_ret
    exact ⟨by simp [isPt, hx], by go_grown⟩
theorem arePoints_any (ps : List (Int × Int)) (b off cap : Nat) (w : World) (hb : b < w.heap.size) (hmax : ps.length ≤ 140737488351232) (hc : PtCells w b off ps) :
    Calls Try.prog 79 #[.slice (some ⟨b, off, none⟩) ps.length cap] w fun e w' => e = .returned (.bool (ps.all isPt)) ∧ Below w.heap.size w w' := by
  obtain ⟨n, hn⟩ : ∃ n, n = ps.length := ⟨_, rfl⟩
  rw [← hn] at hmax ⊢
  have HN := Lib.hid hn
  clear hn
  have HC := Lib.hid hc
  clear hc
  go_enter Try.func79, Try.ntmps79
  go_wp2
  go_loopw [7] (fun i wr => ∃ k : Nat, k ≤ n ∧ i = .int .i64 k ∧ (ps.take k).all isPt = true ∧ Below w.heap.size w wr) (fun i _ => n - (intOf i).toNat)
  case atStart => exact ⟨0, by omega, rfl, rfl, Below.refl _ _⟩
  case round =>
    obtain ⟨k, hk, rfl, hall, hbel⟩ := hrel
    have HA := Lib.hid hall
    clear hall
    by_cases hlt : k < n
    · have hk' : k < ps.length := by rw [← HN.out]; exact hlt
      have h2 := HC.out k hk'
      obtain ⟨x, y, hxy⟩ : ∃ x y, ps.getD k (0, 0) = (x, y) := ⟨_, _, rfl⟩
      rw [hxy] at h2
      have hc0 := (hbel.cell (p := ⟨b, off + k * 2, none⟩) hb).trans h2.1
      have hc1 := (hbel.cell (p := ⟨b, off + k * 2 + 1, none⟩) hb).trans h2.2
      have hget : ps[k] = (x, y) := by rw [← hxy]; simp [List.getD, hk']
      have HT : Hid ((ps.take (k + 1)).all isPt = isPt (x, y)) := by
        show (ps.take (k + 1)).all isPt = isPt (x, y)
        rw [List.take_succ_eq_append_getElem hk', List.all_append, HA.out, hget]; simp
      have HG : Hid ((x, y) ∈ ps) := by
        show (x, y) ∈ ps
        rw [← hget]; exact List.getElem_mem hk'
      clear hxy h2 hget hk'
      cases hp : isPt (x, y)
      · go_wp2_with (go_at_call 84; refine (isPoint_any _ _ _).mono ?_; rintro e w' ⟨rfl, hb1⟩)
        go_ret
        refine ⟨?_, ?_⟩
        · have : ps.all isPt = false := by
            rw [List.all_eq_false]
            exact ⟨_, HG.out, by rw [hp]; simp⟩
          rw [this]; rfl
        · have hsz := hbel.size
          exact below_after hb1 (by go_grown)
      · go_wp2_with (go_at_call 84; refine (isPoint_any _ _ _).mono ?_; rintro e w' ⟨rfl, hb1⟩)
        go_roundw
        case rel => exact ⟨k + 1, by omega, by go_num, by rw [HT.out, hp], below_after hb1 (by have hsz := hbel.size; go_grown)⟩
        case measure => simp [intOf]; omega
    · have hge : n ≤ k := by omega
      clear hlt
      go_wp2
      go_ret
      refine ⟨?_, hbel⟩
      have := HA.out
      rw [List.take_of_length_le (by rw [← HN.out]; exact hge)] at this
      rw [this]; rfl
theorem l01Code_any (ps : List (Int × Int)) (b off cap : Nat) (w : World) (hb : b < w.heap.size) (hmax : ps.length ≤ 140737488351232) (hc : PtCells w b off ps) :
    Calls Try.prog 81 #[.slice (some ⟨b, off, none⟩) ps.length cap] w fun e w' => e = .returned (.int .i64 (bif ps.all isPt then 0 else 1)) ∧ Below w.heap.size w w' := by
  obtain ⟨n, hn⟩ : ∃ n, n = ps.length := ⟨_, rfl⟩
  rw [← hn] at hmax ⊢
  have HN := Lib.hid hn
  clear hn
  have HC := Lib.hid hc
  clear hc
  go_enter Try.func81, Try.ntmps81
  go_wp2
  go_loopw [3] (fun i wr => ∃ k : Nat, k ≤ n ∧ i = .int .i64 k ∧ (ps.take k).all isPt = true ∧ Below w.heap.size w wr) (fun i _ => n - (intOf i).toNat)
  case atStart => exact ⟨0, by omega, rfl, rfl, Below.refl _ _⟩
  case round =>
    obtain ⟨k, hk, rfl, hall, hbel⟩ := hrel
    have HA := Lib.hid hall
    clear hall
    by_cases hlt : k < n
    · have hk' : k < ps.length := by rw [← HN.out]; exact hlt
      have h2 := HC.out k hk'
      obtain ⟨x, y, hxy⟩ : ∃ x y, ps.getD k (0, 0) = (x, y) := ⟨_, _, rfl⟩
      rw [hxy] at h2
      have hc0 := (hbel.cell (p := ⟨b, off + k * 2, none⟩) hb).trans h2.1
      have hc1 := (hbel.cell (p := ⟨b, off + k * 2 + 1, none⟩) hb).trans h2.2
      have hget : ps[k] = (x, y) := by rw [← hxy]; simp [List.getD, hk']
      have HT : Hid ((ps.take (k + 1)).all isPt = isPt (x, y)) := by
        show (ps.take (k + 1)).all isPt = isPt (x, y)
        rw [List.take_succ_eq_append_getElem hk', List.all_append, HA.out, hget]; simp
      have HG : Hid ((x, y) ∈ ps) := by
        show (x, y) ∈ ps
        rw [← hget]; exact List.getElem_mem hk'
      clear hxy h2 hget hk'
      cases hp : isPt (x, y)
      · go_wp2_with (go_at_call 95; refine (l01Is_any _ _ _).mono ?_; rintro e w' ⟨rfl, hb1⟩)
        go_ret
        refine ⟨?_, ?_⟩
        · have : ps.all isPt = false := by
            rw [List.all_eq_false]
            exact ⟨_, HG.out, by rw [hp]; simp⟩
          rw [this]; rfl
        · have hsz := hbel.size
          exact below_after hb1 (by go_grown)
      · go_wp2_with (go_at_call 95; refine (l01Is_any _ _ _).mono ?_; rintro e w' ⟨rfl, hb1⟩)
        go_roundw
        case rel => exact ⟨k + 1, by omega, by go_num, by rw [HT.out, hp], below_after hb1 (by have hsz := hbel.size; go_grown)⟩
        case measure => simp [intOf]; omega
    · have hge : n ≤ k := by omega
      clear hlt
      go_wp2
      go_ret
      refine ⟨?_, hbel⟩
      have := HA.out
      rw [List.take_of_length_le (by rw [← HN.out]; exact hge)] at this
      rw [this]; rfl
theorem arePoints2_yes (x0 y0 x1 y1 : Int) (b cap : Nat) (w : World) (hb : b < w.heap.size) (c0 : w.cell? ⟨b, 0, none⟩ = some (.int .i64 x0)) (d0 : w.cell? ⟨b, 1, none⟩ = some (.int .i64 y0)) (c1 : w.cell? ⟨b, 2, none⟩ = some (.int .i64 x1)) (d1 : w.cell? ⟨b, 3, none⟩ = some (.int .i64 y1)) (k0 : isPt (x0, y0) = true) (k1 : isPt (x1, y1) = true) :
    Calls Try.prog 79 #[.slice (some ⟨b, 0, none⟩) 2 cap] w fun e w' => e = .returned (.bool true) ∧ Below w.heap.size w w' := by
  have hp : PtCells w b 0 [(x0, y0), (x1, y1)] := by
    intro i hi
    have : i = 0 ∨ i = 1 := by simp at hi; omega
    rcases this with rfl | rfl
    · exact ⟨by simpa using c0, by simpa using d0⟩
    · exact ⟨by simpa using c1, by simpa using d1⟩
  refine (arePoints_any [(x0, y0), (x1, y1)] b 0 cap w hb (by simp) hp).mono fun e w' ⟨he, hw⟩ => ⟨by rw [he]; simp [k0, k1], hw⟩
theorem arePoints2_no (x0 y0 x1 y1 : Int) (b cap : Nat) (w : World) (hb : b < w.heap.size) (c0 : w.cell? ⟨b, 0, none⟩ = some (.int .i64 x0)) (d0 : w.cell? ⟨b, 1, none⟩ = some (.int .i64 y0)) (c1 : w.cell? ⟨b, 2, none⟩ = some (.int .i64 x1)) (d1 : w.cell? ⟨b, 3, none⟩ = some (.int .i64 y1)) (hn : (isPt (x0, y0) && isPt (x1, y1)) = false) :
    Calls Try.prog 79 #[.slice (some ⟨b, 0, none⟩) 2 cap] w fun e w' => e = .returned (.bool false) ∧ Below w.heap.size w w' := by
  have hp : PtCells w b 0 [(x0, y0), (x1, y1)] := by
    intro i hi
    have : i = 0 ∨ i = 1 := by simp at hi; omega
    rcases this with rfl | rfl
    · exact ⟨by simpa using c0, by simpa using d0⟩
    · exact ⟨by simpa using c1, by simpa using d1⟩
  refine (arePoints_any [(x0, y0), (x1, y1)] b 0 cap w hb (by simp) hp).mono fun e w' ⟨he, hw⟩ => ⟨?_, hw⟩
  have ha : ([(x0, y0), (x1, y1)]).all isPt = false := by
    simp only [List.all_cons, List.all_nil, Bool.and_true, ← Bool.and_assoc]; exact hn
  rw [he, ha]; try rfl
theorem arePoints3_yes (x0 y0 x1 y1 x2 y2 : Int) (b cap : Nat) (w : World) (hb : b < w.heap.size) (c0 : w.cell? ⟨b, 0, none⟩ = some (.int .i64 x0)) (d0 : w.cell? ⟨b, 1, none⟩ = some (.int .i64 y0)) (c1 : w.cell? ⟨b, 2, none⟩ = some (.int .i64 x1)) (d1 : w.cell? ⟨b, 3, none⟩ = some (.int .i64 y1)) (c2 : w.cell? ⟨b, 4, none⟩ = some (.int .i64 x2)) (d2 : w.cell? ⟨b, 5, none⟩ = some (.int .i64 y2)) (k0 : isPt (x0, y0) = true) (k1 : isPt (x1, y1) = true) (k2 : isPt (x2, y2) = true) :
    Calls Try.prog 79 #[.slice (some ⟨b, 0, none⟩) 3 cap] w fun e w' => e = .returned (.bool true) ∧ Below w.heap.size w w' := by
  have hp : PtCells w b 0 [(x0, y0), (x1, y1), (x2, y2)] := by
    intro i hi
    have : i = 0 ∨ i = 1 ∨ i = 2 := by simp at hi; omega
    rcases this with rfl | rfl | rfl
    · exact ⟨by simpa using c0, by simpa using d0⟩
    · exact ⟨by simpa using c1, by simpa using d1⟩
    · exact ⟨by simpa using c2, by simpa using d2⟩
  refine (arePoints_any [(x0, y0), (x1, y1), (x2, y2)] b 0 cap w hb (by simp) hp).mono fun e w' ⟨he, hw⟩ => ⟨by rw [he]; simp [k0, k1, k2], hw⟩
theorem arePoints3_no (x0 y0 x1 y1 x2 y2 : Int) (b cap : Nat) (w : World) (hb : b < w.heap.size) (c0 : w.cell? ⟨b, 0, none⟩ = some (.int .i64 x0)) (d0 : w.cell? ⟨b, 1, none⟩ = some (.int .i64 y0)) (c1 : w.cell? ⟨b, 2, none⟩ = some (.int .i64 x1)) (d1 : w.cell? ⟨b, 3, none⟩ = some (.int .i64 y1)) (c2 : w.cell? ⟨b, 4, none⟩ = some (.int .i64 x2)) (d2 : w.cell? ⟨b, 5, none⟩ = some (.int .i64 y2)) (hn : (isPt (x0, y0) && isPt (x1, y1) && isPt (x2, y2)) = false) :
    Calls Try.prog 79 #[.slice (some ⟨b, 0, none⟩) 3 cap] w fun e w' => e = .returned (.bool false) ∧ Below w.heap.size w w' := by
  have hp : PtCells w b 0 [(x0, y0), (x1, y1), (x2, y2)] := by
    intro i hi
    have : i = 0 ∨ i = 1 ∨ i = 2 := by simp at hi; omega
    rcases this with rfl | rfl | rfl
    · exact ⟨by simpa using c0, by simpa using d0⟩
    · exact ⟨by simpa using c1, by simpa using d1⟩
    · exact ⟨by simpa using c2, by simpa using d2⟩
  refine (arePoints_any [(x0, y0), (x1, y1), (x2, y2)] b 0 cap w hb (by simp) hp).mono fun e w' ⟨he, hw⟩ => ⟨?_, hw⟩
  have ha : ([(x0, y0), (x1, y1), (x2, y2)]).all isPt = false := by
    simp only [List.all_cons, List.all_nil, Bool.and_true, ← Bool.and_assoc]; exact hn
  rw [he, ha]; try rfl
theorem l01Code2_yes (x0 y0 x1 y1 : Int) (b cap : Nat) (w : World) (hb : b < w.heap.size) (c0 : w.cell? ⟨b, 0, none⟩ = some (.int .i64 x0)) (d0 : w.cell? ⟨b, 1, none⟩ = some (.int .i64 y0)) (c1 : w.cell? ⟨b, 2, none⟩ = some (.int .i64 x1)) (d1 : w.cell? ⟨b, 3, none⟩ = some (.int .i64 y1)) (k0 : isPt (x0, y0) = true) (k1 : isPt (x1, y1) = true) :
    Calls Try.prog 81 #[.slice (some ⟨b, 0, none⟩) 2 cap] w fun e w' => e = .returned (.int .i64 0) ∧ Below w.heap.size w w' := by
  have hp : PtCells w b 0 [(x0, y0), (x1, y1)] := by
    intro i hi
    have : i = 0 ∨ i = 1 := by simp at hi; omega
    rcases this with rfl | rfl
    · exact ⟨by simpa using c0, by simpa using d0⟩
    · exact ⟨by simpa using c1, by simpa using d1⟩
  refine (l01Code_any [(x0, y0), (x1, y1)] b 0 cap w hb (by simp) hp).mono fun e w' ⟨he, hw⟩ => ⟨by rw [he]; simp [k0, k1], hw⟩
theorem l01Code2_no (x0 y0 x1 y1 : Int) (b cap : Nat) (w : World) (hb : b < w.heap.size) (c0 : w.cell? ⟨b, 0, none⟩ = some (.int .i64 x0)) (d0 : w.cell? ⟨b, 1, none⟩ = some (.int .i64 y0)) (c1 : w.cell? ⟨b, 2, none⟩ = some (.int .i64 x1)) (d1 : w.cell? ⟨b, 3, none⟩ = some (.int .i64 y1)) (hn : (isPt (x0, y0) && isPt (x1, y1)) = false) :
    Calls Try.prog 81 #[.slice (some ⟨b, 0, none⟩) 2 cap] w fun e w' => e = .returned (.int .i64 1) ∧ Below w.heap.size w w' := by
  have hp : PtCells w b 0 [(x0, y0), (x1, y1)] := by
    intro i hi
    have : i = 0 ∨ i = 1 := by simp at hi; omega
    rcases this with rfl | rfl
    · exact ⟨by simpa using c0, by simpa using d0⟩
    · exact ⟨by simpa using c1, by simpa using d1⟩
  refine (l01Code_any [(x0, y0), (x1, y1)] b 0 cap w hb (by simp) hp).mono fun e w' ⟨he, hw⟩ => ⟨?_, hw⟩
  have ha : ([(x0, y0), (x1, y1)]).all isPt = false := by
    simp only [List.all_cons, List.all_nil, Bool.and_true, ← Bool.and_assoc]; exact hn
  rw [he, ha]; try rfl
theorem l01Code3_yes (x0 y0 x1 y1 x2 y2 : Int) (b cap : Nat) (w : World) (hb : b < w.heap.size) (c0 : w.cell? ⟨b, 0, none⟩ = some (.int .i64 x0)) (d0 : w.cell? ⟨b, 1, none⟩ = some (.int .i64 y0)) (c1 : w.cell? ⟨b, 2, none⟩ = some (.int .i64 x1)) (d1 : w.cell? ⟨b, 3, none⟩ = some (.int .i64 y1)) (c2 : w.cell? ⟨b, 4, none⟩ = some (.int .i64 x2)) (d2 : w.cell? ⟨b, 5, none⟩ = some (.int .i64 y2)) (k0 : isPt (x0, y0) = true) (k1 : isPt (x1, y1) = true) (k2 : isPt (x2, y2) = true) :
    Calls Try.prog 81 #[.slice (some ⟨b, 0, none⟩) 3 cap] w fun e w' => e = .returned (.int .i64 0) ∧ Below w.heap.size w w' := by
  have hp : PtCells w b 0 [(x0, y0), (x1, y1), (x2, y2)] := by
    intro i hi
    have : i = 0 ∨ i = 1 ∨ i = 2 := by simp at hi; omega
    rcases this with rfl | rfl | rfl
    · exact ⟨by simpa using c0, by simpa using d0⟩
    · exact ⟨by simpa using c1, by simpa using d1⟩
    · exact ⟨by simpa using c2, by simpa using d2⟩
  refine (l01Code_any [(x0, y0), (x1, y1), (x2, y2)] b 0 cap w hb (by simp) hp).mono fun e w' ⟨he, hw⟩ => ⟨by rw [he]; simp [k0, k1, k2], hw⟩
theorem l01Code3_no (x0 y0 x1 y1 x2 y2 : Int) (b cap : Nat) (w : World) (hb : b < w.heap.size) (c0 : w.cell? ⟨b, 0, none⟩ = some (.int .i64 x0)) (d0 : w.cell? ⟨b, 1, none⟩ = some (.int .i64 y0)) (c1 : w.cell? ⟨b, 2, none⟩ = some (.int .i64 x1)) (d1 : w.cell? ⟨b, 3, none⟩ = some (.int .i64 y1)) (c2 : w.cell? ⟨b, 4, none⟩ = some (.int .i64 x2)) (d2 : w.cell? ⟨b, 5, none⟩ = some (.int .i64 y2)) (hn : (isPt (x0, y0) && isPt (x1, y1) && isPt (x2, y2)) = false) :
    Calls Try.prog 81 #[.slice (some ⟨b, 0, none⟩) 3 cap] w fun e w' => e = .returned (.int .i64 1) ∧ Below w.heap.size w w' := by
  have hp : PtCells w b 0 [(x0, y0), (x1, y1), (x2, y2)] := by
    intro i hi
    have : i = 0 ∨ i = 1 ∨ i = 2 := by simp at hi; omega
    rcases this with rfl | rfl | rfl
    · exact ⟨by simpa using c0, by simpa using d0⟩
    · exact ⟨by simpa using c1, by simpa using d1⟩
    · exact ⟨by simpa using c2, by simpa using d2⟩
  refine (l01Code_any [(x0, y0), (x1, y1), (x2, y2)] b 0 cap w hb (by simp) hp).mono fun e w' ⟨he, hw⟩ => ⟨?_, hw⟩
  have ha : ([(x0, y0), (x1, y1), (x2, y2)]).all isPt = false := by
    simp only [List.all_cons, List.all_nil, Bool.and_true, ← Bool.and_assoc]; exact hn
  rw [he, ha]; try rfl
end Go.Proofs.Ytoenlpkphekbnaa
