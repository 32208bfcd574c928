/-
  Runs of triples with their matrices as plain numbers: steps, what stays in bounds, lists of stations (own work).
-/
import Derived.Test.YtbgifgfegndlkaaTrC
namespace Go.Proofs.Ytbgifgfegndlkaa
open Go.ChangeShapes Go.WideShapes Go.ChangeAt Go.RowKit
set_option linter.unusedVariables false
set_option linter.unusedSimpArgs false

abbrev T3 := Int × Int × Int
/-- A triple and the three rows of a matrix. -/
abbrev Stn := T3 × T3 × T3 × T3
def nxR (k : Nat) (t r : T3) : T3 := rwN k t.1 t.2.1 t.2.2 r.1 r.2.1 r.2.2
def nxT (k : Nat) (t : T3) : T3 := stT k t.1 t.2.1 t.2.2
def nxS (k : Nat) (s : Stn) : Stn := (nxT k s.1, nxR k s.1 s.2.1, nxR k s.1 s.2.2.1, nxR k s.1 s.2.2.2)
def enT (k : Nat) (t : T3) : Bool := rEnd k t.2.1 t.2.2
def vT (t : T3) : Value := .agg #[.int .i64 t.1, .int .i64 t.2.1, .int .i64 t.2.2]
def vS (s : Stn) : Value := .agg #[.int .i64 s.1.1, .int .i64 s.1.2.1, .int .i64 s.1.2.2, .int .i64 s.2.1.1, .int .i64 s.2.1.2.1, .int .i64 s.2.1.2.2, .int .i64 s.2.2.1.1, .int .i64 s.2.2.1.2.1, .int .i64 s.2.2.1.2.2, .int .i64 s.2.2.2.1, .int .i64 s.2.2.2.2.1, .int .i64 s.2.2.2.2.2]
def srtd (t : T3) : Prop := isSt t.1 t.2.1 t.2.2 = true
/-- What is known of a row behind i steps. -/
def rwO (i : Nat) (t r : T3) : Prop := (0 ≤ r.1 ∧ 0 ≤ r.2.1 ∧ 0 ≤ r.2.2) ∧ (r.1 ≤ 1000000 + 2000000 * (i : Int) ∧ r.2.1 ≤ 1000000 + 2000000 * (i : Int) ∧ r.2.2 ≤ 1000000 + 2000000 * (i : Int)) ∧ r.1 * t.1 + r.2.1 * t.2.1 + r.2.2 * t.2.2 ≤ 1000000
def okS (i : Nat) (s : Stn) : Prop := srtd s.1 ∧ rwO i s.1 s.2.1 ∧ rwO i s.1 s.2.2.1 ∧ rwO i s.1 s.2.2.2
theorem le_mul_pos {x a : Int} (hx : 0 ≤ x) (ha : 1 ≤ a) : x ≤ x * a := by
  have h := Int.mul_le_mul_of_nonneg_left ha hx
  simpa using h
/-- The step ahead of the sorting keeps the sum and the bounds. -/
theorem sub_row {k : Nat} (hk : k < 4) {a b c x y z B : Int} (hs : isSt a b c = true) (he : rEnd k b c = false) (hx : 0 ≤ x) (hy : 0 ≤ y) (hz : 0 ≤ z) (bx : x ≤ B) (bY : y ≤ B) (bz : z ≤ B) (hB : 1000000 ≤ B) (hsum : x * a + y * b + z * c ≤ 1000000) :
    (0 ≤ (rAdd k x y z).1 ∧ 0 ≤ (rAdd k x y z).2.1 ∧ 0 ≤ (rAdd k x y z).2.2) ∧ ((rAdd k x y z).1 ≤ B + 2000000 ∧ (rAdd k x y z).2.1 ≤ B + 2000000 ∧ (rAdd k x y z).2.2 ≤ B + 2000000) ∧
      (rAdd k x y z).1 * (rSub k a b c).1 + (rAdd k x y z).2.1 * (rSub k a b c).2.1 + (rAdd k x y z).2.2 * (rSub k a b c).2.2 ≤ 1000000 := by
  obtain ⟨_, a1, a2, b0, b1, c0, c1⟩ := isSt_parts hs
  have xa := le_mul_pos hx (show 1 ≤ a by omega)
  have yb0 : 0 ≤ y * b := Int.mul_nonneg hy b0
  have zc0 : 0 ≤ z * c := Int.mul_nonneg hz c0
  match k, hk with
  | 0, _ =>
    have hb : b ≠ 0 := by simpa [rEnd] using he
    have yb := le_mul_pos hy (show 1 ≤ b by omega)
    have e : x * (a - b) + (x + y) * b + z * c = x * a + y * b + z * c := by grind
    simp only [rAdd, rSub]
    omega
  | 1, _ =>
    have hc : c ≠ 0 := by simpa [rEnd] using he
    have zc := le_mul_pos hz (show 1 ≤ c by omega)
    have e : x * (a - c) + y * b + (x + z) * c = x * a + y * b + z * c := by grind
    simp only [rAdd, rSub]
    omega
  | 2, _ =>
    have hb : b ≠ 0 := by simpa [rEnd] using he
    have yb := le_mul_pos hy (show 1 ≤ b by omega)
    have e : x * (a - b) + (x + y) * (b - c) + (x + y + z) * c = x * a + y * b + z * c := by grind
    simp only [rAdd, rSub]
    omega
  | 3, _ =>
    have hc : c ≠ 0 := by simpa [rEnd] using he
    have yb := le_mul_pos hy (show 1 ≤ b by omega)
    have zc := le_mul_pos hz (show 1 ≤ c by omega)
    have e : x * (a - c) + y * (b - c) + (x + y + z) * c = x * a + y * b + z * c := by grind
    simp only [rAdd, rSub]
    omega
/-- What a step makes, ahead of the sorting. -/
theorem sub_tri {k : Nat} (hk : k < 4) {a b c : Int} (hs : isSt a b c = true) (he : rEnd k b c = false) : B0 (rSub k a b c).1 ∧ B0 (rSub k a b c).2.1 ∧ B0 (rSub k a b c).2.2 ∧ (1 ≤ (rSub k a b c).1 ∨ 1 ≤ (rSub k a b c).2.1 ∨ 1 ≤ (rSub k a b c).2.2) := by
  obtain ⟨_, a1, a2, b0, b1, c0, c1⟩ := isSt_parts hs
  unfold B0
  match k, hk with
  | 0, _ =>
    have hb : b ≠ 0 := by simpa [rEnd] using he
    simp only [rSub]
    omega
  | 1, _ =>
    have hc : c ≠ 0 := by simpa [rEnd] using he
    simp only [rSub]
    omega
  | 2, _ =>
    have hb : b ≠ 0 := by simpa [rEnd] using he
    simp only [rSub]
    omega
  | 3, _ =>
    have hc : c ≠ 0 := by simpa [rEnd] using he
    simp only [rSub]
    omega
theorem srt_of {u v z : Int} (hu : B0 u) (hv : B0 v) (hz : B0 z) (h1 : 1 ≤ u ∨ 1 ≤ v ∨ 1 ≤ z) : isSt (st3 u v z).1 (st3 u v z).2.1 (st3 u v z).2.2 = true := by
  obtain ⟨u0, u1⟩ := hu
  obtain ⟨v0, v1⟩ := hv
  obtain ⟨z0, z1⟩ := hz
  unfold st3
  rcases od_cases u v z with ⟨e, h⟩ | ⟨e, h⟩ | ⟨e, h⟩ | ⟨e, h⟩ | ⟨e, h⟩ | ⟨e, h⟩ <;> rw [e] <;> simp only [at3, pk] <;> apply isSt_of <;> omega
theorem at3_row {u v z x y q B : Int} (h0 : 0 ≤ x ∧ 0 ≤ y ∧ 0 ≤ q) (h1 : x ≤ B ∧ y ≤ B ∧ q ≤ B) (h2 : x * u + y * v + q * z ≤ 1000000) :
    (0 ≤ (at3 (od u v z) x y q).1 ∧ 0 ≤ (at3 (od u v z) x y q).2.1 ∧ 0 ≤ (at3 (od u v z) x y q).2.2) ∧ ((at3 (od u v z) x y q).1 ≤ B ∧ (at3 (od u v z) x y q).2.1 ≤ B ∧ (at3 (od u v z) x y q).2.2 ≤ B) ∧
      (at3 (od u v z) x y q).1 * (st3 u v z).1 + (at3 (od u v z) x y q).2.1 * (st3 u v z).2.1 + (at3 (od u v z) x y q).2.2 * (st3 u v z).2.2 ≤ 1000000 := by
  unfold st3
  rcases od_cases u v z with ⟨e, h⟩ | ⟨e, h⟩ | ⟨e, h⟩ | ⟨e, h⟩ | ⟨e, h⟩ | ⟨e, h⟩ <;> rw [e] <;> simp only [at3, pk] <;> omega
theorem okS_next {k : Nat} (hk : k < 4) {i : Nat} {s : Stn} (h : okS i s) (he : enT k s.1 = false) : okS (i + 1) (nxS k s) := by
  obtain ⟨hs, h0, h1, h2⟩ := h
  obtain ⟨u0, u1, u2, u3⟩ := sub_tri hk hs he
  have row : ∀ r : T3, rwO i s.1 r → rwO (i + 1) (nxT k s.1) (nxR k s.1 r) := by
    intro r hr
    obtain ⟨⟨p1, p2, p3⟩, ⟨q1, q2, q3⟩, hsum⟩ := hr
    obtain ⟨m1, m2, m3⟩ := sub_row hk hs he p1 p2 p3 q1 q2 q3 (by omega) hsum
    have := at3_row m1 m2 m3
    refine ⟨this.1, ?_, this.2.2⟩
    have h := this.2.1
    have e : (1000000 : Int) + 2000000 * ((i + 1 : Nat) : Int) = 1000000 + 2000000 * (i : Int) + 2000000 := by omega
    rw [e]
    exact h
  exact ⟨srt_of u0 u1 u2 u3, row _ h0, row _ h1, row _ h2⟩
/-- The first station of a run. -/
def s0S (t : T3) : Stn := (t, (1, 0, 0), (0, 1, 0), (0, 0, 1))
theorem okS_first {t : T3} (h : srtd t) : okS 0 (s0S t) := by
  obtain ⟨_, a1, a2, b0, b1, c0, c1⟩ := isSt_parts h
  refine ⟨h, ?_, ?_, ?_⟩ <;> (unfold rwO s0S; simp; omega)
theorem okS_t {i : Nat} {s : Stn} (h : okS i s) : B0 s.1.1 ∧ B0 s.1.2.1 ∧ B0 s.1.2.2 := by
  obtain ⟨_, a1, a2, b0, b1, c0, c1⟩ := isSt_parts h.1
  unfold B0
  omega
theorem rwO_b {i : Nat} {t r : T3} (h : rwO i t r) (hi : i ≤ 300) : B1 r.1 ∧ B1 r.2.1 ∧ B1 r.2.2 := by
  obtain ⟨⟨p1, p2, p3⟩, ⟨q1, q2, q3⟩, _⟩ := h
  unfold B1
  omega
/-- The stations of a run of at most n steps. -/
def runL (k : Nat) : Nat → Stn → List Stn
  | 0, s => [s]
  | n + 1, s => if enT k s.1 = true then [s] else s :: runL k n (nxS k s)
theorem runL_end {k n : Nat} {s : Stn} (h : n = 0 ∨ enT k s.1 = true) : runL k n s = [s] := by
  cases n with
  | zero => rfl
  | succ n =>
    rw [runL, if_pos (h.resolve_left (by omega))]
theorem runL_next {k n : Nat} {s : Stn} (hn : n ≠ 0) (h : enT k s.1 = false) : runL k n s = s :: runL k (n - 1) (nxS k s) := by
  cases n with
  | zero => exact absurd rfl hn
  | succ n =>
    rw [runL, if_neg (by rw [h]; decide)]
    rfl
theorem runL_len (k : Nat) : ∀ (n : Nat) (s : Stn), 1 ≤ (runL k n s).length ∧ (runL k n s).length ≤ n + 1
  | 0, s => by simp [runL]
  | n + 1, s => by
    unfold runL
    split
    · simp
    · have := runL_len k n (nxS k s)
      simp
      omega
/-- The triples alone. -/
def runT (k : Nat) : Nat → T3 → List T3
  | 0, t => [t]
  | n + 1, t => if enT k t = true then [t] else t :: runT k n (nxT k t)
theorem runT_map (k : Nat) : ∀ (n : Nat) (s : Stn), (runL k n s).map (·.1) = runT k n s.1
  | 0, s => rfl
  | n + 1, s => by
    unfold runL runT
    split
    · rfl
    · have := runT_map k n (nxS k s)
      simp only [List.map_cons, this]
      rfl
theorem runT_end {k n : Nat} {t : T3} (h : n = 0 ∨ enT k t = true) : runT k n t = [t] := by
  cases n with
  | zero => rfl
  | succ n => rw [runT, if_pos (h.resolve_left (by omega))]
theorem runT_next {k n : Nat} {t : T3} (hn : n ≠ 0) (h : enT k t = false) : runT k n t = t :: runT k (n - 1) (nxT k t) := by
  cases n with
  | zero => exact absurd rfl hn
  | succ n =>
    rw [runT, if_neg (by rw [h]; decide)]
    rfl
end Go.Proofs.Ytbgifgfegndlkaa
