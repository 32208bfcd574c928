/-
  Polygons. The way around, and the hull of a polygon (own work; mathematics only).
-/
import Derived.Test.YtmjhejmkmdgikaaPoI
namespace Go.Proofs.Ytmjhejmkmdgikaa
set_option linter.unusedVariables false
set_option maxRecDepth 100000
set_option linter.unusedSectionVars false

/-- A list of corners, read around. -/
def pl (ps : List (Int × Int)) (k : Nat) : Int × Int := ps.getD (k % ps.length) (0, 0)
theorem pl_rnd {ps : List (Int × Int)} (h : 3 ≤ ps.length) : Rnd ps.length (pl ps) := ⟨h, fun k => by unfold pl; rw [Nat.add_mod_right]⟩
theorem pl_lt {ps : List (Int × Int)} {k : Nat} (h : k < ps.length) : pl ps k = ps.getD k (0, 0) := by unfold pl; rw [Nat.mod_eq_of_lt h]
theorem pl_mem {ps : List (Int × Int)} (h : 0 < ps.length) (k : Nat) : pl ps k ∈ ps := by
  unfold pl
  have := Nat.mod_lt k h
  rw [List.getD_eq_getElem?_getD, List.getElem?_eq_getElem this]
  exact List.getElem_mem _
theorem mem_pl {ps : List (Int × Int)} {c : Int × Int} (h : c ∈ ps) : ∃ k, k < ps.length ∧ pl ps k = c := by
  obtain ⟨k, hk, e⟩ := List.getElem_of_mem h
  exact ⟨k, hk, by rw [pl_lt hk, List.getD_eq_getElem?_getD, List.getElem?_eq_getElem hk]; exact e⟩
/-- The corners, one behind the other. -/
def hsq (L : List (Int × Int)) (f : Int × Int) : Nat → Int × Int
  | 0 => f
  | k + 1 => pnx L (hsq L f k)
/-- Where the way around comes back. -/
def clo (f : Int × Int) (h : Nat → Int × Int) : Nat → Nat → Nat
  | 0, k => k
  | t + 1, k => if h k = f then k else clo f h t (k + 1)
theorem clo_ok (f : Int × Int) (h : Nat → Int × Int) : ∀ t k, k ≤ clo f h t k ∧ clo f h t k ≤ k + t ∧ (∀ j, k ≤ j → j < clo f h t k → h j ≠ f) ∧ (clo f h t k < k + t → h (clo f h t k) = f)
  | 0, k => ⟨Nat.le_refl _, Nat.le_refl _, fun j h1 h2 => absurd h2 (by show ¬ j < k; omega), fun hh => absurd hh (by show ¬ k < k + 0; omega)⟩
  | t + 1, k => by
    unfold clo
    by_cases he : h k = f
    · rw [if_pos he]
      exact ⟨Nat.le_refl _, by omega, fun j h1 h2 => by omega, fun _ => he⟩
    · rw [if_neg he]
      obtain ⟨a, b, c, d⟩ := clo_ok f h t (k + 1)
      refine ⟨by omega, by omega, fun j h1 h2 => ?_, fun hh => d (by omega)⟩
      by_cases hj : j = k
      · rw [hj]; exact he
      · exact c j (by omega) h2
def lst (h : Nat → Int × Int) (m : Nat) : List (Int × Int) := (List.range m).map h
theorem lst_len (h : Nat → Int × Int) (m : Nat) : (lst h m).length = m := by simp [lst]
theorem lst_snoc (h : Nat → Int × Int) (m : Nat) : lst h (m + 1) = lst h m ++ [h m] := by simp [lst, List.range_succ]
theorem lst_get (h : Nat → Int × Int) {m k : Nat} (hk : k < m) : (lst h m).getD k (0, 0) = h k := by simp [lst, List.getD, hk]
theorem nodup_len {α : Type} [DecidableEq α] : ∀ (l L : List α), l.Nodup → (∀ x, x ∈ l → x ∈ L) → l.length ≤ L.length
  | [], L, _, _ => Nat.zero_le _
  | x :: l, L, hn, hs => by
    have hx := hs x (by simp)
    have := nodup_len l (L.erase x) (List.nodup_cons.1 hn).2 (fun y hy => by
      have hne : y ≠ x := fun e => (List.nodup_cons.1 hn).1 (e ▸ hy)
      exact (List.mem_erase_of_ne hne).2 (hs y (by simp [hy])))
    rw [List.length_erase_of_mem hx] at this
    have := List.length_pos_of_mem hx
    simp only [List.length_cons]
    omega
theorem lst_nodup {h : Nat → Int × Int} {m : Nat} (hd : ∀ i j, i < j → j < m → h i ≠ h j) : (lst h m).Nodup := by
  unfold lst
  rw [List.nodup_iff_pairwise_ne, List.pairwise_map]
  refine List.Pairwise.imp_of_mem ?_ (List.pairwise_lt_range (n := m))
  intro a b ha hb hab
  exact hd a b hab (List.mem_range.1 hb)
/-- Two corners in one place: the list is no polygon. -/
theorem dup_no {n : Nat} {P : Nat → Int × Int} (hn : 3 ≤ n) {i j : Nat} (hij : i < j) (hjn : j < i + n) (e : P i = P j) : ¬ Cvx n P := by
  intro hc
  by_cases h1 : j = i + 1
  · subst h1
    have := hc i (i + 2) (by omega) (by omega)
    unfold lf eg at this
    rw [← e] at this
    unfold dv sbv at this
    simp only at this
    have e1 : (P i).1 - (P i).1 = 0 := by omega
    have e2 : (P i).2 - (P i).2 = 0 := by omega
    rw [e1, e2, Int.zero_mul, Int.zero_mul] at this
    omega
  · have := hc i j (by omega) hjn
    unfold lf at this
    rw [← e] at this
    unfold dv sbv at this
    simp only at this
    have e1 : (P i).1 - (P i).1 = 0 := by omega
    have e2 : (P i).2 - (P i).2 = 0 := by omega
    rw [e1, e2, Int.mul_zero, Int.mul_zero] at this
    omega
section
variable {L : List (Int × Int)} {f : Int × Int} (hf : f ∈ L) (hmin : ∀ c, c ∈ L → lxlt c f = false)
include hf hmin
theorem hsq_ok : ∀ k, hsq L f k ∈ L ∧ Ext L (hsq L f k)
  | 0 => ⟨hf, lmin_ext hmin⟩
  | k + 1 => by
    obtain ⟨h1, h2⟩ := hsq_ok k
    obtain ⟨e, h3, h4⟩ := nx_same h2 h1
    show pnx L (hsq L f k) ∈ L ∧ Ext L (pnx L (hsq L f k))
    cases hv : mnx L (hsq L f k) with
    | none => rw [e, hv]; exact ⟨h1, h2⟩
    | some b =>
      have := h3 b hv
      rw [e, hv]
      exact ⟨this.1, nxt_ext h2 this⟩
theorem hsq_nxt (ho : ∃ x, x ∈ L ∧ x ≠ f) (k : Nat) : Nxt L (hsq L f k) (hsq L f (k + 1)) ∧ mnx L (hsq L f k) = some (hsq L f (k + 1)) := by
  obtain ⟨h1, h2⟩ := hsq_ok hf hmin k
  obtain ⟨e, h3, h4⟩ := nx_same h2 h1
  cases hv : mnx L (hsq L f k) with
  | none =>
    exfalso
    obtain ⟨x, hx, hne⟩ := ho
    have a := h4 hv x hx
    have b := h4 hv f hf
    exact hne (a.trans b.symm)
  | some b =>
    have eb : hsq L f (k + 1) = b := by show pnx L (hsq L f k) = b; rw [e, hv]; rfl
    rw [eb]
    exact ⟨h3 b hv, rfl⟩
omit hf hmin in
theorem hsq_shift {i j : Nat} (e : hsq L f i = hsq L f j) : ∀ t, hsq L f (i + t) = hsq L f (j + t)
  | 0 => e
  | t + 1 => by show pnx L (hsq L f (i + t)) = pnx L (hsq L f (j + t)); rw [hsq_shift e t]
omit hf hmin in
theorem hsq_per {m : Nat} (e : hsq L f m = f) (k : Nat) : hsq L f (k + m) = hsq L f k := by
  have := hsq_shift (L := L) (f := f) (i := m) (j := 0) e k
  rw [Nat.zero_add] at this
  rw [Nat.add_comm]
  exact this
omit hf hmin in
theorem hsq_mul {m : Nat} (e : hsq L f m = f) (k : Nat) : ∀ q, hsq L f (k + m * q) = hsq L f k
  | 0 => rfl
  | q + 1 => by rw [Nat.mul_succ, ← Nat.add_assoc, hsq_per e, hsq_mul e k q]
omit hf hmin in
theorem hsq_dist {m : Nat} (h0 : 1 ≤ m) (e : hsq L f m = f) (hl : ∀ j, 1 ≤ j → j < m → hsq L f j ≠ f) {i j : Nat} (hij : i < j) (hjm : j < i + m) : hsq L f i ≠ hsq L f j := by
  intro he
  have hle : i ≤ m * (i + 1) := by
    have : 1 * (i + 1) ≤ m * (i + 1) := Nat.mul_le_mul_right _ h0
    omega
  have s := hsq_shift he (m * (i + 1) - i)
  rw [show i + (m * (i + 1) - i) = 0 + m * (i + 1) by omega, show j + (m * (i + 1) - i) = (j - i) + m * (i + 1) by omega, hsq_mul e, hsq_mul e] at s
  exact hl (j - i) (by omega) (by omega) s.symm
/-- A hull that closes is a polygon. -/
theorem hsq_cvx (ho : ∃ x, x ∈ L ∧ x ≠ f) {m : Nat} (h3 : 3 ≤ m) (e : hsq L f m = f) (hl : ∀ j, 1 ≤ j → j < m → hsq L f j ≠ f) : Rnd m (hsq L f) ∧ Cvx m (hsq L f) := by
  refine ⟨⟨h3, hsq_per e⟩, fun i k h1 h2 => ?_⟩
  obtain ⟨m1, x1⟩ := hsq_ok hf hmin i
  obtain ⟨m2, d, hd, x2⟩ := hsq_ok hf hmin k
  obtain ⟨n1, _⟩ := hsq_nxt hf hmin ho i
  have hh := n1.2.2 (hsq L f k) m2
  have hne1 : hsq L f k ≠ hsq L f i := fun h => hsq_dist (by omega) e hl (i := i) (j := k) (by omega) h2 h.symm
  have hne2 : hsq L f k ≠ hsq L f (i + 1) := fun h => hsq_dist (by omega) e hl (i := i + 1) (j := k) h1 (by omega) h.symm
  show 0 < trn (hsq L f i) (hsq L f (i + 1)) (hsq L f k)
  apply Classical.byContradiction
  intro hn
  obtain ⟨p, q, hq, hqp, e1, e2⟩ := nxt_between x1 n1 m2 hne1 hne2 (by omega)
  have y1 := x2 (hsq L f i) m1 (Ne.symm hne1)
  have y2 := x2 (hsq L f (i + 1)) (hsq_ok hf hmin (i + 1)).1 (Ne.symm hne2)
  generalize hsq L f i = a at *
  generalize hsq L f (i + 1) = b at *
  generalize hsq L f k = c at *
  have g1 : q * (sbv b c).1 = -((p - q) * (sbv a c).1) := by unfold sbv at *; simp only at *; grind
  have g2 : q * (sbv b c).2 = -((p - q) * (sbv a c).2) := by unfold sbv at *; simp only at *; grind
  have k1 : q * dv d (sbv b c) = -((p - q) * dv d (sbv a c)) := by unfold dv; grind
  have k2 : q * (d.1 * (sbv b c).1 + d.2 * (sbv b c).2) = -((p - q) * (d.1 * (sbv a c).1 + d.2 * (sbv a c).2)) := by grind
  have hpq : 0 < p - q := by omega
  unfold Hf at y1 y2
  generalize dv d (sbv b c) = X at *
  generalize dv d (sbv a c) = Y at *
  generalize d.1 * (sbv b c).1 + d.2 * (sbv b c).2 = Z at *
  generalize d.1 * (sbv a c).1 + d.2 * (sbv a c).2 = T at *
  have a1 : 0 ≤ X := by omega
  have a2 : 0 ≤ Y := by omega
  have b1 := Int.mul_nonneg (Int.le_of_lt hq) a1
  have b2 := Int.mul_nonneg (Int.le_of_lt hpq) a2
  have c1 : q * X = 0 := by omega
  have c2 : (p - q) * Y = 0 := by omega
  have d1 : X = 0 := by rcases Int.mul_eq_zero.1 c1 with h | h <;> omega
  have d2 : Y = 0 := by rcases Int.mul_eq_zero.1 c2 with h | h <;> omega
  have f1 : Z < 0 := by omega
  have f2 : T < 0 := by omega
  have w1 := Int.mul_pos hq (show 0 < -Z by omega)
  have w2 := Int.mul_pos hpq (show 0 < -T by omega)
  rw [Int.mul_neg] at w1 w2
  omega
omit hf hmin in
theorem pl_lst {m : Nat} (h0 : 0 < m) (e : hsq L f m = f) (k : Nat) : pl (lst (hsq L f) m) k = hsq L f k := by
  unfold pl
  rw [lst_len, lst_get _ (Nat.mod_lt k h0)]
  have := hsq_mul e (k % m) (k / m)
  rw [Nat.mod_add_div] at this
  exact this.symm
/-- Both ways around end alike. -/
theorem hull_both {N : Nat} (hN : L.length = N) :
    (clo f (hsq L f) 12 1 < 3 ↔ clo f (hsq L f) N 1 < 3) ∧
    (3 ≤ clo f (hsq L f) 12 1 → clo f (hsq L f) 12 1 ≤ 12 → clo f (hsq L f) N 1 = clo f (hsq L f) 12 1 ∧ Cvx (clo f (hsq L f) 12 1) (pl (lst (hsq L f) (clo f (hsq L f) 12 1)))) ∧
    (12 < clo f (hsq L f) 12 1 → ¬ (clo f (hsq L f) N 1 ≤ 12 ∧ Cvx (clo f (hsq L f) N 1) (pl (lst (hsq L f) (clo f (hsq L f) N 1))))) := by
  have hpos : 1 ≤ N := by rw [← hN]; exact List.length_pos_of_mem hf
  obtain ⟨a1, a2, a3, a4⟩ := clo_ok f (hsq L f) 12 1
  obtain ⟨b1, b2, b3, b4⟩ := clo_ok f (hsq L f) N 1
  generalize clo f (hsq L f) 12 1 = m at *
  generalize clo f (hsq L f) N 1 = m' at *
  by_cases ho : ∃ x, x ∈ L ∧ x ≠ f
  · by_cases hm : m < 13
    · have e := a4 hm
      have hd := fun i j => hsq_dist a1 e a3 (i := i) (j := j)
      have hmN : m ≤ N := by
        rw [← hN, ← lst_len (hsq L f) m]
        refine nodup_len _ _ (lst_nodup (fun i j h1 h2 => hd i j h1 (by omega))) (fun x hx => ?_)
        obtain ⟨k, _, rfl⟩ := List.mem_map.1 hx
        exact (hsq_ok hf hmin k).1
      have h1 : m' ≤ m := by
        apply Classical.byContradiction
        intro hn
        exact b3 m a1 (by omega) e
      have h2 : m ≤ m' := by
        apply Classical.byContradiction
        intro hn
        exact a3 m' b1 (by omega) (b4 (by omega))
      have hmm : m' = m := by omega
      subst hmm
      refine ⟨Iff.rfl, fun h3 _ => ⟨rfl, ?_⟩, fun h => by omega⟩
      have hP : pl (lst (hsq L f) m') = hsq L f := funext (pl_lst a1 e)
      rw [hP]
      exact (hsq_cvx hf hmin ho h3 e a3).2
    · have hm13 : m = 13 := by omega
      have hm3 : 3 ≤ m' := by
        apply Classical.byContradiction
        intro hn
        by_cases hq : m' < 1 + N
        · exact a3 m' b1 (by omega) (b4 hq)
        · have hN1 : N = 1 := by omega
          obtain ⟨x, hx, hne⟩ := ho
          obtain ⟨y, rfl⟩ := List.length_eq_one_iff.1 (hN.trans hN1)
          simp at hx hf
          exact hne (hx.trans hf.symm)
      refine ⟨by omega, fun _ h => by omega, fun _ hx => ?_⟩
      obtain ⟨h12, hc⟩ := hx
      have hq : m' = N + 1 := by
        apply Classical.byContradiction
        intro hn
        exact a3 m' b1 (by omega) (b4 (by omega))
      have hdup : ∃ i j, i < j ∧ j < m' ∧ hsq L f i = hsq L f j := by
        apply Classical.byContradiction
        intro hn
        have := nodup_len (lst (hsq L f) m') L (lst_nodup (fun i j h1 h2 h3 => hn ⟨i, j, h1, h2, h3⟩)) (fun x hx => by
          obtain ⟨k, _, rfl⟩ := List.mem_map.1 hx
          exact (hsq_ok hf hmin k).1)
        rw [lst_len] at this
        omega
      obtain ⟨i, j, hij, hj, he⟩ := hdup
      refine dup_no hm3 (i := i) (j := j) hij (by omega) ?_ hc
      rw [pl_lt (by rw [lst_len]; omega), pl_lt (by rw [lst_len]; exact hj), lst_get _ (by omega), lst_get _ hj]
      exact he
  · have hall : ∀ x, x ∈ L → x = f := fun x hx => Classical.byContradiction fun hne => ho ⟨x, hx, hne⟩
    have hone : hsq L f 1 = f := hall _ (hsq_ok hf hmin 1).1
    have hm1 : m = 1 := by
      apply Classical.byContradiction
      intro hn
      exact a3 1 (Nat.le_refl _) (by omega) hone
    have hm2 : m' = 1 := by
      apply Classical.byContradiction
      intro hn
      exact b3 1 (Nat.le_refl _) (by omega) hone
    refine ⟨by omega, fun h => by omega, fun h => by omega⟩
end
/-- The hull of a polygon's corners goes around the polygon. -/
theorem hull_pol {Q L : List (Int × Int)} (h3 : 3 ≤ Q.length) (hc : Cvx Q.length (pl Q)) (hmem : ∀ x, x ∈ L ↔ x ∈ Q) {i : Nat} (hmin : ∀ c, c ∈ Q → lxlt c (pl Q i) = false) :
    ∀ k, hsq L (pl Q i) k = pl Q (i + k) := by
  have hr := pl_rnd h3
  have hf : pl Q i ∈ L := (hmem _).2 (pl_mem (by omega) i)
  have hm : ∀ c, c ∈ L → lxlt c (pl Q i) = false := fun c hx => hmin c ((hmem c).1 hx)
  have hz := eg_nz (cvx_lft hr hc)
  have hn : ∀ j, Nxt L (pl Q j) (pl Q (j + 1)) := by
    intro j
    refine ⟨(hmem _).2 (pl_mem (by omega) _), fun e => hz j (by unfold eg sbv; rw [e]; simp), fun c hx => ?_⟩
    obtain ⟨t, ht, rfl⟩ := mem_pl ((hmem c).1 hx)
    obtain ⟨u, hu1, hu2, hu⟩ : ∃ u, j ≤ u ∧ u < j + Q.length ∧ pl Q t = pl Q u := by
      have hmod := Nat.mod_add_div j Q.length
      have hlt := Nat.mod_lt j (show 0 < Q.length by omega)
      by_cases hjt : j % Q.length ≤ t
      · refine ⟨t + Q.length * (j / Q.length), by omega, by omega, ?_⟩
        unfold pl; rw [Nat.add_mul_mod_self_left]
      · refine ⟨t + Q.length * (j / Q.length) + Q.length, by omega, by omega, ?_⟩
        unfold pl; rw [Nat.add_mod_right, Nat.add_mul_mod_self_left]
    rw [hu]
    by_cases e1 : u = j
    · subst e1
      exact ⟨Int.le_of_eq (trn_a _ _).symm, fun _ => by rw [l1_zero]; exact l1_nonneg _⟩
    · by_cases e2 : u = j + 1
      · subst e2
        exact ⟨Int.le_of_eq (trn_b _ _).symm, fun _ => Int.le_refl _⟩
      · have := hc j u (by omega) hu2
        have e : lf (pl Q) j u = trn (pl Q j) (pl Q (j + 1)) (pl Q u) := rfl
        exact ⟨by omega, fun h0 => by omega⟩
  intro k
  induction k with
  | zero => rfl
  | succ k ih =>
    obtain ⟨h1, h2⟩ := hsq_ok hf hm k
    obtain ⟨e, g3, g4⟩ := nx_same h2 h1
    have hnx := hn (i + k)
    show pnx L (hsq L (pl Q i) k) = pl Q (i + k + 1)
    rw [e]
    cases hv : mnx L (hsq L (pl Q i) k) with
    | none =>
      exfalso
      have := g4 hv _ hnx.1
      rw [ih] at this
      exact hnx.2.1 this
    | some b =>
      have := g3 b hv
      rw [ih] at this h2
      exact nxt_one h2 this hnx

end Go.Proofs.Ytmjhejmkmdgikaa
