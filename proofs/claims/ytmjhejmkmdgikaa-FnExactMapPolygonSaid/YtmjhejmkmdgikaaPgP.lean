/-
  Both readings of a polygon are the same; IsPolygon in the program and in the model (own work).
-/
import Derived.Test.YtmjhejmkmdgikaaPgC
import Derived.Test.YtmjhejmkmdgikaaPgI
import Derived.Test.YtmjhejmkmdgikaaPtL
namespace Go.Proofs.Ytmjhejmkmdgikaa
open Go.ChangeShapes Go.WideShapes Go.ChangeAt Go.RowKit
set_option linter.unusedVariables false
set_option maxRecDepth 100000
set_option linter.unusedSimpArgs false

def qT (ps : List (Int × Int)) (i : Nat) : Prop := ¬ Up (eg (pl ps) i) ∧ Up (eg (pl ps) (i + 1))
theorem ind1_yes {ps : List (Int × Int)} {i : Nat} (h : qT ps i) : ind1 ps i = 1 := if_pos h
theorem ind1_no {ps : List (Int × Int)} {i : Nat} (h : ¬ qT ps i) : ind1 ps i = 0 := if_neg h
def sgS (ps : List (Int × Int)) : Nat → Nat → Int
  | 0, _ => 0
  | f + 1, i => ind1 ps i + sgS ps f (i + 1)
def okA (ps : List (Int × Int)) (i : Nat) : Prop := isS (pl ps i).1 (pl ps i).2 = true ∧ isPt (pl ps (i + 1)) = true ∧ isPt (pl ps (i + 2)) = true ∧ 0 < dv (eg (pl ps) i) (eg (pl ps) (i + 1))
theorem isL_iff (ps : List (Int × Int)) : ∀ f i t, isL ps f i t = true ↔ (∀ k, k < f → okA ps (i + k)) ∧ t + sgS ps f i = 1
  | 0, i, t => by unfold isL sgS; simp
  | f + 1, i, t => by
    unfold isL sgS
    simp only [Bool.and_eq_true, decide_eq_true_eq]
    rw [isL_iff ps f (i + 1) (t + ind1 ps i)]
    constructor
    · rintro ⟨⟨⟨⟨a, b⟩, c⟩, d⟩, e, g⟩
      refine ⟨fun k hk => ?_, by omega⟩
      cases k with
      | zero => exact ⟨a, b, c, d⟩
      | succ k => have := e k (by omega); rwa [show i + 1 + k = i + (k + 1) by omega] at this
    · rintro ⟨a, b⟩
      obtain ⟨a1, a2, a3, a4⟩ := a 0 (by omega)
      refine ⟨⟨⟨⟨a1, a2⟩, a3⟩, a4⟩, fun k hk => ?_, by omega⟩
      have := a (k + 1) (by omega)
      rwa [show i + (k + 1) = i + 1 + k by omega] at this
theorem sgS_nonneg (ps : List (Int × Int)) : ∀ f i, 0 ≤ sgS ps f i
  | 0, _ => Int.le_refl _
  | f + 1, i => by
    have := sgS_nonneg ps f (i + 1)
    by_cases h : qT ps i
    · show 0 ≤ ind1 ps i + sgS ps f (i + 1); rw [ind1_yes h]; omega
    · show 0 ≤ ind1 ps i + sgS ps f (i + 1); rw [ind1_no h]; omega
theorem sgS_zero (ps : List (Int × Int)) : ∀ f i, sgS ps f i = 0 ↔ ∀ k, k < f → ¬ qT ps (i + k)
  | 0, _ => ⟨fun _ k hk => by omega, fun _ => rfl⟩
  | f + 1, i => by
    have h0 := sgS_nonneg ps f (i + 1)
    have ih := sgS_zero ps f (i + 1)
    show ind1 ps i + sgS ps f (i + 1) = 0 ↔ _
    by_cases h : qT ps i
    · rw [ind1_yes h]
      exact ⟨fun e => by omega, fun k => absurd h (k 0 (by omega))⟩
    · rw [ind1_no h, Int.zero_add, ih]
      constructor
      · intro e k hk
        cases k with
        | zero => exact h
        | succ k => have := e k (by omega); rwa [show i + 1 + k = i + (k + 1) by omega] at this
      · intro e k hk
        have := e (k + 1) (by omega)
        rwa [show i + (k + 1) = i + 1 + k by omega] at this
theorem sgS_one (ps : List (Int × Int)) : ∀ f i, sgS ps f i = 1 ↔ ∃ s, s < f ∧ ∀ j, j < f → (qT ps (i + j) ↔ j = s)
  | 0, _ => ⟨fun h => (by cases h), fun ⟨s, hs, _⟩ => (by omega)⟩
  | f + 1, i => by
    show ind1 ps i + sgS ps f (i + 1) = 1 ↔ _
    by_cases h : qT ps i
    · rw [ind1_yes h]
      constructor
      · intro e
        have hz := (sgS_zero ps f (i + 1)).1 (by omega)
        refine ⟨0, by omega, fun j hj => ?_⟩
        cases j with
        | zero => exact ⟨fun _ => rfl, fun _ => h⟩
        | succ j =>
          have := hz j (by omega)
          rw [show i + 1 + j = i + (j + 1) by omega] at this
          exact ⟨fun hh => absurd hh this, fun hh => by omega⟩
      · rintro ⟨s, hs, hj⟩
        have h0 := (hj 0 (by omega)).1 h
        have := (sgS_zero ps f (i + 1)).2 (fun k hk => by
          rw [show i + 1 + k = i + (k + 1) by omega]
          intro hq
          have := (hj (k + 1) (by omega)).1 hq
          omega)
        omega
    · rw [ind1_no h, Int.zero_add, sgS_one ps f (i + 1)]
      constructor
      · rintro ⟨s, hs, hj⟩
        refine ⟨s + 1, by omega, fun j hj2 => ?_⟩
        cases j with
        | zero => exact ⟨fun hh => absurd hh h, fun hh => by omega⟩
        | succ j =>
          have := hj j (by omega)
          rw [show i + 1 + j = i + (j + 1) by omega] at this
          rw [this]
          omega
      · rintro ⟨s, hs, hj⟩
        cases s with
        | zero => exact absurd ((hj 0 (by omega)).2 rfl) h
        | succ s =>
          refine ⟨s, by omega, fun j hj2 => ?_⟩
          have := hj (j + 1) (by omega)
          rw [show i + (j + 1) = i + 1 + j by omega] at this
          rw [this]
          omega
theorem onc_iff (ps : List (Int × Int)) : sgS ps ps.length 0 = 1 ↔ Onc ps.length (pl ps) := by
  rw [sgS_one]
  simp only [Nat.zero_add]
  exact Iff.rfl
theorem lst_pl (ps : List (Int × Int)) : (List.range ps.length).map (pl ps) = ps := by
  apply List.ext_getElem
  · simp
  · intro i h1 h2
    simp only [List.getElem_map, List.getElem_range]
    rw [pl_lt h2, List.getD_eq_getElem?_getD, List.getElem?_eq_getElem h2]
    rfl
/-- Just two in a row are none. -/
theorem count_two {p : Nat → Bool} {m a b : Nat} (hab : a ≠ b) (ha : a < m) (hb : b < m) (pa : p a = false) (pb : p b = false) :
    (List.range m).countP p = m - 2 ↔ ∀ k, k < m → k ≠ a → k ≠ b → p k = true := by
  have hl := List.length_eq_countP_add_countP (p := p) (l := List.range m)
  rw [List.length_range] at hl
  have hf : (List.range m).countP (fun x => !p x) = ((List.range m).filter (fun x => !p x)).length := List.countP_eq_length_filter
  have hn : ((List.range m).filter (fun x => !p x)).Nodup := List.Nodup.sublist List.filter_sublist List.nodup_range
  have hma : a ∈ (List.range m).filter (fun x => !p x) := List.mem_filter.2 ⟨List.mem_range.2 ha, by simp [pa]⟩
  have hmb : b ∈ (List.range m).filter (fun x => !p x) := List.mem_filter.2 ⟨List.mem_range.2 hb, by simp [pb]⟩
  have e : (List.range m).countP (fun x => !p x) = (List.range m).countP (fun x => decide ¬ p x = true) := by
    congr 1; funext x; cases p x <;> rfl
  rw [← e, hf] at hl
  have h2 : 2 ≤ ((List.range m).filter (fun x => !p x)).length := by
    have := nodup_len [a, b] ((List.range m).filter (fun x => !p x)) (by simp [hab]) (fun x hx => by
      rcases List.mem_cons.1 hx with rfl | hx
      · exact hma
      · simp at hx; subst hx; exact hmb)
    exact this
  constructor
  · intro hc k hk hka hkb
    cases hp : p k
    · exfalso
      have hmk : k ∈ (List.range m).filter (fun x => !p x) := List.mem_filter.2 ⟨List.mem_range.2 hk, by simp [hp]⟩
      have := nodup_len [k, a, b] ((List.range m).filter (fun x => !p x)) (by simp [hab, hka, hkb]) (fun x hx => by
        simp at hx
        rcases hx with rfl | rfl | rfl
        · exact hmk
        · exact hma
        · exact hmb)
      simp only [List.length_cons, List.length_nil] at this
      omega
    · rfl
  · intro hall
    have := nodup_len ((List.range m).filter (fun x => !p x)) [a, b] hn (fun x hx => by
      obtain ⟨h1, h3⟩ := List.mem_filter.1 hx
      have h1 := List.mem_range.1 h1
      by_cases hxa : x = a
      · simp [hxa]
      · by_cases hxb : x = b
        · simp [hxb]
        · have := hall x h1 hxa hxb
          rw [this] at h3
          simp at h3)
    simp only [List.length_cons, List.length_nil] at this
    omega
theorem okS_iff {ps : List (Int × Int)} (h3 : 3 ≤ ps.length) {i : Nat} (hi : i < ps.length) : okS ps i = true ↔ ∀ k, i + 1 < k → k < i + ps.length → 0 < lf (pl ps) i k := by
  unfold okS ctL
  rw [List.take_length, decide_eq_true_eq]
  have hm := Nat.mod_lt (i + 1) (show 0 < ps.length by omega)
  have hne : i ≠ (i + 1) % ps.length := by
    by_cases h : i + 1 < ps.length
    · rw [Nat.mod_eq_of_lt h]; omega
    · have : i + 1 = ps.length := by omega
      rw [this, Nat.mod_self]; omega
  have hlf : ∀ k, lfB ps i (pl ps k) = decide (0 < lf (pl ps) i k) := fun k => rfl
  have hper : pl ps ((i + 1) % ps.length) = pl ps (i + 1) := by unfold pl; rw [Nat.mod_mod]
  have hcount : ps.countP (lfB ps i) = (List.range ps.length).countP (fun k => lfB ps i (pl ps k)) := by
    rw [← Function.comp_def, ← List.countP_map, lst_pl]
  rw [hcount, count_two hne hi hm (by rw [hlf, lf_at]; rfl) (by
    show lfB ps i (pl ps ((i + 1) % ps.length)) = false
    rw [hper, hlf, lf_next]; rfl)]
  have hr := pl_rnd h3
  constructor
  · intro hall k h1 h2
    by_cases hk : k < ps.length
    · have := hall k hk (by omega) (by
        by_cases h : i + 1 < ps.length
        · rw [Nat.mod_eq_of_lt h]; omega
        · omega)
      rw [hlf, decide_eq_true_eq] at this
      exact this
    · have := hall (k - ps.length) (by omega) (by omega) (by
        by_cases h : i + 1 < ps.length
        · rw [Nat.mod_eq_of_lt h]; omega
        · have : i + 1 = ps.length := by omega
          rw [this, Nat.mod_self]; omega)
      rw [hlf, decide_eq_true_eq] at this
      have e := lf_per hr i (k - ps.length)
      rw [show k - ps.length + ps.length = k by omega] at e
      rw [e]
      exact this
  · intro hall k hk hki hkj
    rw [hlf, decide_eq_true_eq]
    by_cases h1 : i + 1 < k
    · exact hall k h1 (by omega)
    · have hlt : k < i := by
        apply Classical.byContradiction
        intro hn
        have : k = i + 1 := by omega
        subst this
        exact hkj (Nat.mod_eq_of_lt hk).symm
      by_cases hlast : k + ps.length = i + 1
      · exfalso
        apply hkj
        rw [← hlast, Nat.add_mod_right, Nat.mod_eq_of_lt hk]
      · have := hall (k + ps.length) (by omega) (by omega)
        rwa [lf_per hr] at this
theorem cvB_iff {ps : List (Int × Int)} (h3 : 3 ≤ ps.length) : cvB ps = true ↔ Cvx ps.length (pl ps) := by
  unfold cvB
  rw [List.all_eq_true]
  constructor
  · intro h
    exact cvx_all (pl_rnd h3) (fun i k hi => (okS_iff h3 hi).1 (h i (List.mem_range.2 hi)) k)
  · intro h i hi
    exact (okS_iff h3 (List.mem_range.1 hi)).2 (fun k => h i k)
/-- Both readings tell the same. -/
theorem isL_same {ps : List (Int × Int)} (h3 : 3 ≤ ps.length) : isL ps ps.length 0 0 = (inC ps && cvB ps) := by
  have hr := pl_rnd h3
  rw [Bool.eq_iff_iff, isL_iff, Bool.and_eq_true, cvB_iff h3, ← cvx_iff hr, Int.zero_add, onc_iff]
  simp only [Nat.zero_add]
  constructor
  · rintro ⟨a, b⟩
    have hin : inC ps = true := List.all_eq_true.2 fun c hc => by
      obtain ⟨k, hk, rfl⟩ := mem_pl hc
      exact (a k hk).1
    refine ⟨hin, fun k => ?_, b⟩
    have := (a (k % ps.length) (Nat.mod_lt _ (by omega))).2.2.2
    have e : ∀ j, pl ps (k % ps.length + j) = pl ps (k + j) := fun j => by unfold pl; rw [Nat.mod_add_mod]
    unfold eg at this ⊢
    have e0 := e 0
    have e1 := e 1
    have e2 := e 2
    simp only [Nat.add_zero] at e0
    rw [e0, e1, show k % ps.length + 1 + 1 = k % ps.length + 2 by omega, e2] at this
    exact this
  · rintro ⟨a, b, c⟩
    refine ⟨fun k hk => ⟨isS_iff.2 (inC_pl a (by omega) k), inC_pt a (by omega) _, inC_pt a (by omega) _, b k⟩, c⟩
theorem isP_eq (ps : List (Int × Int)) : isP ps = (decide (3 ≤ ps.length) && decide (ps.length ≤ 12) && (inC ps && cvB ps)) := by
  unfold isP
  by_cases h : 3 ≤ ps.length
  · rw [isL_same h]
  · rw [decide_eq_false h]; rfl
/-- What a polygon is. -/
theorem isP_iff {ps : List (Int × Int)} : isP ps = true ↔ 3 ≤ ps.length ∧ ps.length ≤ 12 ∧ inC ps = true ∧ Cvx ps.length (pl ps) := by
  rw [isP_eq]
  simp only [Bool.and_eq_true, decide_eq_true_eq]
  constructor
  · rintro ⟨⟨a, b⟩, c, d⟩; exact ⟨a, b, c, (cvB_iff a).1 d⟩
  · rintro ⟨a, b, c, d⟩; exact ⟨⟨a, b⟩, c, (cvB_iff a).2 d⟩
end Go.Proofs.Ytmjhejmkmdgikaa
