/-
  Polygons. The searches of the program and the model (own work; mathematics only).
-/
import Derived.Test.YtmjhejmkmdgikaaPoH
namespace Go.Proofs.Ytmjhejmkmdgikaa
set_option linter.unusedVariables false
set_option maxRecDepth 100000
set_option linter.unusedSectionVars false

/-- Which of two is to be taken, seen from a. -/
def better (a nx c : Int × Int) : Bool := decide (trn a nx c < 0) || (decide (trn a nx c = 0) && decide (l1 (sbv nx a) < l1 (sbv c a)))
/-- The model's search for the corner behind a. -/
def mst (a : Int × Int) (acc : Option (Int × Int)) (c : Int × Int) : Option (Int × Int) :=
  if c = a then acc else match acc with
    | none => some c
    | some nx => if better a nx c = true then some c else some nx
def mnx (L : List (Int × Int)) (a : Int × Int) : Option (Int × Int) := L.foldl (mst a) none
/-- The program's. -/
def okc (L : List (Int × Int)) (a b : Int × Int) : Bool := L.all fun c => !(decide (trn a b c < 0) || (decide (trn a b c = 0) && decide (gcv (sbv b a) < gcv (sbv c a))))
def pnx (L : List (Int × Int)) (a : Int × Int) : Int × Int := (L.find? (okc L a)).getD a
theorem okc_iff {L : List (Int × Int)} {a b : Int × Int} : okc L a b = true ↔ ∀ c, c ∈ L → 0 ≤ trn a b c ∧ (trn a b c = 0 → gcv (sbv c a) ≤ gcv (sbv b a)) := by
  unfold okc
  rw [List.all_eq_true]
  constructor
  · intro h c hc
    have := h c hc
    simp only [Bool.not_eq_true', Bool.or_eq_false_iff, Bool.and_eq_false_iff, decide_eq_false_iff_not] at this
    refine ⟨by omega, fun hz => ?_⟩
    rcases this.2 with h | h
    · exact absurd hz h
    · omega
  · intro h c hc
    have := h c hc
    simp only [Bool.not_eq_true', Bool.or_eq_false_iff, Bool.and_eq_false_iff, decide_eq_false_iff_not]
    refine ⟨by omega, ?_⟩
    by_cases hz : trn a b c = 0
    · exact .inr (by have := this.2 hz; omega)
    · exact .inl hz
theorem trn_a (a b : Int × Int) : trn a b a = 0 := by unfold trn dv sbv; grind
theorem trn_b (a b : Int × Int) : trn a b b = 0 := by unfold trn dv sbv; grind
theorem trn_same (a c : Int × Int) : trn a a c = 0 := by unfold trn dv sbv; grind
theorem gcv_zero (a : Int × Int) : gcv (sbv a a) = 0 := by unfold gcv sbv; simp
theorem l1_zero (a : Int × Int) : l1 (sbv a a) = 0 := by unfold l1 sbv; simp
theorem okc_nxt {L : List (Int × Int)} {a b : Int × Int} (hb : b ∈ L) (hne : b ≠ a) : okc L a b = true ↔ Nxt L a b := by
  rw [okc_iff]
  constructor
  · intro h
    refine ⟨hb, hne, fun c hc => ⟨(h c hc).1, fun hz => (far_iff hz (sbv_nz hne)).2 ((h c hc).2 hz)⟩⟩
  · intro h c hc
    exact ⟨(h.2.2 c hc).1, fun hz => (far_iff hz (sbv_nz hne)).1 ((h.2.2 c hc).2 hz)⟩
/-- What the model's search holds. -/
def Msv (S : List (Int × Int)) (a : Int × Int) : Option (Int × Int) → Prop
  | none => ∀ c, c ∈ S → c = a
  | some b => b ∈ S ∧ b ≠ a ∧ ∀ c, c ∈ S → 0 ≤ trn a b c ∧ (trn a b c = 0 → l1 (sbv c a) ≤ l1 (sbv b a))
theorem mst_ok {L S : List (Int × Int)} {a c : Int × Int} {acc : Option (Int × Int)} (he : Ext L a) (hS : ∀ x, x ∈ S → x ∈ L) (hc : c ∈ L) (h : Msv S a acc) : Msv (S ++ [c]) a (mst a acc c) := by
  obtain ⟨d, hd, hh⟩ := he
  unfold mst
  by_cases hca : c = a
  · rw [if_pos hca]
    cases acc with
    | none =>
      intro x hx
      rcases List.mem_append.1 hx with hx | hx
      · exact h x hx
      · simp at hx; rw [hx, hca]
    | some b =>
      refine ⟨List.mem_append_left _ h.1, h.2.1, fun x hx => ?_⟩
      rcases List.mem_append.1 hx with hx | hx
      · exact h.2.2 x hx
      · simp at hx
        subst hx
        subst hca
        exact ⟨Int.le_of_eq (trn_a _ _).symm, fun _ => by rw [l1_zero]; exact l1_nonneg _⟩
  · rw [if_neg hca]
    cases acc with
    | none =>
      refine ⟨List.mem_append_right _ (by simp), hca, fun x hx => ?_⟩
      rcases List.mem_append.1 hx with hx | hx
      · rw [h x hx]; exact ⟨Int.le_of_eq (trn_a _ _).symm, fun _ => by rw [l1_zero]; exact l1_nonneg _⟩
      · simp at hx; subst hx; exact ⟨Int.le_of_eq (trn_b _ _).symm, fun _ => Int.le_refl _⟩
    | some b =>
      obtain ⟨hb, hba, hall⟩ := h
      have Hb := hh b (hS b hb) hba
      have Hc := hh c hc hca
      have sw : trn a c b = - trn a b c := dv_sw _ _
      by_cases hbt : better a b c = true
      · show Msv (S ++ [c]) a (if better a b c = true then some c else some b)
        rw [if_pos hbt]
        unfold better at hbt
        simp only [Bool.or_eq_true, Bool.and_eq_true, decide_eq_true_eq] at hbt
        refine ⟨List.mem_append_right _ (by simp), hca, fun x hx => ?_⟩
        rcases List.mem_append.1 hx with hx | hx
        · have hxa := hall x hx
          by_cases hxe : x = a
          · subst hxe; exact ⟨Int.le_of_eq (trn_a _ _).symm, fun _ => by rw [l1_zero]; exact l1_nonneg _⟩
          · have Hx := hh x (hS x hx) hxe
            rcases hbt with hneg | ⟨hz, hfar⟩
            · have : 0 < trn a c x := hf_turn hd Hc Hb Hx (by unfold trn at sw; unfold trn at hneg; omega) hxa.1
              exact ⟨by omega, fun h0 => by omega⟩
            · obtain ⟨p, q, hp, hq, e1, e2⟩ := hf_par hd Hc Hb (by rw [dv_sw]; unfold trn at hz; omega)
              have k : p * trn a c x = q * trn a b x := by unfold trn dv; grind
              refine ⟨(nn_mul hp).1 (by rw [k]; exact Int.mul_nonneg (Int.le_of_lt hq) hxa.1), fun h0 => ?_⟩
              rw [h0, Int.mul_zero] at k
              have : trn a b x = 0 := by
                rcases Int.mul_eq_zero.1 k.symm with h | h
                · omega
                · exact h
              have := hxa.2 this
              omega
        · simp at hx; subst hx; exact ⟨Int.le_of_eq (trn_b _ _).symm, fun _ => Int.le_refl _⟩
      · show Msv (S ++ [c]) a (if better a b c = true then some c else some b)
        rw [if_neg hbt]
        unfold better at hbt
        simp only [Bool.or_eq_true, Bool.and_eq_true, decide_eq_true_eq, not_or, not_and] at hbt
        refine ⟨List.mem_append_left _ hb, hba, fun x hx => ?_⟩
        rcases List.mem_append.1 hx with hx | hx
        · exact hall x hx
        · simp at hx; subst hx; exact ⟨by omega, fun h0 => by have := hbt.2 h0; omega⟩
theorem mfold_ok {L : List (Int × Int)} {a : Int × Int} (he : Ext L a) : ∀ (R S : List (Int × Int)) (acc : Option (Int × Int)), (∀ x, x ∈ S → x ∈ L) → (∀ x, x ∈ R → x ∈ L) → Msv S a acc → Msv (S ++ R) a (R.foldl (mst a) acc)
  | [], S, acc, _, _, h => by rw [List.append_nil]; exact h
  | c :: R, S, acc, hS, hR, h => by
    have := mfold_ok he R (S ++ [c]) (mst a acc c) (fun x hx => by
      rcases List.mem_append.1 hx with hx | hx
      · exact hS x hx
      · simp at hx; subst hx; exact hR _ (by simp)) (fun x hx => hR x (by simp [hx])) (mst_ok he hS (hR c (by simp)) h)
    rw [List.append_assoc] at this
    exact this
theorem mnx_ok {L : List (Int × Int)} {a : Int × Int} (he : Ext L a) : Msv L a (mnx L a) := by
  have := mfold_ok he L [] none (fun x hx => by simp at hx) (fun x hx => hx) (fun c hc => by simp at hc)
  rwa [List.nil_append] at this
/-- Both searches answer the same. -/
theorem nx_same {L : List (Int × Int)} {a : Int × Int} (he : Ext L a) (ha : a ∈ L) : pnx L a = (mnx L a).getD a ∧ (∀ b, mnx L a = some b → Nxt L a b) ∧ (mnx L a = none → ∀ c, c ∈ L → c = a) := by
  have hm := mnx_ok he
  cases hv : mnx L a with
  | none =>
    rw [hv] at hm
    refine ⟨?_, fun b hb => (by cases hb), fun _ => hm⟩
    unfold pnx
    cases hf : L.find? (okc L a) with
    | none => rfl
    | some b => exact hm b (List.mem_of_find?_eq_some hf)
  | some b =>
    rw [hv] at hm
    have hn : Nxt L a b := hm
    refine ⟨?_, fun b' hb' => by cases hb'; exact hn, fun h => (by cases h)⟩
    show pnx L a = b
    unfold pnx
    cases hf : L.find? (okc L a) with
    | none =>
      have := List.find?_eq_none.1 hf b hn.1
      exact absurd ((okc_nxt hn.1 hn.2.1).2 hn) this
    | some b' =>
      have hb' := List.mem_of_find?_eq_some hf
      have hok := List.find?_some hf
      by_cases hba : b' = a
      · exfalso
        subst hba
        have := (okc_iff.1 hok) b hn.1
        have h2 := this.2 (trn_same _ _)
        rw [gcv_zero] at h2
        have := gcv_pos (sbv_nz hn.2.1)
        omega
      · exact (nxt_one he hn ((okc_nxt hb' hba).1 hok)).symm
/-- The least point. -/
def lxlt (a b : Int × Int) : Bool := decide (a.1 < b.1) || (decide (a.1 = b.1) && decide (a.2 < b.2))
def lmin (L : List (Int × Int)) (a : Int × Int) : Int × Int := L.foldl (fun m c => if lxlt c m = true then c else m) a
theorem lxlt_iff {a b : Int × Int} : lxlt a b = true ↔ a.1 < b.1 ∨ (a.1 = b.1 ∧ a.2 < b.2) := by simp [lxlt]
theorem lmin_ok : ∀ (L : List (Int × Int)) (a : Int × Int), (lmin L a = a ∨ lmin L a ∈ L) ∧ lxlt a (lmin L a) = false ∧ ∀ c, c ∈ L → lxlt c (lmin L a) = false
  | [], a => ⟨.inl rfl, by
      show lxlt a a = false
      cases h : lxlt a a
      · rfl
      · have := lxlt_iff.1 h; omega, fun c hc => by simp at hc⟩
  | x :: L, a => by
    show (lmin L (if lxlt x a = true then x else a) = a ∨ lmin L (if lxlt x a = true then x else a) ∈ x :: L) ∧ _
    have h := lmin_ok L (if lxlt x a = true then x else a)
    have hd : lmin (x :: L) a = lmin L (if lxlt x a = true then x else a) := rfl
    rw [hd]
    obtain ⟨h1, h2, h3⟩ := h
    generalize lmin L (if lxlt x a = true then x else a) = m at h1 h2 h3 ⊢
    by_cases hx : lxlt x a = true
    · rw [if_pos hx] at h1 h2
      have e1 := lxlt_iff.1 hx
      have n2 : ¬ (x.1 < m.1 ∨ (x.1 = m.1 ∧ x.2 < m.2)) := fun h => by rw [lxlt_iff.2 h] at h2; cases h2
      refine ⟨.inr (by rcases h1 with h | h <;> simp [h]), ?_, fun c hc => ?_⟩
      · cases hq : lxlt a m
        · rfl
        · have := lxlt_iff.1 hq; omega
      · rcases List.mem_cons.1 hc with rfl | hc
        · exact h2
        · exact h3 c hc
    · rw [if_neg hx] at h1 h2
      have n1 : ¬ (x.1 < a.1 ∨ (x.1 = a.1 ∧ x.2 < a.2)) := fun h => hx (lxlt_iff.2 h)
      have n2 : ¬ (a.1 < m.1 ∨ (a.1 = m.1 ∧ a.2 < m.2)) := fun h => by rw [lxlt_iff.2 h] at h2; cases h2
      refine ⟨by rcases h1 with h | h <;> simp [h], h2, fun c hc => ?_⟩
      rcases List.mem_cons.1 hc with rfl | hc
      · cases hq : lxlt c m
        · rfl
        · have := lxlt_iff.1 hq; omega
      · exact h3 c hc
theorem lmin_ext {L : List (Int × Int)} {m : Int × Int} (h : ∀ c, c ∈ L → lxlt c m = false) : Ext L m := by
  refine ⟨(0, -1), by simp, fun c hc hne => ?_⟩
  have h1 := h c hc
  have n1 : ¬ (c.1 < m.1 ∨ (c.1 = m.1 ∧ c.2 < m.2)) := fun h => by rw [lxlt_iff.2 h] at h1; cases h1
  have n2 : ¬ (c.1 = m.1 ∧ c.2 = m.2) := fun h => hne (Prod.ext h.1 h.2)
  unfold Hf dv sbv
  simp only
  omega

end Go.Proofs.Ytmjhejmkmdgikaa
