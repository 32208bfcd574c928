/-
  Best approximations of the second kind are of the first kind; ratios compared the other way around (own work).
-/
import Derived.Test.YtibmkmcdggokbaaBeR
import Derived.Test.YtibmkmcdggokbaaBeB
import Derived.Test.YtibmkmcdggokbaaRowP
namespace Go.Proofs.Ytibmkmcdggokbaa
open Go.ChangeShapes Go.WideShapes Go.ChangeAt Go.RowKit
set_option linter.unusedVariables false
set_option linter.unusedSimpArgs false
set_option maxRecDepth 100000

theorem btK_tt {p q k l : Int} : btK true p q k l = decide (nrM (k * p) q < nrM (l * p) q) := rfl
theorem btK_ff {p q k l : Int} : btK false p q k l = decide (nrM (k * p) q * l < nrM (l * p) q * k) := rfl
/-- The last record of the second kind misses least. -/
theorem rc_least (p q : Int) : ∀ (n : Nat) (j : Int), 1 ≤ j → j ≤ (n : Int) + 1 → nrM ((rcS (btK true p q) n).2 * p) q ≤ nrM (j * p) q
  | 0, j, h1, h2 => by
    have : j = 1 := by omega
    rw [this]
    exact Int.le_refl _
  | n + 1, j, h1, h2 => by
    have ih := rc_least p q n
    cases h : btK true p q ((n : Int) + 2) (rcS (btK true p q) n).2 with
    | true =>
      rw [rcS_yes h]
      rw [btK_tt] at h
      have h := of_decide_eq_true h
      by_cases hj : j = (n : Int) + 2
      · rw [hj]; exact Int.le_refl _
      · have := ih j h1 (by omega)
        show nrM (((n : Int) + 2) * p) q ≤ _
        omega
    | false =>
      rw [rcS_no h]
      rw [btK_tt] at h
      have h := of_decide_eq_false h
      by_cases hj : j = (n : Int) + 2
      · rw [hj]; omega
      · exact ih j h1 (by omega)
theorem rc_sub (p q : Int) (hq : 1 ≤ q) : ∀ (n : Nat) (x : Int), x ∈ (rcS (btK true p q) n).1 → x ∈ (rcS (btK false p q) n).1
  | 0, x, h => h
  | n + 1, x, hx => by
    have ih := rc_sub p q hq n
    cases h : btK true p q ((n : Int) + 2) (rcS (btK true p q) n).2 with
    | true =>
      have hf : btK false p q ((n : Int) + 2) (rcS (btK false p q) n).2 = true := by
        rw [btK_tt] at h
        rw [btK_ff]
        have h := of_decide_eq_true h
        have l := rcS_last (bt := btK false p q) n
        have m := rc_least p q n (rcS (btK false p q) n).2 l.1 l.2
        generalize (rcS (btK false p q) n).2 = L at *
        generalize (rcS (btK true p q) n).2 = T at *
        have b1 := (nrM_bd (x := ((n : Int) + 2) * p) hq).1
        have b2 := (nrM_bd (x := L * p) hq).1
        generalize nrM (((n : Int) + 2) * p) q = A at *
        generalize nrM (L * p) q = C at *
        generalize nrM (T * p) q = D at *
        have e1 : A * L < C * L := Int.mul_lt_mul_of_pos_right (by omega) (by omega)
        have e2 : C * L ≤ C * ((n : Int) + 2) := Int.mul_le_mul_of_nonneg_left (by omega) b2
        exact decide_eq_true (by omega)
      rw [rcS_yes h] at hx
      rw [rcS_yes hf]
      rcases List.mem_append.1 hx with hx | hx
      · exact List.mem_append.2 (.inl (ih x hx))
      · exact List.mem_append.2 (.inr hx)
    | false =>
      rw [rcS_no h] at hx
      have := ih x hx
      cases hf : btK false p q ((n : Int) + 2) (rcS (btK false p q) n).2 with
      | true => rw [rcS_yes hf]; exact List.mem_append.2 (.inl this)
      | false => rw [rcS_no hf]; exact this
theorem rc_asc {bt : Int → Int → Bool} : ∀ n : Nat, (rcS bt n).1.Pairwise (· < ·)
  | 0 => by show List.Pairwise _ [(1 : Int)]; simp
  | n + 1 => by
    have ih := rc_asc (bt := bt) n
    cases h : bt ((n : Int) + 2) (rcS bt n).2 with
    | true =>
      rw [rcS_yes h]
      refine List.pairwise_append.2 ⟨ih, by simp, ?_⟩
      intro a ha b hb
      simp only [List.mem_singleton] at hb
      have := rcS_all (bt := bt) n a ha
      omega
    | false => rw [rcS_no h]; exact ih
/-- Where the elements of one ascending list stand in another one. -/
theorem pos_ex {L1 L2 : List Int} (a1 : L1.Pairwise (· < ·)) (a2 : L2.Pairwise (· < ·)) (hs : ∀ x, x ∈ L2 → x ∈ L1) :
    ∃ f : Nat → Nat, (∀ i, i < L2.length → f i < L1.length ∧ L1.getD (f i) 0 = L2.getD i 0) ∧ (∀ i, i + 1 < L2.length → f i ≤ f (i + 1)) ∧ (∀ i j, i < L2.length → j < f i → L1.getD j 0 ≠ L2.getD i 0) := by
  have get1 : ∀ {L : List Int}, L.Pairwise (· < ·) → ∀ i j, i < j → j < L.length → L.getD i 0 < L.getD j 0 := by
    intro L h i j hij hj
    have := (List.pairwise_iff_getElem.1 h) i j (by omega) hj hij
    simpa [List.getD, hj, show i < L.length by omega] using this
  have each : ∀ i, ∃ r, i < L2.length → r < L1.length ∧ L1.getD r 0 = L2.getD i 0 := by
    intro i
    by_cases hi : i < L2.length
    · have hm : L2.getD i 0 ∈ L1 := hs _ (by simp [List.getD, hi])
      obtain ⟨r, hr, e⟩ := List.getElem_of_mem hm
      exact ⟨r, fun _ => ⟨hr, by rw [← e]; simp [List.getD, hr]⟩⟩
    · exact ⟨0, fun h => absurd h hi⟩
  obtain ⟨f, hf⟩ := Classical.axiomOfChoice each
  refine ⟨f, hf, ?_, ?_⟩
  · intro i hi
    obtain ⟨h1, e1⟩ := hf i (by omega)
    obtain ⟨h2, e2⟩ := hf (i + 1) hi
    have hlt := get1 a2 i (i + 1) (by omega) hi
    by_cases h : f i ≤ f (i + 1)
    · exact h
    · have := get1 a1 (f (i + 1)) (f i) (by omega) h1
      omega
  · intro i j hi hj e
    obtain ⟨h1, e1⟩ := hf i hi
    have := get1 a1 j (f i) hj h1
    omega
theorem rtB_q {p q : Int} (h : rtB p q 1 = true) : 1 ≤ q := by
  unfold rtB at h
  simp only [Bool.and_eq_true] at h
  have := inB_iff.1 h.2
  omega
theorem bsC_ok {p q n : Int} (h : bsC p q n = 0) : rtB p q 1 = true ∧ inB n 1 100000 = true := by
  unfold bsC at h
  split at h
  · rename_i h1
    split at h
    · rename_i h2; exact ⟨h1, h2⟩
    · exact absurd h (by decide)
  · exact absurd h (by decide)
theorem bsL_ok {s : Bool} {p q n : Int} (h : bsC p q n = 0) : bsL s p q n = bsP p q (rcS (btK s p q) (n.toNat - 1)).1 := by
  obtain ⟨h1, h2⟩ := bsC_ok h
  unfold bsL
  rw [if_pos h1, if_pos h2]
theorem bsL_err {s : Bool} {p q n : Int} (h : ¬ bsC p q n = 0) : bsL s p q n = [] := by
  unfold bsL bsC at *
  split
  · rename_i h1
    rw [if_pos h1] at h
    split
    · rename_i h2; rw [if_pos h2] at h; exact absurd rfl h
    · rfl
  · rfl
/-- The nearest point is the last one of the first kind. -/
theorem nf_is {p q n : Int} (h : bsC p q n = 0) : 1 ≤ (bsL false p q n).length ∧ (bsL false p q n).getD ((bsL false p q n).length - 1) (0, 0) = (nfX p q n, nfY p q n) := by
  obtain ⟨h1, h2⟩ := bsC_ok h
  rw [bsL_ok h, nf_last]
  refine ⟨by rw [bsP_len]; exact (rcS_len _).1, ?_⟩
  unfold nfX nfY
  rw [if_pos h1, if_pos h2, if_pos h1, if_pos h2]
theorem cq_back {p q r s : Int} (h : cqC p q r s = 0) : cqC r s p q = 0 ∧ cqV r s p q = -cqV p q r s := by
  unfold cqC cqV at *
  split at h
  · rename_i h1
    split at h
    · rename_i h2
      rw [if_pos h1, if_pos h2, if_pos h1, if_pos h2]
      refine ⟨rfl, ?_⟩
      unfold cmI
      repeat' split
      all_goals omega
    · exact absurd h (by decide)
  · exact absurd h (by decide)
theorem bsP_getD (p q : Int) (L : List Int) (k : Nat) (h : k < L.length) : (bsP p q L).getD k (0, 0) = (nrP (L.getD k 0 * p) q, L.getD k 0) := by
  unfold bsP
  simp [List.getD, h]
/-- Both lists as numbers, and where the elements of the one stand in the other. -/
theorem bs_two {p q n : Int} (h : bsC p q n = 0) : ∃ (X : Int → Int) (K1 K2 : Nat → Int) (f : Nat → Nat),
    (∀ k, k < (bsL true p q n).length → (flat (bsL true p q n)).getD (k * 2) 0 = X (K2 k) ∧ (flat (bsL true p q n)).getD (k * 2 + 1) 0 = K2 k) ∧
    (∀ k, k < (bsL false p q n).length → (flat (bsL false p q n)).getD (k * 2) 0 = X (K1 k) ∧ (flat (bsL false p q n)).getD (k * 2 + 1) 0 = K1 k) ∧
    (∀ i, i < (bsL true p q n).length → f i < (bsL false p q n).length ∧ K1 (f i) = K2 i) ∧ (∀ i, i + 1 < (bsL true p q n).length → f i ≤ f (i + 1)) ∧ (∀ i j, i < (bsL true p q n).length → j < f i → K1 j ≠ K2 i) := by
  obtain ⟨h1, h2⟩ := bsC_ok h
  have hq := rtB_q h1
  rw [bsL_ok h, bsL_ok h]
  obtain ⟨f, f1, f2, f3⟩ := pos_ex (rc_asc (bt := btK false p q) (n.toNat - 1)) (rc_asc (bt := btK true p q) (n.toNat - 1)) (rc_sub p q hq (n.toNat - 1))
  generalize (rcS (btK true p q) (n.toNat - 1)).1 = L2 at *
  generalize (rcS (btK false p q) (n.toNat - 1)).1 = L1 at *
  rw [bsP_len, bsP_len]
  refine ⟨fun k => nrP (k * p) q, fun i => L1.getD i 0, fun i => L2.getD i 0, f, ?_, ?_, f1, f2, f3⟩
  · intro k hk
    have := flat_getD (bsP p q L2) k
    rw [bsP_getD p q L2 k hk] at this
    exact this
  · intro k hk
    have := flat_getD (bsP p q L1) k
    rw [bsP_getD p q L1 k hk] at this
    exact this
/-- The nearest point as numbers of the flat list. -/
theorem nf_flat {p q n : Int} (h : bsC p q n = 0) : 1 ≤ (bsL false p q n).length ∧ (flat (bsL false p q n)).getD (((bsL false p q n).length - 1) * 2) 0 = nfX p q n ∧ (flat (bsL false p q n)).getD (((bsL false p q n).length - 1) * 2 + 1) 0 = nfY p q n := by
  obtain ⟨h1, h2⟩ := nf_is h
  have := flat_getD (bsL false p q n) ((bsL false p q n).length - 1)
  rw [h2] at this
  exact ⟨h1, this.1, this.2⟩
end Go.Proofs.Ytibmkmcdggokbaa
