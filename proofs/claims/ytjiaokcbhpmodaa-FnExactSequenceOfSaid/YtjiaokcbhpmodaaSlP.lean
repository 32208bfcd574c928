/-
  Neighbours in sails, their numbers c, and the parts between vertices, as plain lists (own work).
-/
import Derived.Test.YtjiaokcbhpmodaaSl
import Derived.Test.YtjiaokcbhpmodaaPtL
namespace Go.Proofs.Ytjiaokcbhpmodaa
open Go.ChangeShapes Go.WideShapes Go.ChangeAt Go.RowKit
set_option linter.unusedVariables false
set_option linter.unusedSimpArgs false

/-- The numbers c from the point v on, 2 for the last one. -/
def csN (b : Int × Int) : Nat → Int × Int → Int × Int → List Int
  | 0, _, _ => []
  | n + 1, u, v => if v = b then [2] else cS b u v :: csN b n v (nxS b u v)
theorem csN_end {b u : Int × Int} {n : Nat} : csN b (n + 1) u b = [2] := by rw [csN, if_pos rfl]
theorem csN_go {b u v : Int × Int} {n : Nat} (h : v ≠ b) : csN b (n + 1) u v = cS b u v :: csN b n v (nxS b u v) := by rw [csN, if_neg h]
/-- The numbers c of an angle, 2 for both ends. -/
def cnI (a b : Int × Int) : List Int := 2 :: csN b (detP a b).toNat a (nxS b (preS a) a)
theorem an_ne {a b : Int × Int} (h : isAn a b = true) : a ≠ b := fun e => by
  obtain ⟨_, _, _, _, d, _⟩ := isAn_parts h
  rw [e, det_self] at d
  omega
theorem slI_step {a b : Int × Int} (h : isAn a b = true) : slI a b = a :: slN b (detP a b).toNat a (nxS b (preS a) a) := slN_go (an_ne h)
theorem slN_cs : ∀ (n : Nat) (b u v : Int × Int), (csN b n u v).length = (slN b n u v).length
  | 0, _, _, _ => rfl
  | n + 1, b, u, v => by
    by_cases h : v = b
    · subst h; rw [csN_end, slN_end]; rfl
    · rw [csN_go h, slN_go h, List.length_cons, List.length_cons, slN_cs n]
theorem cnI_len {a b : Int × Int} (h : isAn a b = true) : (cnI a b).length = (slI a b).length := by
  rw [slI_step h, cnI, List.length_cons, List.length_cons, slN_cs]
theorem slL_no {a b : Int × Int} (h : isAn a b = false) : slL a b = [] := by unfold slL; rw [h]; simp
theorem slC_no {a b : Int × Int} (h : isAn a b = false) : slC a b = 1 := by unfold slC; rw [h]; simp
theorem slL_yes {a b : Int × Int} (h : isAn a b = true) (hl : (slI a b).length ≤ 2000) : slL a b = slI a b := by unfold slL; rw [if_pos ⟨h, hl⟩]
theorem slC_yes {a b : Int × Int} (h : isAn a b = true) (hl : (slI a b).length ≤ 2000) : slC a b = 0 := by unfold slC; rw [if_pos h, if_pos hl]
theorem slL_limit {a b : Int × Int} (h : isAn a b = true) (hl : 2000 < (slI a b).length) : slL a b = [] := by unfold slL; rw [if_neg (fun h => by omega)]
theorem slC_limit {a b : Int × Int} (h : isAn a b = true) (hl : 2000 < (slI a b).length) : slC a b = 3 := by unfold slC; rw [if_pos h, if_neg (by omega)]
/-- The numbers c that are returned. -/
def cnL (a b : Int × Int) : List Int := if isAn a b = true ∧ (slI a b).length ≤ 2000 then cnI a b else []
theorem cnL_no {a b : Int × Int} (h : isAn a b = false) : cnL a b = [] := by unfold cnL; rw [h]; simp
theorem cnL_yes {a b : Int × Int} (h : isAn a b = true) (hl : (slI a b).length ≤ 2000) : cnL a b = cnI a b := by unfold cnL; rw [if_pos ⟨h, hl⟩]
theorem cnL_limit {a b : Int × Int} (h : isAn a b = true) (hl : 2000 < (slI a b).length) : cnL a b = [] := by unfold cnL; rw [if_neg (fun h => by omega)]
/-- Neighbours in a sail. -/
theorem slN_nbr {a b : Int × Int} (h : isAn a b = true) : ∀ (n : Nat) (u v : Int × Int), SlI a b u v → ∀ k, k + 1 < (slN b n u v).length → SlI a b ((slN b n u v).getD k (0, 0)) ((slN b n u v).getD (k + 1) (0, 0))
  | 0, u, v, _, k, hk => by simp [slN] at hk
  | n + 1, u, v, hi, k, hk => by
    by_cases hv : v = b
    · rw [hv, slN_end] at hk; simp at hk
    · obtain ⟨hx, _⟩ := sl_next h hi (sl_pos h hi hv)
      rw [slN_go hv] at hk ⊢
      rw [List.length_cons] at hk
      cases k with
      | zero =>
        cases n with
        | zero => simp [slN] at hk
        | succ m => rw [slN]; simpa using hx
      | succ k => simpa using slN_nbr h n v _ hx k (by omega)
theorem slI_nbr {a b : Int × Int} (h : isAn a b = true) {k : Nat} (hk : k + 1 < (slI a b).length) : SlI a b ((slI a b).getD k (0, 0)) ((slI a b).getD (k + 1) (0, 0)) :=
  slN_nbr h _ _ _ (sl_first h) k hk
/-- The number c of a point is the determinant of its neighbours. -/
theorem csN_det {a b : Int × Int} (h : isAn a b = true) : ∀ (n : Nat) (u v : Int × Int), SlI a b u v → ∀ k, k + 1 < (slN b n u v).length → (csN b n u v).getD k 0 = detP ((u :: slN b n u v).getD k (0, 0)) ((slN b n u v).getD (k + 1) (0, 0))
  | 0, u, v, _, k, hk => by simp [slN] at hk
  | n + 1, u, v, hi, k, hk => by
    by_cases hv : v = b
    · rw [hv, slN_end] at hk; simp at hk
    · obtain ⟨hx, _, hd, _⟩ := sl_next h hi (sl_pos h hi hv)
      rw [slN_go hv] at hk ⊢
      rw [csN_go hv]
      rw [List.length_cons] at hk
      cases k with
      | zero =>
        cases n with
        | zero => simp [slN] at hk
        | succ m => rw [slN]; simpa using hd.symm
      | succ k => simpa using csN_det h n v _ hx k (by omega)
theorem cnI_det {a b : Int × Int} (h : isAn a b = true) {k : Nat} (hk : k + 2 < (slI a b).length) : (cnI a b).getD (k + 1) 0 = detP ((slI a b).getD k (0, 0)) ((slI a b).getD (k + 2) (0, 0)) := by
  obtain ⟨_, _, _, _, d1, _⟩ := isAn_parts h
  rw [slI_step h] at hk ⊢
  have := csN_det h (detP a b).toNat a (nxS b (preS a) a) (sl_next h (sl_first h) d1).1 k (by rw [List.length_cons] at hk; omega)
  have e : (cnI a b).getD (k + 1) 0 = (csN b (detP a b).toNat a (nxS b (preS a) a)).getD k 0 := by simp [cnI]
  rw [e, this]
  simp
theorem cS_two {a b u v : Int × Int} (hq : 1 ≤ detP v b) (hlt : detP v b < detP u b) : 2 ≤ cS b u v := by
  obtain ⟨c1, c2⟩ := upI_bd (p := detP u b) hq
  have hc : upI (detP u b) (detP v b) = cS b u v := rfl
  rw [hc] at c1 c2
  generalize cS b u v = c at *
  apply Int.not_lt.1
  intro h
  have : (c - 1) * detP v b ≤ 0 := Int.mul_nonpos_of_nonpos_of_nonneg (by omega) (by omega)
  rw [Int.sub_mul] at this
  omega
theorem csN_two {a b : Int × Int} (h : isAn a b = true) : ∀ (n : Nat) (u v : Int × Int), SlI a b u v → detP v b < detP u b → ∀ c ∈ csN b n u v, 2 ≤ c ∧ c ≤ 2000000000000
  | 0, u, v, _, _, c, hc => by simp [csN] at hc
  | n + 1, u, v, hi, hlt, c, hc => by
    by_cases hv : v = b
    · rw [hv, csN_end] at hc; simp at hc; omega
    · have hq := sl_pos h hi hv
      obtain ⟨hx, hd, _, _, hm⟩ := sl_next h hi hq
      rw [csN_go hv] at hc
      rcases List.mem_cons.1 hc with rfl | hc
      · exact ⟨cS_two (a := a) hq hlt, hm⟩
      · exact csN_two h n v _ hx hd c hc
theorem cnI_two {a b : Int × Int} (h : isAn a b = true) : ∀ c ∈ cnI a b, 2 ≤ c ∧ c ≤ 2000000000000 := by
  intro c hc
  obtain ⟨_, _, _, _, d1, _⟩ := isAn_parts h
  obtain ⟨hx, hd, _⟩ := sl_next h (sl_first h) d1
  unfold cnI at hc
  rcases List.mem_cons.1 hc with rfl | hc
  · omega
  · exact csN_two h _ _ _ hx hd c hc
theorem slI_two {a b : Int × Int} (h : isAn a b = true) : 2 ≤ (slI a b).length := by
  obtain ⟨_, _, _, _, d1, _⟩ := isAn_parts h
  rw [slI_step h, List.length_cons]
  have : ∃ n, (detP a b).toNat = n + 1 := ⟨(detP a b).toNat - 1, by omega⟩
  obtain ⟨n, hn⟩ := this
  rw [hn]
  have := slN_len1 (b := b) (u := a) (v := nxS b (preS a) a) (n := n)
  omega
theorem slI_sm {a b : Int × Int} (h : isAn a b = true) {k : Nat} (hk : k < (slI a b).length) : Sm ((slI a b).getD k (0, 0)) := by
  have h2 := slI_two h
  by_cases hk0 : k = 0
  · subst hk0
    exact (slI_nbr h (k := 0) (by omega)).2.2.2.2.2.1
  · have := slI_nbr h (k := k - 1) (by omega)
    rw [show k - 1 + 1 = k by omega] at this
    exact this.2.2.2.2.2.2.1
/-- The numbers of a list of points, cell by cell. -/
theorem flat_get : ∀ (ps : List (Int × Int)) (k : Nat), (flat ps).getD (k * 2) 0 = (ps.getD k (0, 0)).1 ∧ (flat ps).getD (k * 2 + 1) 0 = (ps.getD k (0, 0)).2
  | [], k => by simp [flat]
  | p :: l, 0 => by simp [flat]
  | p :: l, k + 1 => by
    have e : flat (p :: l) = p.1 :: p.2 :: flat l := rfl
    have := flat_get l k
    rw [e, show (k + 1) * 2 = k * 2 + 1 + 1 by omega, show k * 2 + 1 + 1 + 1 = (k * 2 + 1) + 1 + 1 by omega]
    simpa using this
/-- The parts of a sail between its vertices: the numbers c from the place i on, and the start of the part. -/
def ptsN : List Int → Nat → Nat → List (Nat × Nat)
  | [], _, _ => []
  | [_], st, i => [(st, i)]
  | c :: d :: r, st, i => if 2 < c then (st, i) :: ptsN (d :: r) i (i + 1) else ptsN (d :: r) st (i + 1)
theorem ptsN_nil {st i : Nat} : ptsN [] st i = [] := by rw [ptsN]
theorem ptsN_one {c : Int} {st i : Nat} : ptsN [c] st i = [(st, i)] := by rw [ptsN]
theorem ptsN_cut {c d : Int} {r : List Int} {st i : Nat} (h : 2 < c) : ptsN (c :: d :: r) st i = (st, i) :: ptsN (d :: r) i (i + 1) := by rw [ptsN, if_pos h]
theorem ptsN_on {c d : Int} {r : List Int} {st i : Nat} (h : ¬ 2 < c) : ptsN (c :: d :: r) st i = ptsN (d :: r) st (i + 1) := by rw [ptsN, if_neg h]
def ptsL (cs : List Int) : List (Nat × Nat) := ptsN (cs.drop 1) 0 1
theorem drop_at (cs : List Int) (i : Nat) (h : i < cs.length) : cs.drop i = cs.getD i 0 :: cs.drop (i + 1) := by
  rw [List.drop_eq_getElem_cons h]
  simp [List.getD, h]
/-- At the last place, at a vertex, and between vertices. -/
theorem pts_last (cs : List Int) (i st : Nat) (h : i + 1 = cs.length) : ptsN (cs.drop i) st i = [(st, i)] := by
  rw [drop_at cs i (by omega), List.drop_of_length_le (by omega), ptsN_one]
theorem pts_cut (cs : List Int) (i st : Nat) (h : i + 1 < cs.length) (hc : 2 < cs.getD i 0) : ptsN (cs.drop i) st i = (st, i) :: ptsN (cs.drop (i + 1)) i (i + 1) := by
  rw [drop_at cs i (by omega), drop_at cs (i + 1) h, ptsN_cut hc]
theorem pts_on (cs : List Int) (i st : Nat) (h : i + 1 < cs.length) (hc : ¬ 2 < cs.getD i 0) : ptsN (cs.drop i) st i = ptsN (cs.drop (i + 1)) st (i + 1) := by
  rw [drop_at cs i (by omega), drop_at cs (i + 1) h, ptsN_on hc]
theorem pts_end (cs : List Int) (i st : Nat) (h : cs.length ≤ i) : ptsN (cs.drop i) st i = [] := by
  rw [List.drop_of_length_le h, ptsN_nil]
/-- No vertices between the ends of a part, and parts next to each other share a vertex. -/
def PartOk (cs : List Int) (p : Nat × Nat) : Prop := p.1 < p.2 ∧ p.2 < cs.length ∧ ∀ j, p.1 < j → j < p.2 → ¬ 2 < cs.getD j 0
theorem pts_ok (cs : List Int) : ∀ (n i st : Nat), cs.length - i = n → st < i → (∀ j, st < j → j < i → ¬ 2 < cs.getD j 0) → ∀ p ∈ ptsN (cs.drop i) st i, PartOk cs p := by
  intro n
  induction n with
  | zero => intro i st hn hs hj p hp; rw [pts_end cs i st (by omega)] at hp; cases hp
  | succ n ih =>
    intro i st hn hs hj p hp
    by_cases hl : i + 1 = cs.length
    · rw [pts_last cs i st hl] at hp
      rw [List.mem_singleton.1 hp]
      exact ⟨hs, by dsimp only; omega, hj⟩
    · by_cases hc : 2 < cs.getD i 0
      · rw [pts_cut cs i st (by omega) hc] at hp
        rcases List.mem_cons.1 hp with rfl | hp
        · exact ⟨hs, by dsimp only; omega, hj⟩
        · exact ih (i + 1) i (by omega) (by omega) (fun j h1 h2 => by omega) p hp
      · rw [pts_on cs i st (by omega) hc] at hp
        refine ih (i + 1) st (by omega) (by omega) (fun j h1 h2 => ?_) p hp
        by_cases he : j = i
        · rw [he]; exact hc
        · exact hj j h1 (by omega)
theorem ptsL_ok (cs : List Int) : ∀ p ∈ ptsL cs, PartOk cs p := pts_ok cs _ 1 0 rfl (by omega) (fun j h1 h2 => by omega)
end Go.Proofs.Ytjiaokcbhpmodaa
