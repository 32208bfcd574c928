/-
  The parts of a sail as lists of numbers: lengths, sines, and both in turn (own work).
-/
import Derived.Test.YtjiaokcbhpmodaaSlP
namespace Go.Proofs.Ytjiaokcbhpmodaa
open Go.ChangeShapes Go.WideShapes Go.ChangeAt Go.RowKit
set_option linter.unusedVariables false
set_option linter.unusedSimpArgs false

/-- What the parts' loops have found ahead of the place k. -/
def PS (cs : List Int) (k s : Nat) (pre : List (Nat × Nat)) : Prop := s < k ∧ pre.length < k ∧ pre ++ ptsN (cs.drop k) s k = ptsL cs
theorem PS.start (cs : List Int) : PS cs 1 0 [] := ⟨by omega, by simp, rfl⟩
theorem PS.last {cs : List Int} {k s : Nat} {pre : List (Nat × Nat)} (h : PS cs k s pre) (hk : k + 1 = cs.length) : PS cs (k + 1) k (pre ++ [(s, k)]) := by
  obtain ⟨h1, h2, h3⟩ := h
  refine ⟨by omega, by simp; omega, ?_⟩
  rw [pts_last cs k s hk] at h3
  rw [pts_end cs (k + 1) k (by omega), List.append_nil, h3]
theorem PS.cut {cs : List Int} {k s : Nat} {pre : List (Nat × Nat)} (h : PS cs k s pre) (hk : k + 1 < cs.length) (hc : 2 < cs.getD k 0) : PS cs (k + 1) k (pre ++ [(s, k)]) := by
  obtain ⟨h1, h2, h3⟩ := h
  refine ⟨by omega, by simp; omega, ?_⟩
  rw [pts_cut cs k s hk hc] at h3
  rw [← h3]; simp
theorem PS.on {cs : List Int} {k s : Nat} {pre : List (Nat × Nat)} (h : PS cs k s pre) (hk : k + 1 < cs.length) (hc : ¬ 2 < cs.getD k 0) : PS cs (k + 1) s pre := by
  obtain ⟨h1, h2, h3⟩ := h
  refine ⟨by omega, by omega, ?_⟩
  rw [pts_on cs k s hk hc] at h3
  exact h3
theorem PS.done {cs : List Int} {s : Nat} {pre : List (Nat × Nat)} (h : PS cs cs.length s pre) : pre = ptsL cs := by
  obtain ⟨h1, h2, h3⟩ := h
  rw [pts_end cs _ s (Nat.le_refl _), List.append_nil] at h3
  exact h3
/-- Parts next to each other share their vertex, the first one starts at st. -/
theorem pts_chain (cs : List Int) : ∀ (n i st : Nat), cs.length - i = n → (∀ j, j + 1 < (ptsN (cs.drop i) st i).length → ((ptsN (cs.drop i) st i).getD (j + 1) (0, 0)).1 = ((ptsN (cs.drop i) st i).getD j (0, 0)).2) ∧ (0 < (ptsN (cs.drop i) st i).length → ((ptsN (cs.drop i) st i).getD 0 (0, 0)).1 = st) := by
  intro n
  induction n with
  | zero => intro i st hn; rw [pts_end cs i st (by omega)]; exact ⟨fun j hj => by simp at hj, fun h => by simp at h⟩
  | succ n ih =>
    intro i st hn
    by_cases hl : i + 1 = cs.length
    · rw [pts_last cs i st hl]; exact ⟨fun j hj => by simp at hj, fun _ => by simp⟩
    · by_cases hc : 2 < cs.getD i 0
      · rw [pts_cut cs i st (by omega) hc]
        obtain ⟨h1, h2⟩ := ih (i + 1) i (by omega)
        refine ⟨fun j hj => ?_, fun _ => by simp⟩
        cases j with
        | zero => simpa using h2 (by simpa using hj)
        | succ j => simpa using h1 j (by simpa using hj)
      · rw [pts_on cs i st (by omega) hc]
        exact ih (i + 1) st (by omega)
theorem ptsL_chain (cs : List Int) {j : Nat} (hj : j + 1 < (ptsL cs).length) : ((ptsL cs).getD (j + 1) (0, 0)).1 = ((ptsL cs).getD j (0, 0)).2 := (pts_chain cs _ 1 0 rfl).1 j hj
theorem ptsL_ne {cs : List Int} (h : 2 ≤ cs.length) : 1 ≤ (ptsL cs).length := by
  have : ∀ (n i st : Nat), cs.length - i = n → i < cs.length → 1 ≤ (ptsN (cs.drop i) st i).length := by
    intro n
    induction n with
    | zero => intro i st hn hi; omega
    | succ n ih =>
      intro i st hn hi
      by_cases hl : i + 1 = cs.length
      · rw [pts_last cs i st hl]; simp
      · by_cases hc : 2 < cs.getD i 0
        · rw [pts_cut cs i st (by omega) hc]; simp
        · rw [pts_on cs i st (by omega) hc]; exact ih (i + 1) st (by omega) (by omega)
  exact this _ 1 0 rfl (by omega)
theorem ptsL_len (cs : List Int) : (ptsL cs).length ≤ cs.length := by
  have : ∀ (n i st : Nat), cs.length - i = n → (ptsN (cs.drop i) st i).length ≤ n := by
    intro n
    induction n with
    | zero => intro i st hn; rw [pts_end cs i st (by omega)]; simp
    | succ n ih =>
      intro i st hn
      by_cases hl : i + 1 = cs.length
      · rw [pts_last cs i st hl]; simp
      · by_cases hc : 2 < cs.getD i 0
        · rw [pts_cut cs i st (by omega) hc]; have := ih (i + 1) i (by omega); simp; omega
        · rw [pts_on cs i st (by omega) hc]; have := ih (i + 1) st (by omega); omega
  have := this _ 1 0 rfl
  unfold ptsL
  omega
/-- The lengths and sines. -/
def lnF (p : Nat × Nat) : Int := (p.2 : Int) - p.1
def snF (cs : List Int) (p : Nat × Nat) : Int := cs.getD p.2 0 - 2
def lnS (cs : List Int) : List Int := (ptsL cs).map lnF
def snS (cs : List Int) : List Int := (ptsL cs).dropLast.map (snF cs)
theorem lnS_len (cs : List Int) : (lnS cs).length = (ptsL cs).length := by simp [lnS]
theorem snS_len (cs : List Int) : (snS cs).length = (ptsL cs).length - 1 := by simp [snS]
theorem snS_get {cs : List Int} {j : Nat} (hj : j + 1 < (ptsL cs).length) : (snS cs).getD j 0 = snF cs ((ptsL cs).getD j (0, 0)) := by
  have h1 : j < (ptsL cs).dropLast.length := by simp; omega
  simp only [snS, List.getD_eq_getElem?_getD, List.getElem?_map, List.getElem?_eq_getElem h1, List.getElem_dropLast]
  rw [List.getElem?_eq_getElem (by omega)]
  rfl
theorem lnS_get {cs : List Int} {j : Nat} (hj : j < (ptsL cs).length) : (lnS cs).getD j 0 = lnF ((ptsL cs).getD j (0, 0)) := by
  simp only [lnS, List.getD_eq_getElem?_getD, List.getElem?_map, List.getElem?_eq_getElem hj]
  rfl
/-- The state of the model's loop over the numbers. -/
def LS (cs : List Int) (k : Nat) (xs ys : List Int) (now : Int) : Prop :=
  ∃ s pre, PS cs k s pre ∧ xs = pre.map lnF ∧ ys = (if k < cs.length then pre else pre.dropLast).map (snF cs) ∧ (k < cs.length → now = (k : Int) - 1 - s) ∧ 0 ≤ now ∧ now ≤ k
theorem LS.start {cs : List Int} (h : 2 ≤ cs.length) : LS cs 1 [] [] 0 := ⟨0, [], PS.start cs, rfl, by simp, fun _ => by omega, by omega, by omega⟩
theorem LS.last {cs : List Int} {k : Nat} {xs ys : List Int} {now : Int} (h : LS cs k xs ys now) (hk : k + 1 = cs.length) : LS cs (k + 1) (xs ++ [now + 1]) ys 0 := by
  obtain ⟨s, pre, hp, rfl, rfl, hn, h0, h1⟩ := h
  refine ⟨k, pre ++ [(s, k)], hp.last hk, ?_, ?_, fun hh => by omega, by omega, by omega⟩
  · rw [hn (by omega)]; simp [lnF]; omega
  · rw [if_pos (by omega), if_neg (by omega)]; simp
theorem LS.cut {cs : List Int} {k : Nat} {xs ys : List Int} {now : Int} (h : LS cs k xs ys now) (hk : k + 1 < cs.length) (hc : 2 < cs.getD k 0) : LS cs (k + 1) (xs ++ [now + 1]) (ys ++ [cs.getD k 0 - 2]) 0 := by
  obtain ⟨s, pre, hp, rfl, rfl, hn, h0, h1⟩ := h
  refine ⟨k, pre ++ [(s, k)], hp.cut hk hc, ?_, ?_, fun hh => by omega, by omega, by omega⟩
  · rw [hn (by omega)]; simp [lnF]; omega
  · rw [if_pos (by omega), if_pos (by omega)]; simp [snF]
theorem LS.on {cs : List Int} {k : Nat} {xs ys : List Int} {now : Int} (h : LS cs k xs ys now) (hk : k + 1 < cs.length) (hc : ¬ 2 < cs.getD k 0) : LS cs (k + 1) xs ys (now + 1) := by
  obtain ⟨s, pre, hp, rfl, rfl, hn, h0, h1⟩ := h
  refine ⟨s, pre, hp.on hk hc, rfl, ?_, fun hh => by rw [hn (by omega)]; omega, by omega, by omega⟩
  rw [if_pos (by omega), if_pos (by omega)]
theorem LS.done {cs : List Int} {xs ys : List Int} {now : Int} (h : LS cs cs.length xs ys now) : xs = lnS cs ∧ ys = snS cs := by
  obtain ⟨s, pre, hp, rfl, rfl, _⟩ := h
  rw [hp.done, if_neg (by omega)]
  exact ⟨rfl, rfl⟩
theorem LS.len {cs : List Int} {k : Nat} {xs ys : List Int} {now : Int} (h : LS cs k xs ys now) : xs.length < k ∧ ys.length < k ∧ 0 ≤ now ∧ now ≤ k := by
  obtain ⟨s, pre, hp, rfl, rfl, _, h0, h1⟩ := h
  have := hp.2.1
  refine ⟨by simpa using this, ?_, h0, h1⟩
  split <;> simp <;> omega
/-- Two lists in turn. -/
def ilv : List Int → List Int → List Int
  | [], _ => []
  | x :: xs, [] => x :: ilv xs []
  | x :: xs, y :: ys => x :: y :: ilv xs ys
theorem ilv_x : ∀ (xs ys : List Int) (x : Int), xs.length = ys.length → ilv (xs ++ [x]) ys = ilv xs ys ++ [x]
  | [], [], x, _ => rfl
  | [], _ :: _, x, h => by simp at h
  | _ :: _, [], x, h => by simp at h
  | a :: xs, b :: ys, x, h => by
    simp only [List.cons_append, ilv]
    rw [ilv_x xs ys x (by simpa using h)]
theorem ilv_y : ∀ (xs ys : List Int) (y : Int), xs.length = ys.length + 1 → ilv xs (ys ++ [y]) = ilv xs ys ++ [y]
  | [], ys, y, h => by simp at h
  | [a], [], y, h => rfl
  | a :: b :: xs, [], y, h => by simp at h
  | a :: xs, b :: ys, y, h => by
    simp only [List.cons_append, ilv]
    rw [ilv_y xs ys y (by simpa using h)]
theorem ilv_len : ∀ (xs ys : List Int), ys.length ≤ xs.length → (ilv xs ys).length = xs.length + ys.length
  | [], [], _ => rfl
  | [], _ :: _, h => by simp at h
  | a :: xs, [], _ => by have := ilv_len xs [] (by simp); simp only [ilv, List.length_cons, List.length_nil] at *; omega
  | a :: xs, b :: ys, h => by have := ilv_len xs ys (by simpa using h); simp only [ilv, List.length_cons] at *; omega
theorem ilv_even : ∀ (xs ys : List Int) (t : Nat), t < xs.length → xs.length ≤ ys.length + 1 → (ilv xs ys).getD (2 * t) 0 = xs.getD t 0
  | [], _, _, h, _ => by simp at h
  | a :: xs, [], t, h, hl => by
    have : xs = [] := List.length_eq_zero_iff.1 (by simpa using hl)
    subst this
    have : t = 0 := by simpa using h
    subst this
    rfl
  | a :: xs, b :: ys, 0, _, _ => rfl
  | a :: xs, b :: ys, t + 1, h, hl => by
    have := ilv_even xs ys t (by simpa using h) (by simpa using hl)
    rw [show 2 * (t + 1) = 2 * t + 1 + 1 by omega]
    simpa [ilv] using this
theorem ilv_odd : ∀ (xs ys : List Int) (t : Nat), t < ys.length → ys.length ≤ xs.length → (ilv xs ys).getD (2 * t + 1) 0 = ys.getD t 0
  | _, [], _, h, _ => by simp at h
  | [], _ :: _, _, _, h => by simp at h
  | a :: xs, b :: ys, 0, _, _ => rfl
  | a :: xs, b :: ys, t + 1, h, hl => by
    have := ilv_odd xs ys t (by simpa using h) (by simpa using hl)
    rw [show 2 * (t + 1) + 1 = 2 * t + 1 + 1 + 1 by omega]
    simpa [ilv] using this
theorem take_snoc (xs : List Int) (j : Nat) (h : j < xs.length) : xs.take (j + 1) = xs.take j ++ [xs.getD j 0] := by
  rw [List.take_add_one, List.getElem?_eq_getElem h]
  simp [List.getD, h]
/-- The sequence of an angle. -/
def sqS (cs : List Int) : List Int := ilv (lnS cs) (snS cs)
end Go.Proofs.Ytjiaokcbhpmodaa
