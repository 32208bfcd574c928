/-
  The pairs of a list as the library's Chunk hands them, and the runs that they tell (own work).
-/
import Derived.Test.YtbgifgfegndlkabChk
namespace Go.Proofs.Ytbgifgfegndlkab
open Go.ChangeShapes Go.WideShapes Go.ChangeAt Go.RowKit Go.Shelf
set_option linter.unusedVariables false
set_option linter.unusedSimpArgs false

theorem rOk_all : ∀ (xs : List Int) (l : Int), 0 ≤ l → rOk l xs = true → (∀ i, i < xs.length → 1 ≤ xs.getD i 0 ∧ xs.getD i 0 ≤ l) ∧ (xs.length : Int) ≤ l
  | [], l, h0, _ => ⟨fun i hi => by simp at hi, by simpa using h0⟩
  | n :: t, l, h0, h => by
    have h1 : 1 ≤ n := by
      rcases Int.lt_or_le n 1 with h2 | h2
      · rw [rOk_low h2] at h; cases h
      · exact h2
    have h3 : n ≤ l := by
      rcases Int.lt_or_le l n with h2 | h2
      · rw [rOk_high h2] at h; cases h
      · exact h2
    rw [rOk_go h1 h3] at h
    have ih := rOk_all t (l - n) (by omega) h
    refine ⟨fun i hi => ?_, ?_⟩
    · cases i with
      | zero => exact ⟨h1, h3⟩
      | succ k =>
        have := ih.1 k (by simpa using hi)
        rw [List.getD_cons_succ]
        omega
    · have := ih.2
      rw [List.length_cons]; omega
/-- The letters of one pair. -/
def prL (xs : List Int) (x : Nat) : List UInt8 := List.replicate (xs.getD (x * 2) 0).toNat 82 ++ List.replicate (xs.getD (x * 2 + 1) 0).toNat 76
theorem wp_pairs (xs : List Int) : ∀ (m j : Nat), xs.length = (j + m) * 2 → wpL (j * 2) (xs.drop (j * 2)) = (List.range' j m).flatMap (prL xs)
  | 0, j, h => by
    rw [List.drop_eq_nil_of_le (by omega)]; rfl
  | m + 1, j, h => by
    rw [drop_getD xs (j * 2) (by omega), wpL_step, drop_getD xs (j * 2 + 1) (by omega), wpL_step, if_pos (by omega), if_neg (by omega),
      show j * 2 + 1 + 1 = (j + 1) * 2 from by omega, wp_pairs xs m (j + 1) (by omega), List.range'_succ, List.flatMap_cons]
    unfold prL
    rw [List.append_assoc]
theorem wp_all (xs : List Int) (m : Nat) (h : xs.length = m * 2) : wpL 0 xs = (List.range m).flatMap (prL xs) := by
  have := wp_pairs xs m 0 (by omega)
  rw [Nat.zero_mul, List.drop_zero] at this
  rw [this, List.range_eq_range']
/-- What is written behind these pairs. -/
def prW (xs : List Int) (m : Nat) (pre : List (Fin m)) : List UInt8 := pre.flatMap (fun x => prL xs x.val)
theorem prW_nil (xs : List Int) (m : Nat) : prW xs m [] = [] := rfl
theorem prW_snoc (xs : List Int) (m : Nat) (pre : List (Fin m)) (x : Fin m) : prW xs m (pre ++ [x]) = (prW xs m pre ++ List.replicate (xs.getD (x.val * 2) 0).toNat 82) ++ List.replicate (xs.getD (x.val * 2 + 1) 0).toNat 76 := by
  unfold prW prL
  rw [List.flatMap_append, List.flatMap_singleton, List.append_assoc]
theorem prW_all (xs : List Int) (m : Nat) (h : xs.length = m * 2) (ys : List (Fin m)) (hy : ys.map (·.val) = List.range m) : prW xs m ys = wpL 0 xs := by
  rw [wp_all xs m h, ← hy, List.flatMap_map]; rfl
theorem kpc_t {Ba Bb : Nat} {A B C : World} (h : KpC Ba Bb A B) (k : KpC Ba Bb B C) : KpC Ba Bb A C := ⟨k.1.trans h.1, k.2.trans h.2⟩
theorem kpc_b {Ba Bb : Nat} {w : World} (hA : Ba < w.heap.size) (hB : Bb < w.heap.size) (W : World) (l : Nat) (o o' : Obj) (hl : w.heap.size ≤ l) (h : W.heap[l]? = some o) (h1 : o.isCells = false) (h2 : o.isWalk = false) : KpC Ba Bb W (W.putObj l o') := by
  have hg := grownBy_putObj' W l o'
  have hs := (Array.getElem?_eq_some_iff.1 h).1
  exact ⟨hg.block Ba (by omega) (fun e => by cases e; omega), hg.block Bb (by omega) (fun e => by cases e; omega)⟩
theorem kpc_below {B Ba Bb : Nat} {W W' : World} (h : Below B W W') (hA : Ba < B) (hB : Bb < B) : KpC Ba Bb W W' := ⟨h.block Ba hA, h.block Bb hB⟩
theorem grownBy_drewN (W : World) (k : Nat) : W.grownBy (World.drewN W k) none := by
  constructor
  all_goals first | rfl | exact Nat.le_refl _ | (intros; rfl)
theorem chunk_stops (n : Nat) (hn : 1 ≤ n) (Ba Bb g m cap : Nat) (hm : m * 2 ≤ cap) (hcap : cap ≤ 9223372036854775807) (w : World) (hBa : Ba < w.heap.size) (hBb : Bb < w.heap.size) (hA : w.cell? ⟨Ba, 0, none⟩ = some (.slice (some ⟨g, 0, none⟩) (m * 2) cap)) (hB : w.cell? ⟨Bb, 0, none⟩ = some (.int .i64 2)) :
    SeqStopsK Fence.wide n Try.prog 14 #[.pointer (some ⟨Ba, 0, none⟩), .pointer (some ⟨Bb, 0, none⟩)] (fun x : Fin m => enC g x.val) (KpC Ba Bb) (fun ys => ys.map (·.val) = List.range m) (fun _ => True) m w := fun l J Jx W hW hJ hJx hY h0 => by
  refine (chunk1_in n hn l Ba Bb g m cap hm hcap (fun pre W => ∃ ys : List (Fin m), ys.map (·.val) = pre ∧ J ys W) (fun pre W => ∃ ys : List (Fin m), Jx ys W) ?_ W ((hW.cell (p := ⟨Ba, 0, none⟩) hBa).trans hA) ((hW.cell (p := ⟨Bb, 0, none⟩) hBb).trans hB) ⟨[], rfl, h0⟩ ?_).mono ?_
  · rintro pre x W1 hx ⟨ys, rfl, hJ1⟩ hlt
    refine (hY ys ⟨x, hx⟩ W1 hJ1 (by simpa using hlt)).mono ?_
    rintro e W' (⟨he, hj, hk⟩ | ⟨he, hj⟩)
    · exact .inl ⟨he, ⟨ys ++ [⟨x, hx⟩], by simp, hj⟩, hk⟩
    · exact .inr ⟨he, _, hj⟩
  · rintro pre W1 k ⟨ys, h1, h2⟩
    exact ⟨ys, h1, hJ ys W1 _ none h2 (grownBy_drewN W1 k) (fun r e => by cases e)⟩
  · rintro e W' ⟨hv, (⟨ys, h1, h2⟩ | ⟨_, ys, h2⟩)⟩
    · exact ⟨hv, .inl ⟨ys, h1, h2⟩⟩
    · exact ⟨hv, .inr ⟨ys, trivial, h2⟩⟩
theorem chunk_any (a : Option Addr) (len cap : Nat) (w : World) : Calls Try.prog 10 #[.slice a len cap, .int .i64 2] w fun e w' => e = .returned (.func (.func 14) #[] #[.pointer (some ⟨w.heap.size, 0, none⟩), .pointer (some ⟨w.heap.size + 1, 0, none⟩)]) ∧ w' = (w.alloc (.cells #[.slice a len cap] 22)).alloc (.cells #[.int .i64 2] 3) := by
  go_enter Try.func10, Try.ntmps10
  go_wp2
  go_ret
  exact ⟨rfl, rfl⟩
/-- All blocks but this one and bytes stay. -/
def KeepsT (b : Nat) (W W' : World) : Prop := ∀ k cs T fz, W.heap[k]? = some (.cells cs T fz) → T ≠ 5 → k ≠ b → W'.heap[k]? = W.heap[k]?
theorem KeepsT.trans {b : Nat} {A B C : World} (h : KeepsT b A B) (k : KeepsT b B C) : KeepsT b A C := fun j cs T fz hj hT hne => by
  have e := h j cs T fz hj hT hne
  exact (k j cs T fz (e.trans hj) hT hne).trans e
theorem KeepsT.refl (b : Nat) (A : World) : KeepsT b A A := fun _ _ _ _ _ _ _ => rfl
theorem KeepsT.of_below {b : Nat} {A B : World} (h : Below A.heap.size A B) : KeepsT b A B := fun k _ _ _ hk _ _ => h.block k (Array.getElem?_eq_some_iff.1 hk).1
theorem KeepsT.set (b j : Nat) (v : Value) (W : World) : KeepsT b W (W.setCell ⟨b, j, none⟩ v) := fun k _ _ _ _ _ hne => Below.heap_setCell W ⟨b, j, none⟩ v k hne
end Go.Proofs.Ytbgifgfegndlkab
