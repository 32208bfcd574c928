/-
  Regions that draw their order in an iterator that is walked by the rules of a fence: the first operations only read, the others stand in a chain (own work).
-/
import Derived.OrdersIn
import Derived.OrdersHeld
import Derived.RangeFuncCalls
import Derived.TacticsIn
import Derived.StillTailTactics
namespace Go.Proofs.Ytmjhejmkmdgikaa
set_option linter.unusedSimpArgs false

section
variable {P : Program} {ops : Array Oper} {Q : Exit → Act → World → Prop} {md : Region.Mode} {n : Nat}
theorem rowsIn_wide_w {n : Nat} {P : Program} {row : String} {args : Array Value} {w : World} {R : Value → World → Prop} (h : Rows P row args w R) : RowsIn Fence.wide n P row args w R :=
  fun c cs _ => let ⟨v, w', r, s⟩ := h c cs; ⟨v, w', r, stepsIn_wide.2 s⟩

theorem wpOpInW_of {i : Nat} {K K' : Act → World → Prop} {a : Act} {w : World} (hK : ∀ a w, K a w → K' a w)
    (h : wpOp P ops (fun _ _ _ => False) i K a w) : wpOpIn Fence.wide n P ops Q i K' a w := by
  unfold wpOp at h
  unfold wpOpIn
  cases ho : ops[i]? with
  | none => rw [ho] at h; exact hK _ _ h
  | some o =>
    rw [ho] at h
    dsimp only at h ⊢
    split
    · rename_i hw
      rw [if_pos hw] at h
      have h := h.resolve_right (fun q => by obtain ⟨_, a, w, q⟩ := q; exact q)
      refine ⟨fun _ _ => trivial, ?_⟩
      have e : o.semAt Fence.wide.round a.eval = execOp a.eval o := rfl
      rw [e]
      unfold Oper.wp at h
      generalize (execOp a.eval o).run P w = r at *
      cases r with
      | ok x w' =>
        cases x <;> simp only [Oper.upon, Oper.uponIn] at h ⊢
        case value v => exact hK _ _ h
        case skip => exact hK _ _ h
        case defer d => exact hK _ _ h
        case enter f args =>
          refine ⟨fun q => (by cases q), callsIn_wide.2 (Calls.mono h fun e w'' he => ?_)⟩
          cases e with
          | returned v => exact hK _ _ he
          | panicked c => exact he.elim
          | outgrown => obtain ⟨_, _, q⟩ := he; exact q.elim
        case row row args => exact ⟨fun q => (by cases q), rowsIn_wide_w (Rows.mono h fun v w'' he => hK _ _ he)⟩
      | halt x w' => cases x <;> simp only [Oper.upon, Oper.uponIn] at h ⊢ <;> exact h.elim
    · rename_i hw
      rw [if_neg hw] at h
      exact ⟨fun _ _ => trivial, hK _ _ h⟩

theorem wpAnyInW_of_head {w : World} {k g : Nat} {L : Array Bool → Act → Prop} (hL : ∀ listed a, L listed a → wpAnyIn Fence.wide n P md ops Q g listed a w) :
    ∀ (f : Nat) (listed : Array Bool) (a : Act), wpAnyL P md ops w k L f listed a → wpAnyIn Fence.wide n P md ops Q (f + g) listed a w
  | 0, listed, a, h => by rw [Nat.zero_add]; exact hL _ _ h
  | f + 1, listed, a, h => by
    rw [show f + 1 + g = (f + g) + 1 by omega]
    exact ⟨fun h0 => absurd h0 h.1, fun i hi => wpOpInW_of (fun _ _ h => h) (wpOp_of_stOp (Q' := fun _ _ _ => False) (fun a' h' => wpAnyInW_of_head hL f _ a' h') (h.2 i hi).2)⟩

theorem wpAnyInW_of_seq : ∀ (l : List Oper) (k : Nat) (listed : Array Bool) (a : Act) (w : World), (∀ j, l[j]? = ops[k + j]?) →
    Region.seqB md ops l.length k listed = true → wpListIn Fence.wide n P ops Q l a w → wpAnyIn Fence.wide n P md ops Q l.length listed a w
  | [], _, _, _, _, _, hB, h => ⟨by simpa [Region.seqB] using hB, h⟩
  | o :: l, k, listed, a, w, hl, hB, h => by
    have h0 : ops[k]? = some o := by simpa using (hl 0).symm
    simp only [List.length_cons, Region.seqB, Bool.and_eq_true, decide_eq_true_eq] at hB
    refine ⟨fun h1 => (by rw [hB.1] at h1; cases h1), fun i hi => ?_⟩
    rw [hB.1] at hi
    have hik : i = k := by simpa using hi
    subst hik
    have hw : wpOpIn Fence.wide n P ops Q i (wpListIn Fence.wide n P ops Q l) a w := by unfold wpOpIn; simp only [h0]; exact h
    exact wpOpIn_mono (fun a' w' h' => wpAnyInW_of_seq l (i + 1) _ a' w' (fun j => by have := hl (j + 1); simpa [Nat.add_assoc, Nat.add_comm 1 j] using this) hB.2 h') hw
/-- What a region answers whose first n operations only read, and whose others stand in a chain, in every order. -/
theorem wpIn_region_wide_tail {id : Nat} {a : Act} {w : World} {ls : List Oper} (k : Nat) (hm : P.follows .mixedOrders = true) (hB : Region.lexTailB .any ls.toArray k = true)
    (h : wpStill P ls.toArray w.drew (fun b => wpListIn Fence.wide n P ls.toArray Q (ls.drop k) b w.drew) (ls.take k) a) : (Code.region id ls.toArray true).wpIn Fence.wide n P Q a w := by
  refine wpIn_region_any hm ?_
  have hB2 := hB
  simp only [Region.lexTailB, Bool.and_eq_true, decide_eq_true_eq] at hB2
  have hlt : k < ls.length := by simpa using hB2.1.1.1.2
  have hT : (ls.take k).length = k := by rw [List.length_take]; omega
  have hD : (ls.drop k).length = ls.toArray.size - k := by simp
  have start : HeadInv .any ls.toArray k (Array.replicate ls.toArray.size false) := by
    refine ⟨by simp, ?_, fun t _ ht => getD_in (by simpa using ht) (getD_replicate_false _ _)⟩
    intro j oj _ hl
    rw [getD_replicate_false] at hl
    cases hl
  have head := wpAnyL_lex (md := .any) (g := ls.toArray.size - k) hB2.1.1.1.1 hB2.1.1.2 hB2.1.2 hB2.1.1.1.2 (ls.take k) 0 _ a (by
    intro j hj
    rw [hT] at hj
    simp [hj]) (by simpa using hT) start (by rw [hT]; exact hB2.2) h
  have all := wpAnyInW_of_head (n := n) (Q := Q) (g := ls.toArray.size - k) (by
    intro listed b hL
    have q := wpAnyInW_of_seq (md := .any) (n := n) (Q := Q) (ls.drop k) k listed b w.drew (fun j => by simp [List.getElem?_drop]) (by rw [hD]; exact hL.1) hL.2
    rwa [hD] at q) _ _ _ head
  have e : (ls.take k).length + (ls.toArray.size - k) = ls.toArray.size := by rw [hT]; simp; omega
  rwa [e] at all
end
end Go.Proofs.Ytmjhejmkmdgikaa
