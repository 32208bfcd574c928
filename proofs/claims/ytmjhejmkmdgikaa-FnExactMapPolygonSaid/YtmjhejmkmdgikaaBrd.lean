/-
  Regions that draw their order inside a round of a range over a function: what holds of such a region by the plain rules holds in the round (own work).
-/
import Derived.OrdersIn
import Derived.OrdersHeld
import Derived.RangeFuncCalls
import Derived.TacticsIn
import Derived.StillTailTactics
namespace Go.Proofs.Ytmjhejmkmdgikaa

theorem rowsIn_wide_own {n : Nat} {P : Program} {row : String} {args : Array Value} {w : World} {R : Value → World → Prop} (h : Rows P row args w R) (l : Nat) : RowsIn (Fence.wide.inRound l) n P row args w R :=
  fun c cs _ => let ⟨v, w', r, s⟩ := h c cs; ⟨v, w', r, stepsIn_wide.2 s⟩

section
variable {P : Program} {ops : Array Oper} {Q : Exit → Act → World → Prop} {md : Region.Mode} {n l : Nat}

theorem wpOpIn_of (hd : ∀ (i : Nat) (o : Oper) c, ops[i]? = some o → o.op ≠ .defer c) (hQ : ¬ LetsOut Q) {i : Nat} {K K' : Act → World → Prop} {a : Act} {w : World} (hK : ∀ a w, K a w → K' a w)
    (h : wpOp P ops Q i K a w) : wpOpIn (Fence.wide.inRound l) n P ops Q i K' a w := by
  unfold wpOp at h
  unfold wpOpIn
  cases ho : ops[i]? with
  | none => rw [ho] at h; exact hK _ _ h
  | some o =>
    rw [ho] at h
    dsimp only at h ⊢
    split
    · rename_i hw
      rw [if_pos hw] at h
      have h := h.resolve_right (fun q => hQ q.2)
      refine ⟨fun _ _ => trivial, ?_⟩
      have e : o.semAt (Fence.wide.inRound l).round a.eval = execOp a.eval o := Oper.semAt_some l _ _ (fun c => hd i o c ho)
      rw [e]
      unfold Oper.wp at h
      generalize (execOp a.eval o).run P w = r at *
      cases r with
      | ok x w' =>
        cases x <;> simp only [Oper.upon, Oper.uponIn] at h ⊢
        case value v => exact hK _ _ h
        case skip => exact hK _ _ h
        case defer d => exact hK _ _ h
        case enter f args =>
          refine ⟨fun q => (by cases q), CallsIn.inRound l (callsIn_wide.2 (Calls.mono h fun e w'' he => ?_))⟩
          cases e with
          | returned v => exact hK _ _ he
          | panicked c => exact he
          | outgrown => exact he
        case row row args => exact ⟨fun q => (by cases q), rowsIn_wide_own (Rows.mono h fun v w'' he => hK _ _ he) l⟩
      | halt x w' => cases x <;> simp only [Oper.upon, Oper.uponIn] at h ⊢ <;> exact h
    · rename_i hw
      rw [if_neg hw] at h
      exact ⟨fun _ _ => trivial, hK _ _ h⟩

theorem wpAnyIn_of (hd : ∀ (i : Nat) (o : Oper) c, ops[i]? = some o → o.op ≠ .defer c) (hQ : ¬ LetsOut Q) : ∀ (fuel : Nat) (listed : Array Bool) (a : Act) (w : World),
    wpAny P md ops Q fuel listed a w → wpAnyIn (Fence.wide.inRound l) n P md ops Q fuel listed a w
  | 0, _, _, _, h => h
  | fuel + 1, _, _, _, h => ⟨h.1, fun i hi => wpOpIn_of hd hQ (fun a w => wpAnyIn_of hd hQ fuel _ a w) (h.2 i hi)⟩

def noDefer (ops : Array Oper) : Bool := ops.toList.all fun o => match o.op with | .defer _ => false | _ => true
theorem noDefer_spec (h : noDefer ops = true) (i : Nat) (o : Oper) (c) (ho : ops[i]? = some o) : o.op ≠ .defer c := by
  have hm : o ∈ ops.toList := by
    rw [← Array.getElem?_toList] at ho
    exact List.mem_of_getElem? ho
  have := List.all_eq_true.1 h o hm
  intro e
  rw [e] at this
  cases this
/-- A region that draws, in a round, by the plain rules for what is held. -/
theorem wpIn_region_round {S : World → Prop} {id : Nat} {a : Act} {w : World} (hm : P.follows .mixedOrders = true) (hd : noDefer ops = true) (hQ : ∀ a w, ¬ Q .outgrown a w)
    (h : wpAnyH P .any ops Q S ops.size (Array.replicate ops.size false) a { w with drawn := w.drawn + 1 }) : (Code.region id ops true).wpIn (Fence.wide.inRound l) n P Q a w :=
  wpIn_region_any hm (wpAnyIn_of (noDefer_spec hd) (fun ⟨a, w, q⟩ => hQ a w q) _ _ _ _ (wpAny_of_held _ _ _ _ h))
/-- What a region answers whose first n operations only read, and whose others stand in a chain, in every order. -/
theorem wpAny_still_tail {w0 : World} {a : Act} {ls : List Oper} (n : Nat) (hB : Region.lexTailB .any ls.toArray n = true)
    (h : wpStill P ls.toArray w0 (fun b => wpList P ls.toArray Q (ls.drop n) b w0) (ls.take n) a) : wpAny P .any ls.toArray Q ls.toArray.size (Array.replicate ls.toArray.size false) a w0 := by
  have hB2 := hB
  simp only [Region.lexTailB, Bool.and_eq_true, decide_eq_true_eq] at hB2
  have hlt : n < ls.length := by simpa using hB2.1.1.1.2
  have hT : (ls.take n).length = n := by rw [List.length_take]; omega
  have hD : (ls.drop n).length = ls.toArray.size - n := by simp
  have start : HeadInv .any ls.toArray n (Array.replicate ls.toArray.size false) := by
    refine ⟨by simp, ?_, fun t _ ht => getD_in (by simpa using ht) (getD_replicate_false _ _)⟩
    intro j oj _ hl
    rw [getD_replicate_false] at hl
    cases hl
  have head := wpAnyL_lex (md := .any) (g := ls.toArray.size - n) hB2.1.1.1.1 hB2.1.1.2 hB2.1.2 hB2.1.1.1.2 (ls.take n) 0 _ a (by
    intro j hj
    rw [hT] at hj
    simp [hj]) (by simpa using hT) start (by rw [hT]; exact hB2.2) h
  have all := wpAny_of_head (Q' := Q) (g := ls.toArray.size - n) (by
    intro listed b hL
    have q := wpAny_of_seq (md := .any) (Q' := Q) (ls.drop n) n listed b w0 (fun j => by simp [List.getElem?_drop]) (by rw [hD]; exact hL.1) hL.2
    rwa [hD] at q) _ _ _ head
  have e : (ls.take n).length + (ls.toArray.size - n) = ls.toArray.size := by rw [hT]; simp; omega
  rwa [e] at all
/-- Such a region in a round. -/
theorem wpIn_region_round_tail {id : Nat} {a : Act} {w : World} {ls : List Oper} (k : Nat) (hm : P.follows .mixedOrders = true) (hd : noDefer ls.toArray = true) (hQ : ∀ a w, ¬ Q .outgrown a w) (hB : Region.lexTailB .any ls.toArray k = true)
    (h : wpStill P ls.toArray w.drew (fun b => wpList P ls.toArray Q (ls.drop k) b w.drew) (ls.take k) a) : (Code.region id ls.toArray true).wpIn (Fence.wide.inRound l) n P Q a w :=
  wpIn_region_any hm (wpAnyIn_of (noDefer_spec hd) (fun ⟨a, w, q⟩ => hQ a w q) _ _ _ _ (wpAny_still_tail k hB h))
end
end Go.Proofs.Ytmjhejmkmdgikaa
