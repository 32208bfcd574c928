/-
  Maps whose keys are forms (own work).
-/
import Derived.Test.YtohnmogejidpdaaFoR
import Derived.Test.YtohnmogejidpdaaFoE
import Derived.Maps.OwnSet
namespace Go.Proofs.Ytohnmogejidpdaa
open Go.ChangeShapes Go.WideShapes Go.ChangeAt Go.RowKit
set_option linter.unusedVariables false
set_option linter.unusedSimpArgs false
set_option maxRecDepth 100000

theorem check_int (em : Bool) (d : Nat) (a : Int) (w : World) : (Instr.checkKey em (d + 1) 2 (.int .i64 a)).run Try.prog w = .ok () w := by
  rw [Instr.checkKey]
  simp [Sem.run_bind, run_underlying Try.underlying2]
theorem below_setBlock {w : World} {b B : Nat} {a : World} {o : Obj} (hB : B ≤ b) (h : Below B a w) : Below B a { w with heap := w.heap.setIfInBounds b o } :=
  ⟨h.os, h.tape, h.output, by simpa using h.size, fun i hi => by
    show (w.heap.setIfInBounds b o)[i]? = _
    rw [Array.getElem?_setIfInBounds_ne (by omega)]; exact h.block i hi⟩
theorem check_fo (em : Bool) (n : Nat) (a b c : Int) (w : World) : (Instr.checkKey em (n + 2) 43 (.agg #[.int .i64 a, .int .i64 b, .int .i64 c])).run Try.prog w = .ok () w := by
  have p0 : ∀ (a b c : Value) (w : World), (part 2 #[a, b, c] 0).run Try.prog w = .ok a w := fun _ _ _ _ => by kernel_rfl
  have p1 : ∀ (a b c : Value) (w : World), (part 2 #[a, b, c] 1).run Try.prog w = .ok b w := fun _ _ _ _ => by kernel_rfl
  have p2 : ∀ (a b c : Value) (w : World), (part 2 #[a, b, c] 2).run Try.prog w = .ok c w := fun _ _ _ _ => by kernel_rfl
  rw [show n + 2 = (n + 1) + 1 from rfl, Instr.checkKey]
  simp only [Sem.run_bind, run_underlying Try.underlying43, Result.andThen_ok]
  rw [← Array.forIn_toList]
  simp [List.forIn_cons, Sem.run_bind, p0, p1, p2, check_int em n, Result.andThen]
theorem same_fo (n : Nat) (k : Tr) : Instr.sameBits (n + 1) (aggT k) (aggT k) = true := by
  simp [aggT, Instr.sameBits]
theorem find_fo (k : Tr) (w : World) : ∀ (ks : List Tr) (es : List MapEntry) (i : Nat), es.map (·.key) = ks.map aggT → (∀ e ∈ es, e.val = .bool true) →
    (k ∉ ks → (Instr.findAsking 43 (aggT k) es i).run Try.prog w = .ok none w) ∧
    (k ∈ ks → ∃ j, i ≤ j ∧ (∃ e, es[j - i]? = some e ∧ e.key = aggT k) ∧ (Instr.findAsking 43 (aggT k) es i).run Try.prog w = .ok (some (j, .bool true)) w)
  | [], es, i, h, _ => by
    have : es = [] := by simpa using h
    subst this
    refine ⟨fun _ => ?_, fun h => by cases h⟩
    rw [Instr.findAsking]; simp
  | k0 :: ks, es, i, h, hv => by
    match es, h, hv with
    | e :: es, h, hv =>
      simp only [List.map_cons, List.cons.injEq] at h
      obtain ⟨h0, h1⟩ := h
      have ih := find_fo k w ks es (i + 1) h1 (fun e he => hv e (List.mem_cons_of_mem _ he))
      have he : (Op.equal 43 (aggT k) e.key).run Try.prog w = .ok (decide (k = k0)) w := by
        rw [h0]
        have := eq_fo k.1 k.2.1 k.2.2 k0.1 k0.2.1 k0.2.2 w
        rw [beq_tr k k0] at this
        exact this
      have hval : e.val = .bool true := hv e List.mem_cons_self
      by_cases hk : k = k0
      · refine ⟨fun hn => (hn (by rw [hk]; exact List.mem_cons_self)).elim, fun _ => ⟨i, Nat.le_refl _, ⟨e, by simp, by rw [h0, hk]⟩, ?_⟩⟩
        rw [Instr.findAsking]
        simp only [Sem.run_bind, he, Result.andThen_ok, decide_eq_true hk]
        simp [hval]
      · have hs : (Instr.findAsking 43 (aggT k) (e :: es) i).run Try.prog w = (Instr.findAsking 43 (aggT k) es (i + 1)).run Try.prog w := by
          rw [Instr.findAsking]
          simp only [Sem.run_bind, he, Result.andThen_ok, decide_eq_false hk]
          simp
        rw [hs]
        refine ⟨fun hn => ih.1 (fun hm => hn (List.mem_cons_of_mem _ hm)), fun hm => ?_⟩
        rcases List.mem_cons.1 hm with h | h
        · exact (hk h).elim
        · obtain ⟨j, hj, ⟨e1, he1, hk1⟩, hr⟩ := ih.2 h
          exact ⟨j, by omega, ⟨e1, by rw [show j - i = (j - (i + 1)) + 1 from by omega, List.getElem?_cons_succ]; exact he1, hk1⟩, hr⟩
/-- Block b is a map with these keys, at each of them true. -/
def KF (W : World) (b : Nat) (ks : List Tr) : Prop := ∃ es clock, W.heap[b]? = some (.map es clock) ∧ es.toList.map (·.key) = ks.map aggT ∧ ∀ e ∈ es.toList, e.val = .bool true
theorem KF.lt {W : World} {b : Nat} {ks : List Tr} (h : KF W b ks) : b < W.heap.size := by
  obtain ⟨es, c, h1, h2⟩ := h
  exact (Array.getElem?_eq_some_iff.1 h1).1
theorem KF.same {W W' : World} {b : Nat} {ks : List Tr} (h : KF W b ks) (he : W'.heap[b]? = W.heap[b]?) : KF W' b ks := by
  obtain ⟨es, c, h1, h2⟩ := h
  exact ⟨es, c, he.trans h1, h2⟩
theorem KF.below {W W' : World} {b : Nat} {ks : List Tr} (h : KF W b ks) (hb : Below W.heap.size W W') : KF W' b ks := h.same (hb.block b h.lt)
def insF (ks : List Tr) (k : Tr) : List Tr := if k ∈ ks then ks else ks ++ [k]
theorem insF_mem (ks : List Tr) (k z : Tr) : z ∈ insF ks k ↔ z ∈ ks ∨ z = k := by
  unfold insF
  split
  · next h =>
    constructor
    · intro hz; exact .inl hz
    · rintro (hz | rfl)
      · exact hz
      · exact h
  · simp
theorem now_fo (k : Tr) (T : Array Field) (l : List MapEntry) (hne : l ≠ []) : Instr.findNow (.struct T) (aggT k) l 0 = none := by
  match l, hne with
  | e :: l, _ =>
    unfold Instr.findNow
    simp [Instr.sameNow]
theorem look_fo {W : World} {b : Nat} {ks : List Tr} (h : KF W b ks) (k : Tr) :
    (Instr.lookup 93 (.map (some b)) (aggT k) false).run Try.prog W = .ok (.bool (decide (k ∈ ks))) W := by
  obtain ⟨es, clock, h1, h2, h3⟩ := h
  have hc : ∀ em, (Instr.checkKey em 10000 43 (aggT k)).run Try.prog W = .ok () W := fun em => check_fo em 9998 k.1 k.2.1 k.2.2 W
  have hf := find_fo k W ks es.toList 0 h2 h3
  have hz : (zeroValue 4).run Try.prog W = .ok (.bool false) W := by kernel_rfl
  by_cases hne : es.toList = []
  · have hes : es = #[] := by simpa using hne
    subst hes
    have hks : ks = [] := by
      have := h2.symm
      simpa using this
    subst hks
    simp [Instr.lookup, Instr.findKey, Sem.run_bind, run_underlying Try.underlying93, run_underlying Try.underlying43, MapKept.run_getObj_map h1, hc, Instr.findNow, Instr.findAsking, hz, Result.andThen]
  · have hnow := fun T => now_fo k T es.toList hne
    by_cases hk : k ∈ ks
    · obtain ⟨j, _, _, hr⟩ := hf.2 hk
      rw [decide_eq_true hk]
      simp [Instr.lookup, Instr.findKey, Sem.run_bind, run_underlying Try.underlying93, run_underlying Try.underlying43, MapKept.run_getObj_map h1, hc, hnow, hr, Result.andThen]
    · have hr := hf.1 hk
      rw [decide_eq_false hk]
      simp [Instr.lookup, Instr.findKey, Sem.run_bind, run_underlying Try.underlying93, run_underlying Try.underlying43, MapKept.run_getObj_map h1, hc, hnow, hr, hz, Result.andThen]
theorem store_fo {W : World} {b : Nat} {ks : List Tr} (h : KF W b ks) (k : Tr) :
    ∃ u : World, (Instr.mapUpdate 93 (.map (some b)) (aggT k) (.bool true)).run Try.prog W = .ok () u ∧ KF u b (insF ks k) ∧ W.grownBy u (some b) := by
  obtain ⟨es, clock, h1, h2, h3⟩ := h
  have hlt := (Array.getElem?_eq_some_iff.1 h1).1
  have hc2 : (Instr.checkKey false 10000 43 (aggT k)).run Try.prog W = .ok () W := check_fo false 9998 k.1 k.2.1 k.2.2 W
  have hf := find_fo k W ks es.toList 0 h2 h3
  have hgr : ∀ o : Obj, W.grownBy { W with heap := W.heap.setIfInBounds b o } (some b) := fun o => ⟨rfl, rfl, rfl, by simp, fun i hi hr => by
    show (W.heap.setIfInBounds b o)[i]? = _
    rw [Array.getElem?_setIfInBounds_ne (by intro e; subst e; exact hr rfl)]⟩
  by_cases hk : k ∈ ks
  · obtain ⟨j, hj, ⟨e, he, hek⟩, hr⟩ := hf.2 hk
    rw [Nat.sub_zero] at he
    have hne : es.toList ≠ [] := by intro h0; rw [h0] at he; simp at he
    have hnow := fun T => now_fo k T es.toList hne
    have he2 : es[j]? = some e := by rw [← Array.getElem?_toList]; exact he
    refine ⟨{ W with heap := W.heap.setIfInBounds b (.map (es.modify j fun e => { e with key := aggT k, val := .bool true }) clock) }, ?_, ⟨es.modify j fun e => { e with key := aggT k, val := .bool true }, clock, ?_, ?_, ?_⟩, hgr _⟩
    · have hb2 : Instr.keyThatStays (aggT k) (aggT k) = (pure (aggT k) : Sem Value) := by
        unfold Instr.keyThatStays
        rw [if_pos (same_fo 9999 k)]
      simp [Instr.mapUpdate, Instr.findKey, Sem.run_bind, run_underlying Try.underlying93, run_underlying Try.underlying43, MapKept.run_getObj_map h1, MapKept.run_setObj_map _ h1, hc2, hnow, hr, he2, hek, hb2, Result.andThen]
    · simp [Array.getElem?_setIfInBounds, hlt]
    · unfold insF
      rw [if_pos hk, ← h2]
      apply List.ext_getElem?
      intro i
      simp only [List.getElem?_map, Array.getElem?_toList, Array.getElem?_modify]
      by_cases hij : j = i
      · subst hij
        simp [he2, hek]
      · simp [hij]
    · intro x hx
      obtain ⟨i, hi⟩ := List.getElem?_of_mem hx
      simp only [Array.getElem?_toList, Array.getElem?_modify] at hi
      by_cases hij : j = i
      · subst hij
        simp [he2] at hi
        rw [← hi]
      · simp [hij] at hi
        exact h3 x (List.mem_of_getElem? (by rw [Array.getElem?_toList]; exact hi))
  · have hr := hf.1 hk
    refine ⟨{ W with heap := W.heap.setIfInBounds b (.map (es.push { key := aggT k, val := .bool true, born := clock }) (clock + 1)) }, ?_, ⟨es.push { key := aggT k, val := .bool true, born := clock }, clock + 1, ?_, ?_, ?_⟩, hgr _⟩
    · by_cases hne : es.toList = []
      · have hes : es = #[] := by simpa using hne
        subst hes
        simp [Instr.mapUpdate, Instr.findKey, Sem.run_bind, run_underlying Try.underlying93, run_underlying Try.underlying43, MapKept.run_getObj_map h1, MapKept.run_setObj_map _ h1, hc2, Instr.findNow, Instr.findAsking, Result.andThen]
      · have hnow := fun T => now_fo k T es.toList hne
        simp [Instr.mapUpdate, Instr.findKey, Sem.run_bind, run_underlying Try.underlying93, run_underlying Try.underlying43, MapKept.run_getObj_map h1, MapKept.run_setObj_map _ h1, hc2, hnow, hr, Result.andThen]
    · simp [Array.getElem?_setIfInBounds, hlt]
    · unfold insF
      rw [if_neg hk, List.map_append, ← h2]
      simp
    · intro x hx
      simp only [Array.toList_push, List.mem_append, List.mem_singleton] at hx
      rcases hx with hx | rfl
      · exact h3 x hx
      · rfl
/-- The store at the operation, for the walk. -/
theorem wpList_store_fo (w : World) {ops : Array Oper} {rest : List Oper} {o : Oper} {a : Act} {Q : Exit → Act → World → Prop}
    (hg : o.guard = none) (m x v : Operand) (hop : o.op = Op.mapUpdate 93 m x v) (b : Nat) (ks : List Tr) (k : Tr) (hm : a.eval m = .map (some b)) (hKF : KF w b ks) (hx : a.eval x = aggT k) (hv : a.eval v = .bool true)
    (hK : ∀ w', KF w' b (insF ks k) → w.grownBy w' (some b) → wpList Try.prog ops Q rest (a.put o.dst undef) w') :
    wpList Try.prog ops Q (o :: rest) a w := by
  refine wpList_plain hg fun K' hK' => ?_
  obtain ⟨w', hrun, r1, r2⟩ := store_fo hKF k
  unfold Oper.wp
  simp [execOp, hop, hm, hx, hv, hrun, Result.andThen]
  exact hK' _ _ (hK w' r1 r2)
end Go.Proofs.Ytohnmogejidpdaa
