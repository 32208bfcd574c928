/-
  A map keyed by corners: what a store of a key does, and how many keys there are (own work).
-/
import Derived.Test.YtoenlpkphekbnaaAre
import Derived.Test.YtoenlpkphekbnaaMap
import Derived.Maps.Own
namespace Go.Proofs.Ytoenlpkphekbnaa
open Go.ChangeShapes Go.WideShapes Go.ChangeAt Go.RowKit
set_option linter.unusedVariables false
set_option maxRecDepth 100000
set_option linter.unusedSimpArgs false

/-- A normal corner as a value. -/
def nv (k : Int × Int) : Value := .agg #[.int .i64 1, .int .i64 0, .int .i64 k.1, .int .i64 k.2]
theorem check_cr (em : Bool) (n : Nat) (a b c d : Int) (w : World) : (Instr.checkKey em (n + 3) 52 (.agg #[.int .i64 a, .int .i64 b, .int .i64 c, .int .i64 d])).run Try.prog w = .ok () w := by
  have p0 : ∀ (a b c d : Value) (w : World), (part 30 #[a, b, c, d] 0).run Try.prog w = .ok (.agg #[a, b]) w := fun _ _ _ _ _ => by kernel_rfl
  have p1 : ∀ (a b c d : Value) (w : World), (part 30 #[a, b, c, d] 2).run Try.prog w = .ok (.agg #[c, d]) w := fun _ _ _ _ _ => by kernel_rfl
  rw [show n + 3 = (n + 2) + 1 from rfl, Instr.checkKey]
  simp only [Sem.run_bind, run_underlying Try.underlying52, Result.andThen_ok]
  rw [← Array.forIn_toList]
  simp [List.forIn_cons, Sem.run_bind, p0, p1, check_pt em n, Result.andThen]
theorem same_nv (n : Nat) (k : Int × Int) : Instr.sameBits (n + 1) (nv k) (nv k) = true := by
  simp [nv, Instr.sameBits]
theorem find_nv (k : Int × Int) (w : World) : ∀ (ks : List (Int × Int)) (es : List MapEntry) (i : Nat), es.map (·.key) = ks.map nv →
    (k ∉ ks → (Instr.findAsking 52 (nv k) es i).run Try.prog w = .ok none w) ∧
    (k ∈ ks → ∃ j v, i ≤ j ∧ (∃ e, es[j - i]? = some e ∧ e.key = nv k) ∧ (Instr.findAsking 52 (nv k) es i).run Try.prog w = .ok (some (j, v)) w)
  | [], es, i, h => by
    have : es = [] := by simpa using h
    subst this
    refine ⟨fun _ => ?_, fun h => by cases h⟩
    rw [Instr.findAsking]; simp
  | k0 :: ks, es, i, h => by
    match es, h with
    | e :: es, h =>
      simp only [List.map_cons, List.cons.injEq] at h
      obtain ⟨h0, h1⟩ := h
      have ih := find_nv k w ks es (i + 1) h1
      have he : (Op.equal 52 (nv k) e.key).run Try.prog w = .ok (decide (k = k0)) w := by
        rw [h0]
        have := eq_cr 1 0 k.1 k.2 1 0 k0.1 k0.2 w
        refine Eq.trans this ?_
        congr 1
        obtain ⟨x, y⟩ := k
        obtain ⟨x0, y0⟩ := k0
        simp [Prod.mk.injEq, Bool.decide_and]
        rfl
      by_cases hk : k = k0
      · refine ⟨fun hn => (hn (by rw [hk]; exact List.mem_cons_self)).elim, fun _ => ⟨i, e.val, Nat.le_refl _, ⟨e, by simp, by rw [h0, hk]⟩, ?_⟩⟩
        rw [Instr.findAsking]
        simp only [Sem.run_bind, he, Result.andThen_ok, decide_eq_true hk]
        simp
      · have hs : (Instr.findAsking 52 (nv k) (e :: es) i).run Try.prog w = (Instr.findAsking 52 (nv k) es (i + 1)).run Try.prog w := by
          rw [Instr.findAsking]
          simp only [Sem.run_bind, he, Result.andThen_ok, decide_eq_false hk]
          simp
        rw [hs]
        refine ⟨fun hn => ih.1 (fun hm => hn (List.mem_cons_of_mem _ hm)), fun hm => ?_⟩
        rcases List.mem_cons.1 hm with h | h
        · exact (hk h).elim
        · obtain ⟨j, v, hj, ⟨e1, he1, hk1⟩, hr⟩ := ih.2 h
          exact ⟨j, v, by omega, ⟨e1, by rw [show j - i = (j - (i + 1)) + 1 from by omega, List.getElem?_cons_succ]; exact he1, hk1⟩, hr⟩
/-- Block b is a map with these keys. -/
def KM (W : World) (b : Nat) (ks : List (Int × Int)) : Prop := ∃ es clock, W.heap[b]? = some (.map es clock) ∧ es.toList.map (·.key) = ks.map nv
theorem KM.below {W W' : World} {b : Nat} {ks : List (Int × Int)} (h : KM W b ks) (hb : Below W.heap.size W W') : KM W' b ks := by
  obtain ⟨es, c, h1, h2⟩ := h
  exact ⟨es, c, (hb.block b (Array.getElem?_eq_some_iff.1 h1).1).trans h1, h2⟩
theorem KM.lt {W : World} {b : Nat} {ks : List (Int × Int)} (h : KM W b ks) : b < W.heap.size := by
  obtain ⟨es, c, h1, h2⟩ := h
  exact (Array.getElem?_eq_some_iff.1 h1).1
def ins (ks : List (Int × Int)) (k : Int × Int) : List (Int × Int) := if k ∈ ks then ks else ks ++ [k]
theorem store_nv {W : World} {b : Nat} {ks : List (Int × Int)} (h : KM W b ks) (k : Int × Int) (v : Value) :
    ∃ u : World, (Instr.mapUpdate 107 (.map (some b)) (nv k) v).run Try.prog W = .ok () u ∧ KM u b (ins ks k) ∧ ∀ B a, B ≤ b → Below B a W → Below B a u := by
  obtain ⟨es, clock, h1, h2⟩ := h
  have hlt := (Array.getElem?_eq_some_iff.1 h1).1
  have hc := check_cr false 9997 1 0 k.1 k.2 W
  have hf := find_nv k W ks es.toList 0 h2
  have hnow : es.toList ≠ [] → ∀ T, Instr.findNow (.struct T) (nv k) es.toList 0 = none := by
    intro hne T
    match hes : es.toList, hne with
    | e :: l, _ =>
      unfold Instr.findNow
      simp [Instr.sameNow]
  by_cases hk : k ∈ ks
  · obtain ⟨j, x, hj, ⟨e, he, hek⟩, hr⟩ := hf.2 hk
    rw [Nat.sub_zero] at he
    have hne : es.toList ≠ [] := by intro h0; rw [h0] at he; simp at he
    have he2 : es[j]? = some e := by rw [← Array.getElem?_toList]; exact he
    refine ⟨{ W with heap := W.heap.setIfInBounds b (.map (es.modify j fun e => { e with key := nv k, val := v }) clock) }, ?_, ⟨es.modify j fun e => { e with key := nv k, val := v }, clock, ?_, ?_⟩, fun B a hB h => below_setBlock hB h⟩
    · have hb2 : Instr.keyThatStays (nv k) (nv k) = (pure (nv k) : Sem Value) := by
        unfold Instr.keyThatStays
        rw [if_pos (same_nv 9999 k)]
      have hc2 : (Instr.checkKey false 10000 52 (nv k)).run Try.prog W = .ok () W := hc
      simp [Instr.mapUpdate, Instr.findKey, Sem.run_bind, run_underlying Try.underlying107, run_underlying Try.underlying52, MapKept.run_getObj_map h1, MapKept.run_setObj_map _ h1, hc2, hnow hne, hr, he2, hek, hb2, Result.andThen]
    · simp [Array.getElem?_setIfInBounds, hlt]
    · unfold ins
      rw [if_pos hk, ← h2]
      apply List.ext_getElem?
      intro i
      simp only [List.getElem?_map, Array.getElem?_toList, Array.getElem?_modify]
      by_cases hij : j = i
      · subst hij
        simp [he2, hek]
      · simp [hij]
  · have hr := hf.1 hk
    refine ⟨{ W with heap := W.heap.setIfInBounds b (.map (es.push { key := nv k, val := v, born := clock }) (clock + 1)) }, ?_, ⟨es.push { key := nv k, val := v, born := clock }, clock + 1, ?_, ?_⟩, fun B a hB h => below_setBlock hB h⟩
    · have hc2 : (Instr.checkKey false 10000 52 (nv k)).run Try.prog W = .ok () W := hc
      by_cases hne : es.toList = []
      · have hes : es = #[] := by simpa using hne
        subst hes
        simp [Instr.mapUpdate, Instr.findKey, Sem.run_bind, run_underlying Try.underlying107, run_underlying Try.underlying52, MapKept.run_getObj_map h1, MapKept.run_setObj_map _ h1, hc2, Instr.findNow, Result.andThen]
      · simp [Instr.mapUpdate, Instr.findKey, Sem.run_bind, run_underlying Try.underlying107, run_underlying Try.underlying52, MapKept.run_getObj_map h1, MapKept.run_setObj_map _ h1, hc2, hnow hne, hr, Result.andThen]
    · simp [Array.getElem?_setIfInBounds, hlt]
    · unfold ins
      rw [if_neg hk, List.map_append, ← h2]
      simp
/-- The store at the operation, for the walk. -/
theorem wpList_store_nv (w : World) {ops : Array Oper} {rest : List Oper} {o : Oper} {a : Act} {Q : Exit → Act → World → Prop}
    (hg : o.guard = none) (m x v : Operand) (hop : o.op = Op.mapUpdate 107 m x v) (b : Nat) (ks : List (Int × Int)) (k : Int × Int) (hm : a.eval m = .map (some b)) (hKM : KM w b ks) (hx : a.eval x = nv k)
    (hK : ∀ w', KM w' b (ins ks k) → (∀ B a, B ≤ b → Below B a w → Below B a w') → wpList Try.prog ops Q rest (a.put o.dst undef) w') :
    wpList Try.prog ops Q (o :: rest) a w := by
  refine wpList_plain hg fun K' hK' => ?_
  obtain ⟨w', hrun, r1, r2⟩ := store_nv hKM k (a.eval v)
  unfold Oper.wp
  simp [execOp, hop, hm, hx, hrun, Result.andThen]
  exact hK' _ _ (hK w' r1 r2)
/-- How many keys: one alone. -/
theorem ins_one (k0 k1 k2 : Int × Int) : (ins (ins (ins [] k0) k1) k2).length = 1 ↔ (k1 = k0 ∧ k2 = k0) := by
  have e0 : ins [] k0 = [k0] := by simp [ins]
  rw [e0]
  by_cases h1 : k1 = k0
  · have e1 : ins [k0] k1 = [k0] := by simp [ins, h1]
    rw [e1]
    by_cases h2 : k2 = k0
    · simp [ins, h1, h2]
    · simp [ins, h1, h2]
  · have e1 : ins [k0] k1 = [k0, k1] := by simp [ins, h1]
    rw [e1]
    simp only [h1, false_and, iff_false]
    unfold ins
    split <;> simp
end Go.Proofs.Ytoenlpkphekbnaa
