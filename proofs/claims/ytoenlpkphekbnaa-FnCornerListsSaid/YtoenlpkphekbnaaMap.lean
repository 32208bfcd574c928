/-
  The map of chapter 1's upright mates: how it is made, and what a look-up in it finds (own work).
-/
import Derived.Test.YtoenlpkphekbnaaBase
import Derived.Maps.OwnSet
namespace Go.Proofs.Ytoenlpkphekbnaa
open Go.ChangeShapes Go.WideShapes Go.ChangeAt Go.RowKit
set_option linter.unusedVariables false
set_option maxRecDepth 100000
set_option linter.unusedSimpArgs false

def pv (x y : Int) : Value := .agg #[.int .i64 x, .int .i64 y]
theorem part_int (a b : Value) (w : World) : (part 2 #[a, b] 0).run Try.prog w = .ok a w ∧ (part 2 #[a, b] 1).run Try.prog w = .ok b w := ⟨by kernel_rfl, by kernel_rfl⟩
theorem check_int (em : Bool) (d : Nat) (a : Int) (w : World) : (Instr.checkKey em (d + 1) 2 (.int .i64 a)).run Try.prog w = .ok () w := by
  rw [Instr.checkKey]
  simp [Sem.run_bind, run_underlying Try.underlying2]
theorem check_pt (em : Bool) (d : Nat) (x y : Int) (w : World) : (Instr.checkKey em (d + 2) 30 (.agg #[.int .i64 x, .int .i64 y])).run Try.prog w = .ok () w := by
  have hs : ∀ w : World, (sizeOf 2).run Try.prog w = .ok 1 w := fun _ => by kernel_rfl
  have p0 : ∀ (a b : Value) (w : World), (part 2 #[a, b] 0).run Try.prog w = .ok a w := fun _ _ _ => by kernel_rfl
  have p1 : ∀ (a b : Value) (w : World), (part 2 #[a, b] 1).run Try.prog w = .ok b w := fun _ _ _ => by kernel_rfl
  rw [show d + 2 = (d + 1) + 1 from rfl]
  rw [Instr.checkKey]
  simp only [Sem.run_bind, run_underlying Try.underlying30, Result.andThen_ok, hs, Std.Legacy.Range.forIn_eq_forIn_range', Std.Legacy.Range.size]
  simp only [show List.range' 0 2 = [0, 1] from rfl, List.forIn_cons, List.forIn_nil, Nat.zero_mul, Nat.one_mul, Sem.run_bind, p0, p1, check_int, Result.andThen_ok]
  simp [go_sem, p0, p1, check_int]
theorem findNow_pt (n : Nat) (e : TypeId) (k : Value) (a : MapEntry) (es : List MapEntry) (i : Nat) : Instr.findNow (.array n e) k (a :: es) i = none := by
  unfold Instr.findNow
  simp [Instr.sameNow]
theorem ask_pt (x y : Int) (es : List MapEntry) (a b : Int) (v : Value) (c i : Nat) (w : World) :
    (Instr.findAsking 30 (.agg #[.int .i64 x, .int .i64 y]) (⟨.agg #[.int .i64 a, .int .i64 b], v, c⟩ :: es) i).run Try.prog w = if (x == a && y == b) then .ok (some (i, v)) w else (Instr.findAsking 30 (.agg #[.int .i64 x, .int .i64 y]) es (i + 1)).run Try.prog w := by
  rw [Instr.findAsking]
  have he : (Op.equal 30 (.agg #[.int .i64 x, .int .i64 y]) (.agg #[.int .i64 a, .int .i64 b])).run Try.prog w = .ok (x == a && y == b) w := eq_pt x y a b w
  simp only [Sem.run_bind, he, Result.andThen_ok]
  cases (x == a && y == b) <;> simp
theorem ask_nil (k : Value) (i : Nat) (w : World) : (Instr.findAsking 30 k [] i).run Try.prog w = .ok none w := by
  rw [Instr.findAsking]; simp
theorem insert_first (b : Nat) (w : World) (x y : Int) (v : Value) (clock : Nat) (hb : w.heap[b]? = some (.map #[] clock)) :
    (Instr.mapUpdate 95 (.map (some b)) (.agg #[.int .i64 x, .int .i64 y]) v).run Try.prog w = .ok () { w with heap := w.heap.setIfInBounds b (.map #[⟨.agg #[.int .i64 x, .int .i64 y], v, clock⟩] (clock + 1)) } := by
  have hc := check_pt false 9998 x y w
  simp [Instr.mapUpdate, Instr.findKey, Sem.run_bind, run_underlying Try.underlying95, run_underlying Try.underlying30, MapKept.run_getObj_map hb, MapKept.run_setObj_map _ hb, hc, Instr.findNow, ask_nil, Result.andThen]
theorem insert_second (b : Nat) (w : World) (x y a c : Int) (v u : Value) (t clock : Nat) (hb : w.heap[b]? = some (.map #[⟨.agg #[.int .i64 a, .int .i64 c], u, t⟩] clock)) (hne : (x == a && y == c) = false) :
    (Instr.mapUpdate 95 (.map (some b)) (.agg #[.int .i64 x, .int .i64 y]) v).run Try.prog w = .ok () { w with heap := w.heap.setIfInBounds b (.map #[⟨.agg #[.int .i64 a, .int .i64 c], u, t⟩, ⟨.agg #[.int .i64 x, .int .i64 y], v, clock⟩] (clock + 1)) } := by
  have hc := check_pt false 9998 x y w
  simp [Instr.mapUpdate, Instr.findKey, Sem.run_bind, run_underlying Try.underlying95, run_underlying Try.underlying30, MapKept.run_getObj_map hb, MapKept.run_setObj_map _ hb, hc, findNow_pt, ask_pt, ask_nil, hne, Result.andThen]
theorem zero_pt (w : World) : (zeroValue 30).run Try.prog w = .ok (.agg #[.int .i64 0, .int .i64 0]) w := by kernel_rfl
/-- The upright mates' map, in one order of its entries and in the other. -/
def upM : Obj := .map #[⟨.agg #[.int .i64 0, .int .i64 1], .agg #[.int .i64 (-1), .int .i64 0], 0⟩, ⟨.agg #[.int .i64 0, .int .i64 (-1)], .agg #[.int .i64 1, .int .i64 0], 1⟩] 2
def upM2 : Obj := .map #[⟨.agg #[.int .i64 0, .int .i64 (-1)], .agg #[.int .i64 1, .int .i64 0], 0⟩, ⟨.agg #[.int .i64 0, .int .i64 1], .agg #[.int .i64 (-1), .int .i64 0], 1⟩] 2
def IsUp (o : Option Obj) : Prop := o = some upM ∨ o = some upM2
theorem look_up (b : Nat) (w : World) (x y : Int) (hb : IsUp w.heap[b]?) :
    (Instr.lookup 95 (.map (some b)) (.agg #[.int .i64 x, .int .i64 y]) true).run Try.prog w =
      if (x == 0 && y == 1) then .ok (.tuple #[.agg #[.int .i64 (-1), .int .i64 0], .bool true]) w
      else if (x == 0 && y == -1) then .ok (.tuple #[.agg #[.int .i64 1, .int .i64 0], .bool true]) w
      else .ok (.tuple #[.agg #[.int .i64 0, .int .i64 0], .bool false]) w := by
  have hc := fun em => check_pt em 9998 x y w
  have hx : (x == 0 && y == 1) = true → (x == 0 && y == -1) = false := by
    intro h
    simp only [Bool.and_eq_true, beq_iff_eq] at h
    obtain ⟨rfl, rfl⟩ := h
    rfl
  rcases hb with hb | hb
  · unfold upM at hb
    cases h0 : (x == 0 && y == 1) <;> cases h1 : (x == 0 && y == -1) <;>
      simp [Instr.lookup, Instr.findKey, Sem.run_bind, run_underlying Try.underlying95, run_underlying Try.underlying30, MapKept.run_getObj_map hb, hc, findNow_pt, ask_pt, ask_nil, h0, h1, zero_pt, Result.andThen]
  · unfold upM2 at hb
    cases h0 : (x == 0 && y == 1)
    · cases h1 : (x == 0 && y == -1) <;>
        simp [Instr.lookup, Instr.findKey, Sem.run_bind, run_underlying Try.underlying95, run_underlying Try.underlying30, MapKept.run_getObj_map hb, hc, findNow_pt, ask_pt, ask_nil, h0, h1, zero_pt, Result.andThen]
    · have h1 := hx h0
      simp [Instr.lookup, Instr.findKey, Sem.run_bind, run_underlying Try.underlying95, run_underlying Try.underlying30, MapKept.run_getObj_map hb, hc, findNow_pt, ask_pt, ask_nil, h0, h1, zero_pt, Result.andThen]
theorem below_setBlock {w : World} {b B : Nat} {a : World} {o : Obj} (hB : B ≤ b) (h : Below B a w) : Below B a { w with heap := w.heap.setIfInBounds b o } :=
  ⟨h.os, h.tape, h.output, by simpa using h.size, fun i hi => by
    show (w.heap.setIfInBounds b o)[i]? = _
    rw [Array.getElem?_setIfInBounds_ne (by omega)]; exact h.block i hi⟩
theorem ins1 (b : Nat) (w : World) (x y : Int) (v : Value) (hb : w.heap[b]? = some (.map #[] 0)) :
    ∃ u : World, (Instr.mapUpdate 95 (.map (some b)) (.agg #[.int .i64 x, .int .i64 y]) v).run Try.prog w = .ok () u ∧ u.heap[b]? = some (.map #[⟨.agg #[.int .i64 x, .int .i64 y], v, 0⟩] 1) ∧ ∀ B a, B ≤ b → Below B a w → Below B a u := by
  refine ⟨_, insert_first b w x y v 0 hb, ?_, fun B a hB h => below_setBlock hB h⟩
  have hlt : b < w.heap.size := by
    have := Array.getElem?_eq_some_iff.1 hb
    exact this.1
  simp [Array.getElem?_setIfInBounds, hlt]
theorem ins2 (b : Nat) (w : World) (x y a c : Int) (v u : Value) (hb : w.heap[b]? = some (.map #[⟨.agg #[.int .i64 a, .int .i64 c], u, 0⟩] 1)) (hne : (x == a && y == c) = false) :
    ∃ r : World, (Instr.mapUpdate 95 (.map (some b)) (.agg #[.int .i64 x, .int .i64 y]) v).run Try.prog w = .ok () r ∧ r.heap[b]? = some (.map #[⟨.agg #[.int .i64 a, .int .i64 c], u, 0⟩, ⟨.agg #[.int .i64 x, .int .i64 y], v, 1⟩] 2) ∧ ∀ B a, B ≤ b → Below B a w → Below B a r := by
  refine ⟨_, insert_second b w x y a c v u 0 1 hb hne, ?_, fun B a hB h => below_setBlock hB h⟩
  have hlt : b < w.heap.size := by
    have := Array.getElem?_eq_some_iff.1 hb
    exact this.1
  simp [Array.getElem?_setIfInBounds, hlt]
theorem uprightMates_any (w : World) :
    Calls Try.prog 92 #[] w fun e w' => (e = .returned (.map (some w.heap.size)) ∧ IsUp w'.heap[w.heap.size]?) ∧ Below w.heap.size w w' := by
  have hmm := @run_makeMap Try.prog
  obtain ⟨u1, r1, m1, k1⟩ := ins1 w.heap.size (w.alloc (.map #[] 0)).drew 0 1 (.agg #[.int .i64 (-1), .int .i64 0]) (by show (w.heap.push (.map #[] 0))[w.heap.size]? = _; simp)
  obtain ⟨v1, r2, m2, k2⟩ := ins2 w.heap.size u1 0 (-1) 0 1 (.agg #[.int .i64 1, .int .i64 0]) _ m1 rfl
  obtain ⟨u2, r3, m3, k3⟩ := ins1 w.heap.size (w.alloc (.map #[] 0)).drew 0 (-1) (.agg #[.int .i64 1, .int .i64 0]) (by show (w.heap.push (.map #[] 0))[w.heap.size]? = _; simp)
  obtain ⟨v2, r4, m4, k4⟩ := ins2 w.heap.size u2 0 1 0 (-1) (.agg #[.int .i64 (-1), .int .i64 0]) _ m3 rfl
  have hb0 : Below w.heap.size w (w.alloc (.map #[] 0)).drew := by (repeat' (first | (with_reducible exact Below.refl _ _) | (with_reducible refine Below.alloc ?_ ?_ _) | (with_reducible refine Below.setCell ?_ ?_ _) | (with_reducible refine Below.drew ?_) | (with_reducible refine below_drewN ?_ _) | (with_reducible assumption) | (with_reducible refine below_after (by with_reducible assumption) ?_) | go_size))
  have h1 : Below w.heap.size w v1 := k2 _ _ (Nat.le_refl _) (k1 _ _ (Nat.le_refl _) hb0)
  have h2 : Below w.heap.size w v2 := k4 _ _ (Nat.le_refl _) (k3 _ _ (Nat.le_refl _) hb0)
  go_enter Try.func92, Try.ntmps92
  go_wp2
  go_region
  all_goals go_wp2
  all_goals go_ret
  all_goals first | exact ⟨⟨rfl, Or.inl m2⟩, h1⟩ | exact ⟨⟨rfl, Or.inr m4⟩, h2⟩
end Go.Proofs.Ytoenlpkphekbnaa
