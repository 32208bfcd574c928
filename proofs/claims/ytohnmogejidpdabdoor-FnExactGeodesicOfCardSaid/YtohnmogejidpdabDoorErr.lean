/-
  The two errors of chapter 5 as the program's variables hold them, errors.Is over them, and the code of an error (own work).
-/
import Derived.Test.YtohnmogejidpdabDoorPts
import Derived.LaidEql
import Derived.Stop.Asserts
import Derived.RowKitTokens
import Derived.Recover
import Derived.Defers
namespace Go.Proofs.YtohnmogejidpdabDoor
open Go.ChangeShapes Go.WideShapes Go.ChangeAt Go.RowKit
open Go.Extern.Stop Go.Stop Go.Extern
set_option linter.unusedVariables false
set_option maxRecDepth 100000
set_option linter.unusedSimpArgs false
set_option maxRecDepth 100000

/-- An error of errors.New's make. -/
abbrev er (a : Addr) : Value := .iface 123 (.pointer (some a))
/-- A panic with such an error. -/
abbrev pan (a : Addr) : Ending := .panicked [{ v := er a, recovered := false }]
/-- What the two variables hold: two errors, each a pointer of its own. -/
structure Snt (W : World) (a0 a1 : Addr) : Prop where
  c0 : W.cell? ⟨0, 0, none⟩ = some (er a0)
  c1 : W.cell? ⟨1, 0, none⟩ = some (er a1)
  ne : a0 ≠ a1
  b0 : ∃ c t, W.heap[a0.block]? = some (.cells c t (0, 0))
  b1 : ∃ c t, W.heap[a1.block]? = some (.cells c t (0, 0))
theorem heap_lt {W : World} {b : Nat} {o : Obj} (h : W.heap[b]? = some o) : b < W.heap.size := (Array.getElem?_eq_some_iff.1 h).1
theorem Snt.lt {W : World} {a0 a1 : Addr} (h : Snt W a0 a1) : 1 < W.heap.size := World.block_lt_of_cell? _ _ h.c1
theorem Snt.below {W W' : World} {a0 a1 : Addr} (h : Snt W a0 a1) (hb : Below W.heap.size W W') : Snt W' a0 a1 := by
  have hl := h.lt
  refine ⟨(hb.cell (p := ⟨0, 0, none⟩) (by show 0 < _; omega)).trans h.c0, (hb.cell (p := ⟨1, 0, none⟩) (by show 1 < _; omega)).trans h.c1, h.ne, ?_, ?_⟩
  · obtain ⟨c, t, e⟩ := h.b0
    exact ⟨c, t, (hb.block _ (heap_lt e)).trans e⟩
  · obtain ⟨c, t, e⟩ := h.b1
    exact ⟨c, t, (hb.block _ (heap_lt e)).trans e⟩

/-! Closed facts: what 'reflectlite.TypeOf(target).Comparable()' gives; what the assertions find. -/
theorem isTypeOf (v : Value) (w : World) : (callFunc 87 #[.iface 123 v]).run Tryd.prog w = .ok (.value (.iface 105 (.agg #[.pointer (some ⟨5, 123, none⟩)]))) w := by
  rw [@run_callFunc_extern Tryd.prog 87 _ Extern.ReflectliteType.typeOf Tryd.func87 (by kernel_rfl) (by kernel_rfl) (by kernel_rfl) (by kernel_rfl)]
  kernel_rfl
theorem isComparable (w : World) : (callFunc 113 #[.agg #[.pointer (some ⟨5, 123, none⟩)]]).run Tryd.prog w = .ok (.value (.bool true)) w := by
  rw [@run_callFunc_extern Tryd.prog 113 _ (Extern.ReflectliteType.method fun t => do Extern.Rtype.noPackHeld "Comparable" t; pure (.bool (← typeInfo t).comparable)) Tryd.func113 (by kernel_rfl) (by kernel_rfl) (by kernel_rfl) (by kernel_rfl)]
  kernel_rfl
theorem isMethodComparable (v : Value) (w : World) : (Go.method 261 105 v "Comparable").run Tryd.prog w = .ok (113, v) w := by kernel_rfl
theorem isComp : (Tryd.prog.info? 123).map (·.comparable) = some true := by kernel_rfl
theorem isSize : (Tryd.prog.info? 149).map (·.size) = some 1 := by kernel_rfl
theorem noIsE (v : Value) (xT : TypeId) (w : World) : (Instr.typeAssert (.iface 123 v) xT 107 true).run Tryd.prog w = .ok (.tuple #[.nilIface, .bool false]) w := run_typeAssert_lacksB Tryd.underlying107 (by kernel_rfl) (by kernel_rfl) v xT w
theorem noUnwrapE (v : Value) (xT : TypeId) (w : World) : (Instr.typeAssert (.iface 123 v) xT 110 true).run Tryd.prog w = .ok (.tuple #[.nilIface, .bool false]) w := run_typeAssert_lacksB Tryd.underlying110 (by kernel_rfl) (by kernel_rfl) v xT w
theorem noUnwrapsE (v : Value) (xT : TypeId) (w : World) : (Instr.typeAssert (.iface 123 v) xT 112 true).run Tryd.prog w = .ok (.tuple #[.nilIface, .bool false]) w := run_typeAssert_lacksB Tryd.underlying112 (by kernel_rfl) (by kernel_rfl) v xT w
theorem hasErr (v : Value) (xT : TypeId) (w : World) : (Instr.typeAssert (.iface 123 v) xT 70 true).run Tryd.prog w = .ok (.tuple #[.iface 123 v, .bool true]) w := run_typeAssert_hasB Tryd.underlying70 (by kernel_rfl) v xT w

/-- errors.is(x, x, true), x such an error. -/
theorem is2_same (a : Addr) (w : World) :
    Calls Tryd.prog 88 #[er a, er a, .bool true] w fun e w' => e = .returned (.bool true) ∧ w' = w := by
  obtain ⟨i, hi, hcmp⟩ := Option.map_eq_some_iff.1 isComp
  obtain ⟨j, hj, hjs⟩ := Option.map_eq_some_iff.1 isSize
  have heq := run_eql_iface_ptr_same (P := Tryd.prog) w a Tryd.underlying70 Tryd.underlying123 hi hcmp hj
  go_enter Tryd.func88, Tryd.ntmps88
  go_wp2
  refine wp_loop_rounds 1 ?_
  rw [rounds_succ]
  go_wp2
  go_ret
  exact ⟨rfl, rfl⟩
theorem is2_other (a b : Addr) (ca cb : Array Value) (ta tb : TypeId) (w : World) (hne : a ≠ b) (ha : w.heap[a.block]? = some (.cells ca ta (0, 0))) (hb : w.heap[b.block]? = some (.cells cb tb (0, 0))) :
    Calls Tryd.prog 88 #[er a, er b, .bool true] w fun e w' => e = .returned (.bool false) ∧ w' = w := by
  obtain ⟨i, hi, hcmp⟩ := Option.map_eq_some_iff.1 isComp
  obtain ⟨j, hj, hjs⟩ := Option.map_eq_some_iff.1 isSize
  have nE := noIsE
  have uE := noUnwrapE
  have vE := noUnwrapsE
  have heq := run_eql_iface_ptr_other (P := Tryd.prog) w Tryd.underlying70 Tryd.underlying123 hi hcmp hj (by rw [hjs]; decide) hne ha hb
  go_enter Tryd.func88, Tryd.ntmps88
  go_wp2
  refine wp_loop_rounds 1 ?_
  rw [rounds_succ]
  go_wp2
  go_ret
  exact ⟨rfl, rfl⟩
/-- errors.Is. -/
theorem is_same (a : Addr) (w : World) :
    Calls Tryd.prog 73 #[er a, er a] w fun e w' => e = .returned (.bool true) ∧ w' = w := by
  have tT := isTypeOf
  have cT := isComparable
  have mR := isMethodComparable
  go_enter Tryd.func73, Tryd.ntmps73
  go_wp2_with (go_at_call 88; refine (is2_same _ _).mono ?_; rintro e wn ⟨rfl, rfl⟩)
  go_wp2
  go_ret
  exact ⟨rfl, rfl⟩
theorem is_other (a b : Addr) (ca cb : Array Value) (ta tb : TypeId) (w : World) (hne : a ≠ b) (ha : w.heap[a.block]? = some (.cells ca ta (0, 0))) (hb : w.heap[b.block]? = some (.cells cb tb (0, 0))) :
    Calls Tryd.prog 73 #[er a, er b] w fun e w' => e = .returned (.bool false) ∧ w' = w := by
  have tT := isTypeOf
  have cT := isComparable
  have mR := isMethodComparable
  go_enter Tryd.func73, Tryd.ntmps73
  go_wp2_with (go_at_call 88; refine (is2_other _ _ ca cb ta tb _ hne ha hb).mono ?_; rintro e wn ⟨rfl, rfl⟩)
  go_wp2
  go_ret
  exact ⟨rfl, rfl⟩
/-- The code of the error of what is no point, and of what is no fraction. -/
theorem codeOfError_any (k : Bool) (a0 a1 : Addr) (w : World) (hs : Snt w a0 a1) :
    Calls Tryd.prog 52 #[er (if k then a1 else a0)] w fun e w' => e = .returned (.int .i64 (if k then 2 else 1)) ∧ w' = w := by
  obtain ⟨h0, h1, hne, ⟨c0, t0, b0⟩, ⟨c1, t1, b1⟩⟩ := hs
  cases k
  · simp only [Bool.false_eq_true, if_false]
    have HB0 := Lib.hid b0
    have HB1 := Lib.hid b1
    have HN := Lib.hid hne
    clear b0 b1 hne
    go_enter Tryd.func52, Tryd.ntmps52
    go_wp2_with (go_at_call 73; refine (is_other _ _ _ _ _ _ _ HN.out HB0.out HB1.out).mono ?_; rintro e wn ⟨rfl, rfl⟩)
    go_ret
    exact ⟨rfl, rfl⟩
  · simp only [if_true]
    go_enter Tryd.func52, Tryd.ntmps52
    go_wp2_with (go_at_call 73; refine (is_same _ _).mono ?_; rintro e wn ⟨rfl, rfl⟩)
    go_ret
    exact ⟨rfl, rfl⟩
end Go.Proofs.YtohnmogejidpdabDoor
