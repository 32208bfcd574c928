/-
  An error as a variable of the program holds it, errors.Is over them, and the code of an error (own work).
-/
import Derived.Test.YtjjblgmokmalaaaDoorPts
import Derived.LaidEql
import Derived.Stop.Asserts
import Derived.RowKitTokens
import Derived.Recover
import Derived.Defers
namespace Go.Proofs.YtjjblgmokmalaaaDoor
open Go.ChangeShapes Go.WideShapes Go.ChangeAt Go.RowKit
open Go.Extern.Stop Go.Stop Go.Extern
set_option linter.unusedVariables false
set_option maxRecDepth 100000
set_option linter.unusedSimpArgs false
set_option maxRecDepth 100000

/-- An error of errors.New's make. -/
abbrev er (a : Addr) : Value := .iface 161 (.pointer (some a))
/-- A panic with such an error. -/
abbrev pan (a : Addr) : Ending := .panicked [{ v := er a, recovered := false }]
/-- A variable (global number g) that holds an error of its own. -/
structure EA (W : World) (g : Nat) (a : Addr) : Prop where
  c : W.cell? ⟨g, 0, none⟩ = some (er a)
  b : ∃ c t, W.heap[a.block]? = some (.cells c t (0, 0))
theorem heap_lt {W : World} {b : Nat} {o : Obj} (h : W.heap[b]? = some o) : b < W.heap.size := (Array.getElem?_eq_some_iff.1 h).1
theorem EA.lt {W : World} {g : Nat} {a : Addr} (h : EA W g a) : g < W.heap.size := World.block_lt_of_cell? _ _ h.c
theorem EA.below {W W' : World} {g : Nat} {a : Addr} (h : EA W g a) (hb : Below W.heap.size W W') : EA W' g a := by
  have hl := h.lt
  refine ⟨(hb.cell (p := ⟨g, 0, none⟩) hl).trans h.c, ?_⟩
  obtain ⟨c, t, e⟩ := h.b
  exact ⟨c, t, (hb.block _ (heap_lt e)).trans e⟩

/-! Closed facts: what 'reflectlite.TypeOf(target).Comparable()' gives; what the assertions find. -/
theorem isTypeOf (v : Value) (w : World) : (callFunc 137 #[.iface 161 v]).run Tryd.prog w = .ok (.value (.iface 151 (.agg #[.pointer (some ⟨4, 161, none⟩)]))) w := by
  rw [@run_callFunc_extern Tryd.prog 137 _ Extern.ReflectliteType.typeOf Tryd.func137 (by kernel_rfl) (by kernel_rfl) (by kernel_rfl) (by kernel_rfl)]
  kernel_rfl
theorem isComparable (w : World) : (callFunc 163 #[.agg #[.pointer (some ⟨4, 161, none⟩)]]).run Tryd.prog w = .ok (.value (.bool true)) w := by
  rw [@run_callFunc_extern Tryd.prog 163 _ (Extern.ReflectliteType.method fun t => do Extern.Rtype.noPackHeld "Comparable" t; pure (.bool (← typeInfo t).comparable)) Tryd.func163 (by kernel_rfl) (by kernel_rfl) (by kernel_rfl) (by kernel_rfl)]
  kernel_rfl
theorem isMethodComparable (v : Value) (w : World) : (Go.method 297 151 v "Comparable").run Tryd.prog w = .ok (163, v) w := by kernel_rfl
theorem isComp : (Tryd.prog.info? 161).map (·.comparable) = some true := by kernel_rfl
theorem isSize : (Tryd.prog.info? 186).map (·.size) = some 1 := by kernel_rfl
theorem noIsE (v : Value) (xT : TypeId) (w : World) : (Instr.typeAssert (.iface 161 v) xT 153 true).run Tryd.prog w = .ok (.tuple #[.nilIface, .bool false]) w := run_typeAssert_lacksB Tryd.underlying153 (by kernel_rfl) (by kernel_rfl) v xT w
theorem noUnwrapE (v : Value) (xT : TypeId) (w : World) : (Instr.typeAssert (.iface 161 v) xT 156 true).run Tryd.prog w = .ok (.tuple #[.nilIface, .bool false]) w := run_typeAssert_lacksB Tryd.underlying156 (by kernel_rfl) (by kernel_rfl) v xT w
theorem noUnwrapsE (v : Value) (xT : TypeId) (w : World) : (Instr.typeAssert (.iface 161 v) xT 158 true).run Tryd.prog w = .ok (.tuple #[.nilIface, .bool false]) w := run_typeAssert_lacksB Tryd.underlying158 (by kernel_rfl) (by kernel_rfl) v xT w
theorem hasErr (v : Value) (xT : TypeId) (w : World) : (Instr.typeAssert (.iface 161 v) xT 93 true).run Tryd.prog w = .ok (.tuple #[.iface 161 v, .bool true]) w := run_typeAssert_hasB Tryd.underlying93 (by kernel_rfl) v xT w

/-- errors.is(x, x, true), x such an error. -/
theorem is2_same (a : Addr) (w : World) :
    Calls Tryd.prog 138 #[er a, er a, .bool true] w fun e w' => e = .returned (.bool true) ∧ w' = w := by
  obtain ⟨i, hi, hcmp⟩ := Option.map_eq_some_iff.1 isComp
  obtain ⟨j, hj, hjs⟩ := Option.map_eq_some_iff.1 isSize
  have heq := run_eql_iface_ptr_same (P := Tryd.prog) w a Tryd.underlying93 Tryd.underlying161 hi hcmp hj
  go_enter Tryd.func138, Tryd.ntmps138
  go_wp2
  refine wp_loop_rounds 1 ?_
  rw [rounds_succ]
  go_wp2
  go_ret
  exact ⟨rfl, rfl⟩
theorem is2_other (a b : Addr) (ca cb : Array Value) (ta tb : TypeId) (w : World) (hne : a ≠ b) (ha : w.heap[a.block]? = some (.cells ca ta (0, 0))) (hb : w.heap[b.block]? = some (.cells cb tb (0, 0))) :
    Calls Tryd.prog 138 #[er a, er b, .bool true] w fun e w' => e = .returned (.bool false) ∧ w' = w := by
  obtain ⟨i, hi, hcmp⟩ := Option.map_eq_some_iff.1 isComp
  obtain ⟨j, hj, hjs⟩ := Option.map_eq_some_iff.1 isSize
  have nE := noIsE
  have uE := noUnwrapE
  have vE := noUnwrapsE
  have heq := run_eql_iface_ptr_other (P := Tryd.prog) w Tryd.underlying93 Tryd.underlying161 hi hcmp hj (by rw [hjs]; decide) hne ha hb
  go_enter Tryd.func138, Tryd.ntmps138
  go_wp2
  refine wp_loop_rounds 1 ?_
  rw [rounds_succ]
  go_wp2
  go_ret
  exact ⟨rfl, rfl⟩
/-- errors.Is. -/
theorem is_same (a : Addr) (w : World) :
    Calls Tryd.prog 112 #[er a, er a] w fun e w' => e = .returned (.bool true) ∧ w' = w := by
  have tT := isTypeOf
  have cT := isComparable
  have mR := isMethodComparable
  go_enter Tryd.func112, Tryd.ntmps112
  go_wp2_with (go_at_call 138; refine (is2_same _ _).mono ?_; rintro e wn ⟨rfl, rfl⟩)
  go_wp2
  go_ret
  exact ⟨rfl, rfl⟩
theorem is_other (a b : Addr) (ca cb : Array Value) (ta tb : TypeId) (w : World) (hne : a ≠ b) (ha : w.heap[a.block]? = some (.cells ca ta (0, 0))) (hb : w.heap[b.block]? = some (.cells cb tb (0, 0))) :
    Calls Tryd.prog 112 #[er a, er b] w fun e w' => e = .returned (.bool false) ∧ w' = w := by
  have tT := isTypeOf
  have cT := isComparable
  have mR := isMethodComparable
  go_enter Tryd.func112, Tryd.ntmps112
  go_wp2_with (go_at_call 138; refine (is2_other _ _ ca cb ta tb _ hne ha hb).mono ?_; rintro e wn ⟨rfl, rfl⟩)
  go_wp2
  go_ret
  exact ⟨rfl, rfl⟩
/-- The code of an error that is not the one of what is no fraction. -/
theorem codeOfError_one (f a : Addr) (w : World) (hf : EA w 3 f) (ha : ∃ c t, w.heap[a.block]? = some (.cells c t (0, 0))) (hne : a ≠ f) :
    Calls Tryd.prog 90 #[er a] w fun e w' => e = .returned (.int .i64 1) ∧ w' = w := by
  obtain ⟨h1, ⟨c1, t1, b1⟩⟩ := hf
  obtain ⟨c0, t0, b0⟩ := ha
  have HB0 := Lib.hid b0
  have HB1 := Lib.hid b1
  have HN := Lib.hid hne
  clear b0 b1 hne
  go_enter Tryd.func90, Tryd.ntmps90
  go_wp2_with (go_at_call 112; refine (is_other _ _ _ _ _ _ _ HN.out HB0.out HB1.out).mono ?_; rintro e wn ⟨rfl, rfl⟩)
  go_ret
  exact ⟨rfl, rfl⟩
end Go.Proofs.YtjjblgmokmalaaaDoor
