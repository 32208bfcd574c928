/-
  The doors of chapter 5: what lies behind one, by its contract, returned or panicked (own work).
-/
import Derived.Test.YtjjblgmokmalaaaDoorEr8
namespace Go.Proofs.YtjjblgmokmalaaaDoor
open Go.ChangeShapes Go.WideShapes Go.ChangeAt Go.RowKit
set_option linter.unusedVariables false
set_option maxRecDepth 100000
set_option linter.unusedSimpArgs false
set_option maxRecDepth 100000

theorem noErrNil (w : World) : (Instr.typeAssert Value.nilIface 20 93 true).run Tryd.prog w = .ok (.tuple #[.nilIface, .bool false]) w := by kernel_rfl
theorem catch_panics_bool (a0 a1 a p : Addr) (x c : Int) (w : World) (hcode : Calls Tryd.prog 90 #[er a] w fun e w' => e = .returned (.int .i64 c) ∧ w' = w) (hc : w.cell? p = some (.int .i64 x)) (hz : w.frozen? p = false) :
    CallsD Tryd.prog 97 #[.pointer (some p)] (.panicking [{ v := er a, recovered := false }]) w fun e u' w' =>
      e = .returned (.tuple #[]) ∧ u' = .panicking [{ v := er a, recovered := true }] ∧ w' = w.setCell p (.int .i64 c) := by
  have hE := hasErr
  have HC := Lib.hid hcode
  clear hcode
  refine callsD_of_wpS Tryd.func97 rfl fun c₀ cs hu => ?_
  apply wpS_seq
  apply wpS_region
  simp [wpOpsS, go_sem, recoverD, hu, Tryd.ntmps97, Exit.thenS, hE]
  refine wpS_of_wp ?_
  simp only [Array.replicate_succ, Array.replicate_zero, List.push_toArray, List.append_toArray, List.nil_append, List.cons_append, List.setIfInBounds_toArray, List.set_cons_zero, List.set_cons_succ]
  go_wp2_with (go_at_call 90; refine HC.out.mono ?_; rintro e wn ⟨rfl, rfl⟩)
  simp [bodyPostS, results, Tryd.results97]
theorem catch_idle_bool (p : Addr) (w : World) :
    CallsD Tryd.prog 97 #[.pointer (some p)] .returning w fun e u' w' => e = .returned (.tuple #[]) ∧ u' = .returning ∧ w' = w := by
  have hN := noErrNil
  refine callsD_of_wpS Tryd.func97 rfl fun c₀ cs hu => ?_
  apply wpS_seq
  apply wpS_region
  simp [wpOpsS, go_sem, recoverD, hu, Tryd.ntmps97, Exit.thenS, hN]
  refine wpS_of_wp ?_
  simp only [Array.replicate_succ, Array.replicate_zero, List.push_toArray, List.append_toArray, List.nil_append, List.cons_append, List.setIfInBounds_toArray, List.set_cons_zero, List.set_cons_succ]
  go_wp2
  cases c₀
  simp_all [bodyPostS, results, Tryd.results97]
/-- What lies behind the door returns. -/
theorem door_ret_bool (G : FuncId) (caps : Array Value) (c : Int) (P : Value → World → Prop) (w : World) (eg : ∀ args w, (callFunc G args).run Tryd.prog w = .ok (.enter G args) w)
    (hP : ∀ v W x, P v W → P v (W.setCell ⟨w.heap.size, 0, none⟩ (.int .i64 x)))
    (hwork : ∀ W, Below w.heap.size w W → w.heap.size < W.heap.size → Calls Tryd.prog G caps W fun e W' => ∃ v, e = .returned (.tuple #[v, .int .i64 c]) ∧ P v W' ∧ Below W.heap.size W W') :
    Calls Tryd.prog 65 #[.func (.func G) #[] caps] w fun e w' => ∃ v, e = .returned (.tuple #[v, .int .i64 c]) ∧ P v w' ∧ Below w.heap.size w w' := by
  have hmf : ∀ (fn : Fn) (first cap : Array Value) (w : World), (Instr.makeFunc fn first cap).run Tryd.prog w = .ok (.func fn first cap) w := fun _ _ _ _ => rfl
  have HW := Lib.hid hwork
  have HP := Lib.hid hP
  clear hwork hP
  go_enter_defers Tryd.func65, Tryd.ntmps65
  go_wp2_with fail
  refine (HW.out _ ((Below.refl _ _).alloc (Nat.le_refl _) _) (by simp)).mono ?_
  rintro e w1 ⟨v, rfl, hPv, hb⟩
  have hc1 : w1.cell? ⟨w.heap.size, 0, none⟩ = some (.int .i64 0) := (hb.cell (p := ⟨w.heap.size, 0, none⟩) (by simp)).trans (by go_cell)
  have hz1 : w1.frozen? ⟨w.heap.size, 0, none⟩ = false := by rw [(bcell hb).2 _ _ (by simp)]; go_cell
  have HPv := Lib.hid hPv
  have HB := Lib.hid hb
  clear hPv hb
  go_wp2_with fail
  obtain ⟨w2, hw2⟩ : ∃ w2, w1.setCell ⟨w.heap.size, 0, none⟩ (.int .i64 c) = w2 := ⟨_, rfl⟩
  have hlt : w.heap.size < w1.heap.size := by have := HB.out.size; simp at this; omega
  have hc2 : w2.cell? ⟨w.heap.size, 0, none⟩ = some (.int .i64 c) := by
    rw [← hw2]; go_cell
  have HP2 : Hid (P v w2) := by show P v w2; rw [← hw2]; exact HP.out _ _ _ HPv.out
  have HB2 : Hid (Below w.heap.size w w2) := by
    show Below w.heap.size w w2
    rw [← hw2]
    exact Below.setCell (below_after HB.out ((Below.refl _ _).alloc (Nat.le_refl _) _)) (Nat.le_refl _) _
  rw [hw2]
  clear hw2 hc1 hz1
  refine leaves_cons (f := 97) (args := #[.pointer (some ⟨w.heap.size, 0, none⟩)]) (by simp) (by simp [go_sem]) ?_
  refine (catch_idle_bool ⟨w.heap.size, 0, none⟩ _).mono ?_
  rintro e u' w'' ⟨rfl, rfl, rfl⟩
  simp [Leaves, settle, results, Tryd.results65, go_sem, hc2]
  exact ⟨HP2.out, HB2.out⟩
/-- What lies behind the door panics with one of the two errors. -/
theorem door_pan_bool (G : FuncId) (caps : Array Value) (a : Addr) (c : Int) (w : World) (eg : ∀ args w, (callFunc G args).run Tryd.prog w = .ok (.enter G args) w)
    (hcode : ∀ W, Below w.heap.size w W → Calls Tryd.prog 90 #[er a] W fun e w' => e = .returned (.int .i64 c) ∧ w' = W)
    (hwork : ∀ W, Below w.heap.size w W → Calls Tryd.prog G caps W fun e W' => e = pan a ∧ Below W.heap.size W W') :
    Calls Tryd.prog 65 #[.func (.func G) #[] caps] w fun e w' => e = .returned (.tuple #[.bool false, .int .i64 c]) ∧ Below w.heap.size w w' := by
  have hmf : ∀ (fn : Fn) (first cap : Array Value) (w : World), (Instr.makeFunc fn first cap).run Tryd.prog w = .ok (.func fn first cap) w := fun _ _ _ _ => rfl
  have HW := Lib.hid hwork
  have HC := Lib.hid hcode
  clear hwork hcode
  go_enter_defers Tryd.func65, Tryd.ntmps65
  go_wp2_with fail
  refine (HW.out _ ((Below.refl _ _).alloc (Nat.le_refl _) _)).mono ?_
  rintro e w1 ⟨rfl, hb⟩
  have hc1 : w1.cell? ⟨w.heap.size, 0, none⟩ = some (.int .i64 0) := (hb.cell (p := ⟨w.heap.size, 0, none⟩) (by simp)).trans (by go_cell)
  have hz1 : w1.frozen? ⟨w.heap.size, 0, none⟩ = false := by rw [(bcell hb).2 _ _ (by simp)]; go_cell
  have HB1 : Hid (Below w.heap.size w w1) := below_after hb ((Below.refl _ _).alloc (Nat.le_refl _) _)
  have hlt : w.heap.size < w1.heap.size := by have := hb.size; simp at this; omega
  clear hb
  go_wp2_with fail
  refine leaves_cons (f := 97) (args := #[.pointer (some ⟨w.heap.size, 0, none⟩)]) (by simp) (by simp [go_sem]) ?_
  have HC1 := HC.out w1 HB1.out
  refine (catch_panics_bool a a a ⟨w.heap.size, 0, none⟩ 0 c w1 HC1 hc1 hz1).mono ?_
  rintro e u' w'' ⟨rfl, rfl, rfl⟩
  have hc2 : (w1.setCell ⟨w.heap.size, 0, none⟩ (.int .i64 c)).cell? ⟨w.heap.size, 0, none⟩ = some (.int .i64 c) := by go_cell
  simp [Leaves, settle, results, Tryd.results65, go_sem, hc2]
  first | exact Below.setCell HB1.out (Nat.le_refl _) _ | exact ⟨rfl, Below.setCell HB1.out (Nat.le_refl _) _⟩
theorem catch_panics_int (a0 a1 a p : Addr) (x c : Int) (w : World) (hcode : Calls Tryd.prog 90 #[er a] w fun e w' => e = .returned (.int .i64 c) ∧ w' = w) (hc : w.cell? p = some (.int .i64 x)) (hz : w.frozen? p = false) :
    CallsD Tryd.prog 92 #[.pointer (some p)] (.panicking [{ v := er a, recovered := false }]) w fun e u' w' =>
      e = .returned (.tuple #[]) ∧ u' = .panicking [{ v := er a, recovered := true }] ∧ w' = w.setCell p (.int .i64 c) := by
  have hE := hasErr
  have HC := Lib.hid hcode
  clear hcode
  refine callsD_of_wpS Tryd.func92 rfl fun c₀ cs hu => ?_
  apply wpS_seq
  apply wpS_region
  simp [wpOpsS, go_sem, recoverD, hu, Tryd.ntmps92, Exit.thenS, hE]
  refine wpS_of_wp ?_
  simp only [Array.replicate_succ, Array.replicate_zero, List.push_toArray, List.append_toArray, List.nil_append, List.cons_append, List.setIfInBounds_toArray, List.set_cons_zero, List.set_cons_succ]
  go_wp2_with (go_at_call 90; refine HC.out.mono ?_; rintro e wn ⟨rfl, rfl⟩)
  simp [bodyPostS, results, Tryd.results92]
theorem catch_idle_int (p : Addr) (w : World) :
    CallsD Tryd.prog 92 #[.pointer (some p)] .returning w fun e u' w' => e = .returned (.tuple #[]) ∧ u' = .returning ∧ w' = w := by
  have hN := noErrNil
  refine callsD_of_wpS Tryd.func92 rfl fun c₀ cs hu => ?_
  apply wpS_seq
  apply wpS_region
  simp [wpOpsS, go_sem, recoverD, hu, Tryd.ntmps92, Exit.thenS, hN]
  refine wpS_of_wp ?_
  simp only [Array.replicate_succ, Array.replicate_zero, List.push_toArray, List.append_toArray, List.nil_append, List.cons_append, List.setIfInBounds_toArray, List.set_cons_zero, List.set_cons_succ]
  go_wp2
  cases c₀
  simp_all [bodyPostS, results, Tryd.results92]
/-- What lies behind the door returns. -/
theorem door_ret_int (G : FuncId) (caps : Array Value) (c : Int) (P : Value → World → Prop) (w : World) (eg : ∀ args w, (callFunc G args).run Tryd.prog w = .ok (.enter G args) w)
    (hP : ∀ v W x, P v W → P v (W.setCell ⟨w.heap.size, 0, none⟩ (.int .i64 x)))
    (hwork : ∀ W, Below w.heap.size w W → w.heap.size < W.heap.size → Calls Tryd.prog G caps W fun e W' => ∃ v, e = .returned (.tuple #[v, .int .i64 c]) ∧ P v W' ∧ Below W.heap.size W W') :
    Calls Tryd.prog 52 #[.func (.func G) #[] caps] w fun e w' => ∃ v, e = .returned (.tuple #[v, .int .i64 c]) ∧ P v w' ∧ Below w.heap.size w w' := by
  have hmf : ∀ (fn : Fn) (first cap : Array Value) (w : World), (Instr.makeFunc fn first cap).run Tryd.prog w = .ok (.func fn first cap) w := fun _ _ _ _ => rfl
  have HW := Lib.hid hwork
  have HP := Lib.hid hP
  clear hwork hP
  go_enter_defers Tryd.func52, Tryd.ntmps52
  go_wp2_with fail
  refine (HW.out _ ((Below.refl _ _).alloc (Nat.le_refl _) _) (by simp)).mono ?_
  rintro e w1 ⟨v, rfl, hPv, hb⟩
  have hc1 : w1.cell? ⟨w.heap.size, 0, none⟩ = some (.int .i64 0) := (hb.cell (p := ⟨w.heap.size, 0, none⟩) (by simp)).trans (by go_cell)
  have hz1 : w1.frozen? ⟨w.heap.size, 0, none⟩ = false := by rw [(bcell hb).2 _ _ (by simp)]; go_cell
  have HPv := Lib.hid hPv
  have HB := Lib.hid hb
  clear hPv hb
  go_wp2_with fail
  obtain ⟨w2, hw2⟩ : ∃ w2, w1.setCell ⟨w.heap.size, 0, none⟩ (.int .i64 c) = w2 := ⟨_, rfl⟩
  have hlt : w.heap.size < w1.heap.size := by have := HB.out.size; simp at this; omega
  have hc2 : w2.cell? ⟨w.heap.size, 0, none⟩ = some (.int .i64 c) := by
    rw [← hw2]; go_cell
  have HP2 : Hid (P v w2) := by show P v w2; rw [← hw2]; exact HP.out _ _ _ HPv.out
  have HB2 : Hid (Below w.heap.size w w2) := by
    show Below w.heap.size w w2
    rw [← hw2]
    exact Below.setCell (below_after HB.out ((Below.refl _ _).alloc (Nat.le_refl _) _)) (Nat.le_refl _) _
  rw [hw2]
  clear hw2 hc1 hz1
  refine leaves_cons (f := 92) (args := #[.pointer (some ⟨w.heap.size, 0, none⟩)]) (by simp) (by simp [go_sem]) ?_
  refine (catch_idle_int ⟨w.heap.size, 0, none⟩ _).mono ?_
  rintro e u' w'' ⟨rfl, rfl, rfl⟩
  simp [Leaves, settle, results, Tryd.results52, go_sem, hc2]
  exact ⟨HP2.out, HB2.out⟩
/-- What lies behind the door panics with one of the two errors. -/
theorem door_pan_int (G : FuncId) (caps : Array Value) (a : Addr) (c : Int) (w : World) (eg : ∀ args w, (callFunc G args).run Tryd.prog w = .ok (.enter G args) w)
    (hcode : ∀ W, Below w.heap.size w W → Calls Tryd.prog 90 #[er a] W fun e w' => e = .returned (.int .i64 c) ∧ w' = W)
    (hwork : ∀ W, Below w.heap.size w W → Calls Tryd.prog G caps W fun e W' => e = pan a ∧ Below W.heap.size W W') :
    Calls Tryd.prog 52 #[.func (.func G) #[] caps] w fun e w' => e = .returned (.tuple #[.int .i64 0, .int .i64 c]) ∧ Below w.heap.size w w' := by
  have hmf : ∀ (fn : Fn) (first cap : Array Value) (w : World), (Instr.makeFunc fn first cap).run Tryd.prog w = .ok (.func fn first cap) w := fun _ _ _ _ => rfl
  have HW := Lib.hid hwork
  have HC := Lib.hid hcode
  clear hwork hcode
  go_enter_defers Tryd.func52, Tryd.ntmps52
  go_wp2_with fail
  refine (HW.out _ ((Below.refl _ _).alloc (Nat.le_refl _) _)).mono ?_
  rintro e w1 ⟨rfl, hb⟩
  have hc1 : w1.cell? ⟨w.heap.size, 0, none⟩ = some (.int .i64 0) := (hb.cell (p := ⟨w.heap.size, 0, none⟩) (by simp)).trans (by go_cell)
  have hz1 : w1.frozen? ⟨w.heap.size, 0, none⟩ = false := by rw [(bcell hb).2 _ _ (by simp)]; go_cell
  have HB1 : Hid (Below w.heap.size w w1) := below_after hb ((Below.refl _ _).alloc (Nat.le_refl _) _)
  have hlt : w.heap.size < w1.heap.size := by have := hb.size; simp at this; omega
  clear hb
  go_wp2_with fail
  refine leaves_cons (f := 92) (args := #[.pointer (some ⟨w.heap.size, 0, none⟩)]) (by simp) (by simp [go_sem]) ?_
  have HC1 := HC.out w1 HB1.out
  refine (catch_panics_int a a a ⟨w.heap.size, 0, none⟩ 0 c w1 HC1 hc1 hz1).mono ?_
  rintro e u' w'' ⟨rfl, rfl, rfl⟩
  have hc2 : (w1.setCell ⟨w.heap.size, 0, none⟩ (.int .i64 c)).cell? ⟨w.heap.size, 0, none⟩ = some (.int .i64 c) := by go_cell
  simp [Leaves, settle, results, Tryd.results52, go_sem, hc2]
  first | exact Below.setCell HB1.out (Nat.le_refl _) _ | exact ⟨rfl, Below.setCell HB1.out (Nat.le_refl _) _⟩
theorem catch_panics_ints (a0 a1 a p : Addr) (x c : Int) (w : World) (hcode : Calls Tryd.prog 90 #[er a] w fun e w' => e = .returned (.int .i64 c) ∧ w' = w) (hc : w.cell? p = some (.int .i64 x)) (hz : w.frozen? p = false) :
    CallsD Tryd.prog 89 #[.pointer (some p)] (.panicking [{ v := er a, recovered := false }]) w fun e u' w' =>
      e = .returned (.tuple #[]) ∧ u' = .panicking [{ v := er a, recovered := true }] ∧ w' = w.setCell p (.int .i64 c) := by
  have hE := hasErr
  have HC := Lib.hid hcode
  clear hcode
  refine callsD_of_wpS Tryd.func89 rfl fun c₀ cs hu => ?_
  apply wpS_seq
  apply wpS_region
  simp [wpOpsS, go_sem, recoverD, hu, Tryd.ntmps89, Exit.thenS, hE]
  refine wpS_of_wp ?_
  simp only [Array.replicate_succ, Array.replicate_zero, List.push_toArray, List.append_toArray, List.nil_append, List.cons_append, List.setIfInBounds_toArray, List.set_cons_zero, List.set_cons_succ]
  go_wp2_with (go_at_call 90; refine HC.out.mono ?_; rintro e wn ⟨rfl, rfl⟩)
  simp [bodyPostS, results, Tryd.results89]
theorem catch_idle_ints (p : Addr) (w : World) :
    CallsD Tryd.prog 89 #[.pointer (some p)] .returning w fun e u' w' => e = .returned (.tuple #[]) ∧ u' = .returning ∧ w' = w := by
  have hN := noErrNil
  refine callsD_of_wpS Tryd.func89 rfl fun c₀ cs hu => ?_
  apply wpS_seq
  apply wpS_region
  simp [wpOpsS, go_sem, recoverD, hu, Tryd.ntmps89, Exit.thenS, hN]
  refine wpS_of_wp ?_
  simp only [Array.replicate_succ, Array.replicate_zero, List.push_toArray, List.append_toArray, List.nil_append, List.cons_append, List.setIfInBounds_toArray, List.set_cons_zero, List.set_cons_succ]
  go_wp2
  cases c₀
  simp_all [bodyPostS, results, Tryd.results89]
/-- What lies behind the door returns. -/
theorem door_ret_ints (G : FuncId) (caps : Array Value) (c : Int) (P : Value → World → Prop) (w : World) (eg : ∀ args w, (callFunc G args).run Tryd.prog w = .ok (.enter G args) w)
    (hP : ∀ v W x, P v W → P v (W.setCell ⟨w.heap.size, 0, none⟩ (.int .i64 x)))
    (hwork : ∀ W, Below w.heap.size w W → w.heap.size < W.heap.size → Calls Tryd.prog G caps W fun e W' => ∃ v, e = .returned (.tuple #[v, .int .i64 c]) ∧ P v W' ∧ Below W.heap.size W W') :
    Calls Tryd.prog 47 #[.func (.func G) #[] caps] w fun e w' => ∃ v, e = .returned (.tuple #[v, .int .i64 c]) ∧ P v w' ∧ Below w.heap.size w w' := by
  have hmf : ∀ (fn : Fn) (first cap : Array Value) (w : World), (Instr.makeFunc fn first cap).run Tryd.prog w = .ok (.func fn first cap) w := fun _ _ _ _ => rfl
  have HW := Lib.hid hwork
  have HP := Lib.hid hP
  clear hwork hP
  go_enter_defers Tryd.func47, Tryd.ntmps47
  go_wp2_with fail
  refine (HW.out _ ((Below.refl _ _).alloc (Nat.le_refl _) _) (by simp)).mono ?_
  rintro e w1 ⟨v, rfl, hPv, hb⟩
  have hc1 : w1.cell? ⟨w.heap.size, 0, none⟩ = some (.int .i64 0) := (hb.cell (p := ⟨w.heap.size, 0, none⟩) (by simp)).trans (by go_cell)
  have hz1 : w1.frozen? ⟨w.heap.size, 0, none⟩ = false := by rw [(bcell hb).2 _ _ (by simp)]; go_cell
  have HPv := Lib.hid hPv
  have HB := Lib.hid hb
  clear hPv hb
  go_wp2_with fail
  obtain ⟨w2, hw2⟩ : ∃ w2, w1.setCell ⟨w.heap.size, 0, none⟩ (.int .i64 c) = w2 := ⟨_, rfl⟩
  have hlt : w.heap.size < w1.heap.size := by have := HB.out.size; simp at this; omega
  have hc2 : w2.cell? ⟨w.heap.size, 0, none⟩ = some (.int .i64 c) := by
    rw [← hw2]; go_cell
  have HP2 : Hid (P v w2) := by show P v w2; rw [← hw2]; exact HP.out _ _ _ HPv.out
  have HB2 : Hid (Below w.heap.size w w2) := by
    show Below w.heap.size w w2
    rw [← hw2]
    exact Below.setCell (below_after HB.out ((Below.refl _ _).alloc (Nat.le_refl _) _)) (Nat.le_refl _) _
  rw [hw2]
  clear hw2 hc1 hz1
  refine leaves_cons (f := 89) (args := #[.pointer (some ⟨w.heap.size, 0, none⟩)]) (by simp) (by simp [go_sem]) ?_
  refine (catch_idle_ints ⟨w.heap.size, 0, none⟩ _).mono ?_
  rintro e u' w'' ⟨rfl, rfl, rfl⟩
  simp [Leaves, settle, results, Tryd.results47, go_sem, hc2]
  exact ⟨HP2.out, HB2.out⟩
/-- What lies behind the door panics with one of the two errors. -/
theorem door_pan_ints (G : FuncId) (caps : Array Value) (a : Addr) (c : Int) (w : World) (eg : ∀ args w, (callFunc G args).run Tryd.prog w = .ok (.enter G args) w)
    (hcode : ∀ W, Below w.heap.size w W → Calls Tryd.prog 90 #[er a] W fun e w' => e = .returned (.int .i64 c) ∧ w' = W)
    (hwork : ∀ W, Below w.heap.size w W → Calls Tryd.prog G caps W fun e W' => e = pan a ∧ Below W.heap.size W W') :
    Calls Tryd.prog 47 #[.func (.func G) #[] caps] w fun e w' => e = .returned (.tuple #[.slice none 0 0, .int .i64 c]) ∧ Below w.heap.size w w' := by
  have hmf : ∀ (fn : Fn) (first cap : Array Value) (w : World), (Instr.makeFunc fn first cap).run Tryd.prog w = .ok (.func fn first cap) w := fun _ _ _ _ => rfl
  have HW := Lib.hid hwork
  have HC := Lib.hid hcode
  clear hwork hcode
  go_enter_defers Tryd.func47, Tryd.ntmps47
  go_wp2_with fail
  refine (HW.out _ ((Below.refl _ _).alloc (Nat.le_refl _) _)).mono ?_
  rintro e w1 ⟨rfl, hb⟩
  have hc1 : w1.cell? ⟨w.heap.size, 0, none⟩ = some (.int .i64 0) := (hb.cell (p := ⟨w.heap.size, 0, none⟩) (by simp)).trans (by go_cell)
  have hz1 : w1.frozen? ⟨w.heap.size, 0, none⟩ = false := by rw [(bcell hb).2 _ _ (by simp)]; go_cell
  have HB1 : Hid (Below w.heap.size w w1) := below_after hb ((Below.refl _ _).alloc (Nat.le_refl _) _)
  have hlt : w.heap.size < w1.heap.size := by have := hb.size; simp at this; omega
  clear hb
  go_wp2_with fail
  refine leaves_cons (f := 89) (args := #[.pointer (some ⟨w.heap.size, 0, none⟩)]) (by simp) (by simp [go_sem]) ?_
  have HC1 := HC.out w1 HB1.out
  refine (catch_panics_ints a a a ⟨w.heap.size, 0, none⟩ 0 c w1 HC1 hc1 hz1).mono ?_
  rintro e u' w'' ⟨rfl, rfl, rfl⟩
  have hc2 : (w1.setCell ⟨w.heap.size, 0, none⟩ (.int .i64 c)).cell? ⟨w.heap.size, 0, none⟩ = some (.int .i64 c) := by go_cell
  simp [Leaves, settle, results, Tryd.results47, go_sem, hc2]
  first | exact Below.setCell HB1.out (Nat.le_refl _) _ | exact ⟨rfl, Below.setCell HB1.out (Nat.le_refl _) _⟩
theorem catch_panics_spots (a0 a1 a p : Addr) (x c : Int) (w : World) (hcode : Calls Tryd.prog 90 #[er a] w fun e w' => e = .returned (.int .i64 c) ∧ w' = w) (hc : w.cell? p = some (.int .i64 x)) (hz : w.frozen? p = false) :
    CallsD Tryd.prog 116 #[.pointer (some p)] (.panicking [{ v := er a, recovered := false }]) w fun e u' w' =>
      e = .returned (.tuple #[]) ∧ u' = .panicking [{ v := er a, recovered := true }] ∧ w' = w.setCell p (.int .i64 c) := by
  have hE := hasErr
  have HC := Lib.hid hcode
  clear hcode
  refine callsD_of_wpS Tryd.func116 rfl fun c₀ cs hu => ?_
  apply wpS_seq
  apply wpS_region
  simp [wpOpsS, go_sem, recoverD, hu, Tryd.ntmps116, Exit.thenS, hE]
  refine wpS_of_wp ?_
  simp only [Array.replicate_succ, Array.replicate_zero, List.push_toArray, List.append_toArray, List.nil_append, List.cons_append, List.setIfInBounds_toArray, List.set_cons_zero, List.set_cons_succ]
  go_wp2_with (go_at_call 90; refine HC.out.mono ?_; rintro e wn ⟨rfl, rfl⟩)
  simp [bodyPostS, results, Tryd.results116]
theorem catch_idle_spots (p : Addr) (w : World) :
    CallsD Tryd.prog 116 #[.pointer (some p)] .returning w fun e u' w' => e = .returned (.tuple #[]) ∧ u' = .returning ∧ w' = w := by
  have hN := noErrNil
  refine callsD_of_wpS Tryd.func116 rfl fun c₀ cs hu => ?_
  apply wpS_seq
  apply wpS_region
  simp [wpOpsS, go_sem, recoverD, hu, Tryd.ntmps116, Exit.thenS, hN]
  refine wpS_of_wp ?_
  simp only [Array.replicate_succ, Array.replicate_zero, List.push_toArray, List.append_toArray, List.nil_append, List.cons_append, List.setIfInBounds_toArray, List.set_cons_zero, List.set_cons_succ]
  go_wp2
  cases c₀
  simp_all [bodyPostS, results, Tryd.results116]
/-- What lies behind the door returns. -/
theorem door_ret_spots (G : FuncId) (caps : Array Value) (c : Int) (P : Value → World → Prop) (w : World) (eg : ∀ args w, (callFunc G args).run Tryd.prog w = .ok (.enter G args) w)
    (hP : ∀ v W x, P v W → P v (W.setCell ⟨w.heap.size, 0, none⟩ (.int .i64 x)))
    (hwork : ∀ W, Below w.heap.size w W → w.heap.size < W.heap.size → Calls Tryd.prog G caps W fun e W' => ∃ v, e = .returned (.tuple #[v, .int .i64 c]) ∧ P v W' ∧ Below W.heap.size W W') :
    Calls Tryd.prog 101 #[.func (.func G) #[] caps] w fun e w' => ∃ v, e = .returned (.tuple #[v, .int .i64 c]) ∧ P v w' ∧ Below w.heap.size w w' := by
  have hmf : ∀ (fn : Fn) (first cap : Array Value) (w : World), (Instr.makeFunc fn first cap).run Tryd.prog w = .ok (.func fn first cap) w := fun _ _ _ _ => rfl
  have HW := Lib.hid hwork
  have HP := Lib.hid hP
  clear hwork hP
  go_enter_defers Tryd.func101, Tryd.ntmps101
  go_wp2_with fail
  refine (HW.out _ ((Below.refl _ _).alloc (Nat.le_refl _) _) (by simp)).mono ?_
  rintro e w1 ⟨v, rfl, hPv, hb⟩
  have hc1 : w1.cell? ⟨w.heap.size, 0, none⟩ = some (.int .i64 0) := (hb.cell (p := ⟨w.heap.size, 0, none⟩) (by simp)).trans (by go_cell)
  have hz1 : w1.frozen? ⟨w.heap.size, 0, none⟩ = false := by rw [(bcell hb).2 _ _ (by simp)]; go_cell
  have HPv := Lib.hid hPv
  have HB := Lib.hid hb
  clear hPv hb
  go_wp2_with fail
  obtain ⟨w2, hw2⟩ : ∃ w2, w1.setCell ⟨w.heap.size, 0, none⟩ (.int .i64 c) = w2 := ⟨_, rfl⟩
  have hlt : w.heap.size < w1.heap.size := by have := HB.out.size; simp at this; omega
  have hc2 : w2.cell? ⟨w.heap.size, 0, none⟩ = some (.int .i64 c) := by
    rw [← hw2]; go_cell
  have HP2 : Hid (P v w2) := by show P v w2; rw [← hw2]; exact HP.out _ _ _ HPv.out
  have HB2 : Hid (Below w.heap.size w w2) := by
    show Below w.heap.size w w2
    rw [← hw2]
    exact Below.setCell (below_after HB.out ((Below.refl _ _).alloc (Nat.le_refl _) _)) (Nat.le_refl _) _
  rw [hw2]
  clear hw2 hc1 hz1
  refine leaves_cons (f := 116) (args := #[.pointer (some ⟨w.heap.size, 0, none⟩)]) (by simp) (by simp [go_sem]) ?_
  refine (catch_idle_spots ⟨w.heap.size, 0, none⟩ _).mono ?_
  rintro e u' w'' ⟨rfl, rfl, rfl⟩
  simp [Leaves, settle, results, Tryd.results101, go_sem, hc2]
  exact ⟨HP2.out, HB2.out⟩
/-- What lies behind the door panics with one of the two errors. -/
theorem door_pan_spots (G : FuncId) (caps : Array Value) (a : Addr) (c : Int) (w : World) (eg : ∀ args w, (callFunc G args).run Tryd.prog w = .ok (.enter G args) w)
    (hcode : ∀ W, Below w.heap.size w W → Calls Tryd.prog 90 #[er a] W fun e w' => e = .returned (.int .i64 c) ∧ w' = W)
    (hwork : ∀ W, Below w.heap.size w W → Calls Tryd.prog G caps W fun e W' => e = pan a ∧ Below W.heap.size W W') :
    Calls Tryd.prog 101 #[.func (.func G) #[] caps] w fun e w' => e = .returned (.tuple #[.slice none 0 0, .int .i64 c]) ∧ Below w.heap.size w w' := by
  have hmf : ∀ (fn : Fn) (first cap : Array Value) (w : World), (Instr.makeFunc fn first cap).run Tryd.prog w = .ok (.func fn first cap) w := fun _ _ _ _ => rfl
  have HW := Lib.hid hwork
  have HC := Lib.hid hcode
  clear hwork hcode
  go_enter_defers Tryd.func101, Tryd.ntmps101
  go_wp2_with fail
  refine (HW.out _ ((Below.refl _ _).alloc (Nat.le_refl _) _)).mono ?_
  rintro e w1 ⟨rfl, hb⟩
  have hc1 : w1.cell? ⟨w.heap.size, 0, none⟩ = some (.int .i64 0) := (hb.cell (p := ⟨w.heap.size, 0, none⟩) (by simp)).trans (by go_cell)
  have hz1 : w1.frozen? ⟨w.heap.size, 0, none⟩ = false := by rw [(bcell hb).2 _ _ (by simp)]; go_cell
  have HB1 : Hid (Below w.heap.size w w1) := below_after hb ((Below.refl _ _).alloc (Nat.le_refl _) _)
  have hlt : w.heap.size < w1.heap.size := by have := hb.size; simp at this; omega
  clear hb
  go_wp2_with fail
  refine leaves_cons (f := 116) (args := #[.pointer (some ⟨w.heap.size, 0, none⟩)]) (by simp) (by simp [go_sem]) ?_
  have HC1 := HC.out w1 HB1.out
  refine (catch_panics_spots a a a ⟨w.heap.size, 0, none⟩ 0 c w1 HC1 hc1 hz1).mono ?_
  rintro e u' w'' ⟨rfl, rfl, rfl⟩
  have hc2 : (w1.setCell ⟨w.heap.size, 0, none⟩ (.int .i64 c)).cell? ⟨w.heap.size, 0, none⟩ = some (.int .i64 c) := by go_cell
  simp [Leaves, settle, results, Tryd.results101, go_sem, hc2]
  first | exact Below.setCell HB1.out (Nat.le_refl _) _ | exact ⟨rfl, Below.setCell HB1.out (Nat.le_refl _) _⟩
end Go.Proofs.YtjjblgmokmalaaaDoor
