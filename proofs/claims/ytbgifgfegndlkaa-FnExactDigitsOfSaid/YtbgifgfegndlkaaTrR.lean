/-
  Rules in the program: values with methods, called through an interface (own work).
-/
import Derived.Test.YtbgifgfegndlkaaTrT
namespace Go.Proofs.Ytbgifgfegndlkaa
open Go.ChangeShapes Go.WideShapes Go.ChangeAt Go.RowKit
set_option linter.unusedVariables false
set_option linter.unusedSimpArgs false
set_option maxRecDepth 100000

/-- The type of a rule, by its number. -/
def rt (k : Nat) : TypeId := match k with | 0 => 100 | 1 => 101 | 2 => 102 | _ => 103
def rv (k : Nat) : Value := .iface (rt k) (.agg #[])
theorem end_0 (a b c : Int) (w : World) : Calls Try.prog 117 #[.agg #[], .agg #[.int .i64 a, .int .i64 b, .int .i64 c]] w fun e w' => e = .returned (.bool (b == 0)) ∧ Below w.heap.size w w' := by
  have hs20 : w.heap.size < w.heap.size + 1 + 1 := (by omega)
  go_enter Try.func117, Try.ntmps117
  go_wp2
  go_ret
  exact ⟨by first | rfl | simp, by (repeat' (first | (with_reducible exact Below.refl _ _) | (with_reducible refine Below.alloc ?_ ?_ _) | (with_reducible refine Below.setCell ?_ ?_ _) | (with_reducible refine Below.drew ?_) | (with_reducible refine below_drewN ?_ _) | (with_reducible assumption) | (with_reducible refine below_after (by with_reducible assumption) ?_) | go_size))⟩
theorem sub_0 (a b c : Int) (w : World) (a1 : 0 ≤ a) (a2 : a ≤ 1000000) (b1 : 0 ≤ b) (b2 : b ≤ 1000000) (c1 : 0 ≤ c) (c2 : c ≤ 1000000) : Calls Try.prog 118 #[.agg #[], .agg #[.int .i64 a, .int .i64 b, .int .i64 c]] w fun e w' => e = .returned (.agg #[.int .i64 (a - b), .int .i64 b, .int .i64 c]) ∧ Below w.heap.size w w' := by
  have hs20 : w.heap.size < w.heap.size + 1 + 1 := (by omega); have hs30 : w.heap.size < w.heap.size + 1 + 1 + 1 := (by omega); have hs31 : w.heap.size + 1 < w.heap.size + 1 + 1 + 1 := (by omega)
  go_enter Try.func118, Try.ntmps118
  go_wp2
  refine bodyPost_ret (v := .agg #[.int .i64 (a - b), .int .i64 b, .int .i64 c]) (by simp (maxDischargeDepth := 8) [results, Try.results118, go_sem, *]) rfl ?_
  exact ⟨rfl, by (repeat' (first | (with_reducible exact Below.refl _ _) | (with_reducible refine Below.alloc ?_ ?_ _) | (with_reducible refine Below.setCell ?_ ?_ _) | (with_reducible refine Below.drew ?_) | (with_reducible refine below_drewN ?_ _) | (with_reducible assumption) | (with_reducible refine below_after (by with_reducible assumption) ?_) | go_size))⟩
theorem add_0 (x y z : Int) (w : World) (a1 : 0 ≤ x) (a2 : x ≤ 1000000000000) (b1 : 0 ≤ y) (b2 : y ≤ 1000000000000) (c1 : 0 ≤ z) (c2 : z ≤ 1000000000000) : Calls Try.prog 116 #[.agg #[], .agg #[.int .i64 x, .int .i64 y, .int .i64 z]] w fun e w' => e = .returned (.agg #[.int .i64 x, .int .i64 (x + y), .int .i64 z]) ∧ Below w.heap.size w w' := by
  have hs20 : w.heap.size < w.heap.size + 1 + 1 := (by omega); have hs30 : w.heap.size < w.heap.size + 1 + 1 + 1 := (by omega); have hs31 : w.heap.size + 1 < w.heap.size + 1 + 1 + 1 := (by omega)
  go_enter Try.func116, Try.ntmps116
  go_wp2
  refine bodyPost_ret (v := .agg #[.int .i64 x, .int .i64 (x + y), .int .i64 z]) (by simp (maxDischargeDepth := 8) [results, Try.results116, go_sem, *]) rfl ?_
  exact ⟨rfl, by (repeat' (first | (with_reducible exact Below.refl _ _) | (with_reducible refine Below.alloc ?_ ?_ _) | (with_reducible refine Below.setCell ?_ ?_ _) | (with_reducible refine Below.drew ?_) | (with_reducible refine below_drewN ?_ _) | (with_reducible assumption) | (with_reducible refine below_after (by with_reducible assumption) ?_) | go_size))⟩
theorem end_1 (a b c : Int) (w : World) : Calls Try.prog 120 #[.agg #[], .agg #[.int .i64 a, .int .i64 b, .int .i64 c]] w fun e w' => e = .returned (.bool (c == 0)) ∧ Below w.heap.size w w' := by
  have hs20 : w.heap.size < w.heap.size + 1 + 1 := (by omega)
  go_enter Try.func120, Try.ntmps120
  go_wp2
  go_ret
  exact ⟨by first | rfl | simp, by (repeat' (first | (with_reducible exact Below.refl _ _) | (with_reducible refine Below.alloc ?_ ?_ _) | (with_reducible refine Below.setCell ?_ ?_ _) | (with_reducible refine Below.drew ?_) | (with_reducible refine below_drewN ?_ _) | (with_reducible assumption) | (with_reducible refine below_after (by with_reducible assumption) ?_) | go_size))⟩
theorem sub_1 (a b c : Int) (w : World) (a1 : 0 ≤ a) (a2 : a ≤ 1000000) (b1 : 0 ≤ b) (b2 : b ≤ 1000000) (c1 : 0 ≤ c) (c2 : c ≤ 1000000) : Calls Try.prog 121 #[.agg #[], .agg #[.int .i64 a, .int .i64 b, .int .i64 c]] w fun e w' => e = .returned (.agg #[.int .i64 (a - c), .int .i64 b, .int .i64 c]) ∧ Below w.heap.size w w' := by
  have hs20 : w.heap.size < w.heap.size + 1 + 1 := (by omega); have hs30 : w.heap.size < w.heap.size + 1 + 1 + 1 := (by omega); have hs31 : w.heap.size + 1 < w.heap.size + 1 + 1 + 1 := (by omega)
  go_enter Try.func121, Try.ntmps121
  go_wp2
  refine bodyPost_ret (v := .agg #[.int .i64 (a - c), .int .i64 b, .int .i64 c]) (by simp (maxDischargeDepth := 8) [results, Try.results121, go_sem, *]) rfl ?_
  exact ⟨rfl, by (repeat' (first | (with_reducible exact Below.refl _ _) | (with_reducible refine Below.alloc ?_ ?_ _) | (with_reducible refine Below.setCell ?_ ?_ _) | (with_reducible refine Below.drew ?_) | (with_reducible refine below_drewN ?_ _) | (with_reducible assumption) | (with_reducible refine below_after (by with_reducible assumption) ?_) | go_size))⟩
theorem add_1 (x y z : Int) (w : World) (a1 : 0 ≤ x) (a2 : x ≤ 1000000000000) (b1 : 0 ≤ y) (b2 : y ≤ 1000000000000) (c1 : 0 ≤ z) (c2 : z ≤ 1000000000000) : Calls Try.prog 119 #[.agg #[], .agg #[.int .i64 x, .int .i64 y, .int .i64 z]] w fun e w' => e = .returned (.agg #[.int .i64 x, .int .i64 y, .int .i64 (x + z)]) ∧ Below w.heap.size w w' := by
  have hs20 : w.heap.size < w.heap.size + 1 + 1 := (by omega); have hs30 : w.heap.size < w.heap.size + 1 + 1 + 1 := (by omega); have hs31 : w.heap.size + 1 < w.heap.size + 1 + 1 + 1 := (by omega)
  go_enter Try.func119, Try.ntmps119
  go_wp2
  refine bodyPost_ret (v := .agg #[.int .i64 x, .int .i64 y, .int .i64 (x + z)]) (by simp (maxDischargeDepth := 8) [results, Try.results119, go_sem, *]) rfl ?_
  exact ⟨rfl, by (repeat' (first | (with_reducible exact Below.refl _ _) | (with_reducible refine Below.alloc ?_ ?_ _) | (with_reducible refine Below.setCell ?_ ?_ _) | (with_reducible refine Below.drew ?_) | (with_reducible refine below_drewN ?_ _) | (with_reducible assumption) | (with_reducible refine below_after (by with_reducible assumption) ?_) | go_size))⟩
theorem end_2 (a b c : Int) (w : World) : Calls Try.prog 123 #[.agg #[], .agg #[.int .i64 a, .int .i64 b, .int .i64 c]] w fun e w' => e = .returned (.bool (b == 0)) ∧ Below w.heap.size w w' := by
  have hs20 : w.heap.size < w.heap.size + 1 + 1 := (by omega)
  go_enter Try.func123, Try.ntmps123
  go_wp2
  go_ret
  exact ⟨by first | rfl | simp, by (repeat' (first | (with_reducible exact Below.refl _ _) | (with_reducible refine Below.alloc ?_ ?_ _) | (with_reducible refine Below.setCell ?_ ?_ _) | (with_reducible refine Below.drew ?_) | (with_reducible refine below_drewN ?_ _) | (with_reducible assumption) | (with_reducible refine below_after (by with_reducible assumption) ?_) | go_size))⟩
theorem sub_2 (a b c : Int) (w : World) (a1 : 0 ≤ a) (a2 : a ≤ 1000000) (b1 : 0 ≤ b) (b2 : b ≤ 1000000) (c1 : 0 ≤ c) (c2 : c ≤ 1000000) : Calls Try.prog 124 #[.agg #[], .agg #[.int .i64 a, .int .i64 b, .int .i64 c]] w fun e w' => e = .returned (.agg #[.int .i64 (a - b), .int .i64 (b - c), .int .i64 c]) ∧ Below w.heap.size w w' := by
  have hs20 : w.heap.size < w.heap.size + 1 + 1 := (by omega); have hs30 : w.heap.size < w.heap.size + 1 + 1 + 1 := (by omega); have hs31 : w.heap.size + 1 < w.heap.size + 1 + 1 + 1 := (by omega)
  go_enter Try.func124, Try.ntmps124
  go_wp2
  refine bodyPost_ret (v := .agg #[.int .i64 (a - b), .int .i64 (b - c), .int .i64 c]) (by simp (maxDischargeDepth := 8) [results, Try.results124, go_sem, *]) rfl ?_
  exact ⟨rfl, by (repeat' (first | (with_reducible exact Below.refl _ _) | (with_reducible refine Below.alloc ?_ ?_ _) | (with_reducible refine Below.setCell ?_ ?_ _) | (with_reducible refine Below.drew ?_) | (with_reducible refine below_drewN ?_ _) | (with_reducible assumption) | (with_reducible refine below_after (by with_reducible assumption) ?_) | go_size))⟩
theorem add_2 (x y z : Int) (w : World) (a1 : 0 ≤ x) (a2 : x ≤ 1000000000000) (b1 : 0 ≤ y) (b2 : y ≤ 1000000000000) (c1 : 0 ≤ z) (c2 : z ≤ 1000000000000) : Calls Try.prog 122 #[.agg #[], .agg #[.int .i64 x, .int .i64 y, .int .i64 z]] w fun e w' => e = .returned (.agg #[.int .i64 x, .int .i64 (x + y), .int .i64 (x + y + z)]) ∧ Below w.heap.size w w' := by
  have hs20 : w.heap.size < w.heap.size + 1 + 1 := (by omega); have hs30 : w.heap.size < w.heap.size + 1 + 1 + 1 := (by omega); have hs31 : w.heap.size + 1 < w.heap.size + 1 + 1 + 1 := (by omega)
  go_enter Try.func122, Try.ntmps122
  go_wp2
  refine bodyPost_ret (v := .agg #[.int .i64 x, .int .i64 (x + y), .int .i64 (x + y + z)]) (by simp (maxDischargeDepth := 8) [results, Try.results122, go_sem, *]) rfl ?_
  exact ⟨rfl, by (repeat' (first | (with_reducible exact Below.refl _ _) | (with_reducible refine Below.alloc ?_ ?_ _) | (with_reducible refine Below.setCell ?_ ?_ _) | (with_reducible refine Below.drew ?_) | (with_reducible refine below_drewN ?_ _) | (with_reducible assumption) | (with_reducible refine below_after (by with_reducible assumption) ?_) | go_size))⟩
theorem end_3 (a b c : Int) (w : World) : Calls Try.prog 126 #[.agg #[], .agg #[.int .i64 a, .int .i64 b, .int .i64 c]] w fun e w' => e = .returned (.bool (c == 0)) ∧ Below w.heap.size w w' := by
  have hs20 : w.heap.size < w.heap.size + 1 + 1 := (by omega)
  go_enter Try.func126, Try.ntmps126
  go_wp2
  go_ret
  exact ⟨by first | rfl | simp, by (repeat' (first | (with_reducible exact Below.refl _ _) | (with_reducible refine Below.alloc ?_ ?_ _) | (with_reducible refine Below.setCell ?_ ?_ _) | (with_reducible refine Below.drew ?_) | (with_reducible refine below_drewN ?_ _) | (with_reducible assumption) | (with_reducible refine below_after (by with_reducible assumption) ?_) | go_size))⟩
theorem sub_3 (a b c : Int) (w : World) (a1 : 0 ≤ a) (a2 : a ≤ 1000000) (b1 : 0 ≤ b) (b2 : b ≤ 1000000) (c1 : 0 ≤ c) (c2 : c ≤ 1000000) : Calls Try.prog 127 #[.agg #[], .agg #[.int .i64 a, .int .i64 b, .int .i64 c]] w fun e w' => e = .returned (.agg #[.int .i64 (a - c), .int .i64 (b - c), .int .i64 c]) ∧ Below w.heap.size w w' := by
  have hs20 : w.heap.size < w.heap.size + 1 + 1 := (by omega); have hs30 : w.heap.size < w.heap.size + 1 + 1 + 1 := (by omega); have hs31 : w.heap.size + 1 < w.heap.size + 1 + 1 + 1 := (by omega)
  go_enter Try.func127, Try.ntmps127
  go_wp2
  refine bodyPost_ret (v := .agg #[.int .i64 (a - c), .int .i64 (b - c), .int .i64 c]) (by simp (maxDischargeDepth := 8) [results, Try.results127, go_sem, *]) rfl ?_
  exact ⟨rfl, by (repeat' (first | (with_reducible exact Below.refl _ _) | (with_reducible refine Below.alloc ?_ ?_ _) | (with_reducible refine Below.setCell ?_ ?_ _) | (with_reducible refine Below.drew ?_) | (with_reducible refine below_drewN ?_ _) | (with_reducible assumption) | (with_reducible refine below_after (by with_reducible assumption) ?_) | go_size))⟩
theorem add_3 (x y z : Int) (w : World) (a1 : 0 ≤ x) (a2 : x ≤ 1000000000000) (b1 : 0 ≤ y) (b2 : y ≤ 1000000000000) (c1 : 0 ≤ z) (c2 : z ≤ 1000000000000) : Calls Try.prog 125 #[.agg #[], .agg #[.int .i64 x, .int .i64 y, .int .i64 z]] w fun e w' => e = .returned (.agg #[.int .i64 x, .int .i64 y, .int .i64 (x + y + z)]) ∧ Below w.heap.size w w' := by
  have hs20 : w.heap.size < w.heap.size + 1 + 1 := (by omega); have hs30 : w.heap.size < w.heap.size + 1 + 1 + 1 := (by omega); have hs31 : w.heap.size + 1 < w.heap.size + 1 + 1 + 1 := (by omega)
  go_enter Try.func125, Try.ntmps125
  go_wp2
  refine bodyPost_ret (v := .agg #[.int .i64 x, .int .i64 y, .int .i64 (x + y + z)]) (by simp (maxDischargeDepth := 8) [results, Try.results125, go_sem, *]) rfl ?_
  exact ⟨rfl, by (repeat' (first | (with_reducible exact Below.refl _ _) | (with_reducible refine Below.alloc ?_ ?_ _) | (with_reducible refine Below.setCell ?_ ?_ _) | (with_reducible refine Below.drew ?_) | (with_reducible refine below_drewN ?_ _) | (with_reducible assumption) | (with_reducible refine below_after (by with_reducible assumption) ?_) | go_size))⟩
theorem inv_end (k : Nat) (hk : k < 4) : ∃ F, (∀ w, (Go.method 232 (rt k) (.agg #[]) "loop.example/g01297/impl.hasEnded").run Try.prog w = .ok (F, .agg #[]) w) ∧ (∀ args w, (callFunc F args).run Try.prog w = .ok (.enter F args) w) ∧ ∀ (a b c : Int) (w : World), True → Calls Try.prog F #[.agg #[], .agg #[.int .i64 a, .int .i64 b, .int .i64 c]] w fun e w' => e = .returned (.bool (rEnd k b c)) ∧ Below w.heap.size w w' := by
  match k, hk with
  | 0, _ => exact ⟨117, fun _ => by kernel_rfl, fun _ _ => by kernel_rfl, fun a b c w _ => end_0 a b c w⟩
  | 1, _ => exact ⟨120, fun _ => by kernel_rfl, fun _ _ => by kernel_rfl, fun a b c w _ => end_1 a b c w⟩
  | 2, _ => exact ⟨123, fun _ => by kernel_rfl, fun _ _ => by kernel_rfl, fun a b c w _ => end_2 a b c w⟩
  | 3, _ => exact ⟨126, fun _ => by kernel_rfl, fun _ _ => by kernel_rfl, fun a b c w _ => end_3 a b c w⟩
theorem inv_sub (k : Nat) (hk : k < 4) : ∃ F, (∀ w, (Go.method 232 (rt k) (.agg #[]) "loop.example/g01297/impl.subtracted").run Try.prog w = .ok (F, .agg #[]) w) ∧ (∀ args w, (callFunc F args).run Try.prog w = .ok (.enter F args) w) ∧ ∀ (a b c : Int) (w : World), B0 a ∧ B0 b ∧ B0 c → Calls Try.prog F #[.agg #[], .agg #[.int .i64 a, .int .i64 b, .int .i64 c]] w fun e w' => e = .returned (.agg #[.int .i64 ((rSub k a b c).1), .int .i64 ((rSub k a b c).2.1), .int .i64 ((rSub k a b c).2.2)]) ∧ Below w.heap.size w w' := by
  match k, hk with
  | 0, _ => exact ⟨118, fun _ => by kernel_rfl, fun _ _ => by kernel_rfl, fun a b c w h => sub_0 a b c w h.1.1 h.1.2 h.2.1.1 h.2.1.2 h.2.2.1 h.2.2.2⟩
  | 1, _ => exact ⟨121, fun _ => by kernel_rfl, fun _ _ => by kernel_rfl, fun a b c w h => sub_1 a b c w h.1.1 h.1.2 h.2.1.1 h.2.1.2 h.2.2.1 h.2.2.2⟩
  | 2, _ => exact ⟨124, fun _ => by kernel_rfl, fun _ _ => by kernel_rfl, fun a b c w h => sub_2 a b c w h.1.1 h.1.2 h.2.1.1 h.2.1.2 h.2.2.1 h.2.2.2⟩
  | 3, _ => exact ⟨127, fun _ => by kernel_rfl, fun _ _ => by kernel_rfl, fun a b c w h => sub_3 a b c w h.1.1 h.1.2 h.2.1.1 h.2.1.2 h.2.2.1 h.2.2.2⟩
/-- Numbers of matrices on their way. -/
def B1 (n : Int) : Prop := 0 ≤ n ∧ n ≤ 1000000000000
theorem inv_add (k : Nat) (hk : k < 4) : ∃ F, (∀ w, (Go.method 232 (rt k) (.agg #[]) "loop.example/g01297/impl.added").run Try.prog w = .ok (F, .agg #[]) w) ∧ (∀ args w, (callFunc F args).run Try.prog w = .ok (.enter F args) w) ∧ ∀ (x y z : Int) (w : World), B1 x ∧ B1 y ∧ B1 z → Calls Try.prog F #[.agg #[], .agg #[.int .i64 x, .int .i64 y, .int .i64 z]] w fun e w' => e = .returned (.agg #[.int .i64 ((rAdd k x y z).1), .int .i64 ((rAdd k x y z).2.1), .int .i64 ((rAdd k x y z).2.2)]) ∧ Below w.heap.size w w' := by
  match k, hk with
  | 0, _ => exact ⟨116, fun _ => by kernel_rfl, fun _ _ => by kernel_rfl, fun x y z w h => add_0 x y z w h.1.1 h.1.2 h.2.1.1 h.2.1.2 h.2.2.1 h.2.2.2⟩
  | 1, _ => exact ⟨119, fun _ => by kernel_rfl, fun _ _ => by kernel_rfl, fun x y z w h => add_1 x y z w h.1.1 h.1.2 h.2.1.1 h.2.1.2 h.2.2.1 h.2.2.2⟩
  | 2, _ => exact ⟨122, fun _ => by kernel_rfl, fun _ _ => by kernel_rfl, fun x y z w h => add_2 x y z w h.1.1 h.1.2 h.2.1.1 h.2.1.2 h.2.2.1 h.2.2.2⟩
  | 3, _ => exact ⟨125, fun _ => by kernel_rfl, fun _ _ => by kernel_rfl, fun x y z w h => add_3 x y z w h.1.1 h.1.2 h.2.1.1 h.2.1.2 h.2.2.1 h.2.2.2⟩
theorem ruleOf_any (k : Nat) (w : World) (hk : k < 4) : Calls Try.prog 63 #[.int .i64 (k : Int)] w fun e w' => e = .returned (rv k) ∧ w = w' := by
  match k, hk with
  | 0, _ =>
    rw [show ((0 : Nat) : Int) = 0 from rfl]
    have hidx : ∀ w : World, (Instr.index 104 (.agg #[.iface 100 (.agg #[]), .iface 101 (.agg #[]), .iface 102 (.agg #[]), .iface 103 (.agg #[])]) (.int .i64 0)).run Try.prog w = .ok (rv 0) w := fun _ => by kernel_rfl
    go_enter Try.func63, Try.ntmps63
    go_wp2
    go_ret
    exact ⟨rfl, rfl⟩
  | 1, _ =>
    rw [show ((1 : Nat) : Int) = 1 from rfl]
    have hidx : ∀ w : World, (Instr.index 104 (.agg #[.iface 100 (.agg #[]), .iface 101 (.agg #[]), .iface 102 (.agg #[]), .iface 103 (.agg #[])]) (.int .i64 1)).run Try.prog w = .ok (rv 1) w := fun _ => by kernel_rfl
    go_enter Try.func63, Try.ntmps63
    go_wp2
    go_ret
    exact ⟨rfl, rfl⟩
  | 2, _ =>
    rw [show ((2 : Nat) : Int) = 2 from rfl]
    have hidx : ∀ w : World, (Instr.index 104 (.agg #[.iface 100 (.agg #[]), .iface 101 (.agg #[]), .iface 102 (.agg #[]), .iface 103 (.agg #[])]) (.int .i64 2)).run Try.prog w = .ok (rv 2) w := fun _ => by kernel_rfl
    go_enter Try.func63, Try.ntmps63
    go_wp2
    go_ret
    exact ⟨rfl, rfl⟩
  | 3, _ =>
    rw [show ((3 : Nat) : Int) = 3 from rfl]
    have hidx : ∀ w : World, (Instr.index 104 (.agg #[.iface 100 (.agg #[]), .iface 101 (.agg #[]), .iface 102 (.agg #[]), .iface 103 (.agg #[])]) (.int .i64 3)).run Try.prog w = .ok (rv 3) w := fun _ => by kernel_rfl
    go_enter Try.func63, Try.ntmps63
    go_wp2
    go_ret
    exact ⟨rfl, rfl⟩
end Go.Proofs.Ytbgifgfegndlkaa
