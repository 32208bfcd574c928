/-
  Triples as plain numbers: what is a triple, the order of its numbers; the small functions on triples, in the program and in the model (own work).
-/
import Derived.Test.YthckbobbnkhnpaaBlk
import Derived.Test.YthckbobbnkhnpaaOwn
import Derived.StillTailTactics
import Derived.Deep.Cut
import Derived.Deep.RegionWith
namespace Go.Proofs.Ythckbobbnkhnpaa
open Go.ChangeShapes Go.WideShapes Go.ChangeAt Go.RowKit
set_option linter.unusedVariables false
set_option linter.unusedSimpArgs false
set_option maxRecDepth 100000

/-- A number in 0..1000000. -/
def inB (n l h : Int) : Bool := decide (l ≤ n ∧ n ≤ h)
theorem inB_iff {n l h : Int} : inB n l h = true ↔ l ≤ n ∧ n ≤ h := by simp [inB]
theorem inB_not {n l h : Int} : inB n l h = false ↔ ¬ (l ≤ n ∧ n ≤ h) := by simp [inB]
def wh (n : Int) : Bool := inB n 0 1000000
theorem wh_iff {n : Int} : wh n = true ↔ 0 ≤ n ∧ n ≤ 1000000 := inB_iff
/-- A triple. -/
def isTr (a b c : Int) : Bool := wh a && wh b && wh c && !((a == 0 && b == 0) && c == 0)
theorem isTr_parts {a b c : Int} (h : isTr a b c = true) : (0 ≤ a ∧ a ≤ 1000000) ∧ (0 ≤ b ∧ b ≤ 1000000) ∧ (0 ≤ c ∧ c ≤ 1000000) ∧ ¬ (a = 0 ∧ b = 0 ∧ c = 0) := by
  simp only [isTr, Bool.and_eq_true, wh_iff, Bool.not_eq_true', Bool.and_eq_false_iff, beq_eq_false_iff_ne] at h
  refine ⟨h.1.1.1, h.1.1.2, h.1.2, ?_⟩
  have := h.2
  omega
theorem isTr_of {a b c : Int} (h : (0 ≤ a ∧ a ≤ 1000000) ∧ (0 ≤ b ∧ b ≤ 1000000) ∧ (0 ≤ c ∧ c ≤ 1000000) ∧ ¬ (a = 0 ∧ b = 0 ∧ c = 0)) : isTr a b c = true := by
  simp only [isTr, Bool.and_eq_true, wh_iff, Bool.not_eq_true', Bool.and_eq_false_iff, beq_eq_false_iff_ne]
  obtain ⟨h1, h2, h3, h4⟩ := h
  refine ⟨⟨⟨h1, h2⟩, h3⟩, ?_⟩
  omega
/-- One of three numbers, by its place. -/
def pk (p : Nat) (x y z : Int) : Int := match p with | 0 => x | 1 => y | _ => z
/-- The places of the numbers in descending order, equal ones as they stand. -/
def od (a b c : Int) : Nat × Nat × Nat :=
  if a < b then (if a < c then (if b < c then (2, 1, 0) else (1, 2, 0)) else (1, 0, 2))
  else (if b < c then (if a < c then (2, 0, 1) else (0, 2, 1)) else (0, 1, 2))
/-- The numbers at these places. -/
def at3 (p : Nat × Nat × Nat) (x y z : Int) : Int × Int × Int := (pk p.1 x y z, pk p.2.1 x y z, pk p.2.2 x y z)
def st3 (a b c : Int) : Int × Int × Int := at3 (od a b c) a b c
theorem od_lt (a b c : Int) : (od a b c).1 < 3 ∧ (od a b c).2.1 < 3 ∧ (od a b c).2.2 < 3 := by
  unfold od
  repeat' split
  all_goals decide
/-- The order is one of six, and the numbers descend. -/
theorem od_cases (a b c : Int) : (od a b c = (0, 1, 2) ∧ b ≤ a ∧ c ≤ b) ∨ (od a b c = (0, 2, 1) ∧ b ≤ a ∧ b < c ∧ c ≤ a) ∨ (od a b c = (2, 0, 1) ∧ b ≤ a ∧ b < c ∧ a < c) ∨ (od a b c = (1, 0, 2) ∧ a < b ∧ c ≤ a) ∨ (od a b c = (1, 2, 0) ∧ a < b ∧ a < c ∧ c ≤ b) ∨ (od a b c = (2, 1, 0) ∧ a < b ∧ a < c ∧ b < c) := by
  unfold od
  repeat' split
  all_goals simp
  all_goals omega
/-- A sorted triple. -/
def isSt (a b c : Int) : Bool := isTr a b c && (decide (b ≤ a) && decide (c ≤ b))
theorem isSt_parts {a b c : Int} (h : isSt a b c = true) : isTr a b c = true ∧ 1 ≤ a ∧ a ≤ 1000000 ∧ 0 ≤ b ∧ b ≤ a ∧ 0 ≤ c ∧ c ≤ b := by
  simp only [isSt, Bool.and_eq_true, decide_eq_true_eq] at h
  obtain ⟨h1, h2, h3⟩ := h
  obtain ⟨p, q, r, n⟩ := isTr_parts h1
  refine ⟨h1, ?_⟩
  omega
theorem isSt_of {a b c : Int} (h1 : 1 ≤ a) (h2 : a ≤ 1000000) (h3 : b ≤ a) (h4 : c ≤ b) (h5 : 0 ≤ c) : isSt a b c = true := by
  simp only [isSt, Bool.and_eq_true, decide_eq_true_eq]
  exact ⟨isTr_of ⟨by omega, by omega, by omega, by omega⟩, h3, h4⟩
theorem st3_le (a b c : Int) : (st3 a b c).2.1 ≤ (st3 a b c).1 ∧ (st3 a b c).2.2 ≤ (st3 a b c).2.1 := by
  unfold st3
  rcases od_cases a b c with ⟨e, h⟩ | ⟨e, h⟩ | ⟨e, h⟩ | ⟨e, h⟩ | ⟨e, h⟩ | ⟨e, h⟩ <;> rw [e] <;> simp [at3, pk] <;> omega
theorem st3_same {a b c : Int} (h1 : b ≤ a) (h2 : c ≤ b) : od a b c = (0, 1, 2) := by
  unfold od
  rw [if_neg (by omega), if_neg (by omega)]
/-- Three numbers, compared by ==. -/
theorem eq_arr3 (d : Nat) (a b c x y z : Int) (w : World) : (Op.equalIn (d + 2) 25 (.agg #[.int .i64 a, .int .i64 b, .int .i64 c]) (.agg #[.int .i64 x, .int .i64 y, .int .i64 z])).run Try.prog w = .ok ((a == x && b == y) && c == z) w := by
  have hs : ∀ w : World, (sizeOf 2).run Try.prog w = .ok 1 w := fun _ => by kernel_rfl
  have p0 : ∀ (a b c : Value) (w : World), (part 2 #[a, b, c] 0).run Try.prog w = .ok a w := fun _ _ _ _ => by kernel_rfl
  have p1 : ∀ (a b c : Value) (w : World), (part 2 #[a, b, c] 1).run Try.prog w = .ok b w := fun _ _ _ _ => by kernel_rfl
  have p2 : ∀ (a b c : Value) (w : World), (part 2 #[a, b, c] 2).run Try.prog w = .ok c w := fun _ _ _ _ => by kernel_rfl
  have e1 : ∀ (a b : Int) (w : World), (Op.equalIn (d + 1) 2 (.int .i64 a) (.int .i64 b)).run Try.prog w = .ok (a == b) w := fun a b w => run_equalIn_int w d 2 .i64 .i64 a b Try.underlying2
  rw [show d + 2 = (d + 1) + 1 from rfl]
  rw [Op.equalIn]
  simp only [Sem.run_bind, run_underlying Try.underlying25, Result.andThen_ok, hs, Std.Legacy.Range.forIn_eq_forIn_range', Std.Legacy.Range.size]
  simp only [show List.range' 0 3 = [0, 1, 2] from rfl, List.forIn_cons, List.forIn_nil, Nat.zero_mul, Nat.one_mul, Sem.run_bind, p0, p1, p2, e1, Result.andThen_ok]
  cases h0 : (a == x) <;> cases h1 : (b == y) <;> cases h2 : (c == z) <;> simp [go_sem, p0, p1, p2, e1, h0, h1, h2]
theorem eq_tr (a b c x y z : Int) (w : World) : (Op.equalIn 10000 25 (.agg #[.int .i64 a, .int .i64 b, .int .i64 c]) (.agg #[.int .i64 x, .int .i64 y, .int .i64 z])).run Try.prog w = .ok ((a == x && b == y) && c == z) w := eq_arr3 9998 a b c x y z w
theorem l01In_yes (n l h : Int) (w : World) (h1 : l ≤ n) (h2 : n ≤ h) : Calls Try.prog 13 #[.int .i64 n, .int .i64 l, .int .i64 h] w fun e w' => e = .returned (.bool true) ∧ w = w' := by
  go_enter Try.func13, Try.ntmps13
  go_wp2
  go_ret
  exact ⟨by simp [h2], rfl⟩
theorem l01In_no (n l h : Int) (w : World) (hn : ¬ (l ≤ n ∧ n ≤ h)) : Calls Try.prog 13 #[.int .i64 n, .int .i64 l, .int .i64 h] w fun e w' => e = .returned (.bool false) ∧ w = w' := by
  by_cases h1 : l ≤ n
  · have h2 : ¬ n ≤ h := by omega
    clear hn
    go_enter Try.func13, Try.ntmps13
    go_wp2
    go_ret
    exact ⟨by simp [h2], rfl⟩
  · have hd : decide (l ≤ n) = false := by simpa using h1
    clear hn
    go_enter Try.func13, Try.ntmps13
    go_wp2
    go_ret
    exact ⟨by simp [hd], rfl⟩
theorem l01In_any (n l h : Int) (w : World) : Calls Try.prog 13 #[.int .i64 n, .int .i64 l, .int .i64 h] w fun e w' => e = .returned (.bool (inB n l h)) ∧ w = w' := by
  cases hb : inB n l h
  · exact l01In_no n l h w (inB_not.1 hb)
  · exact l01In_yes n l h w (inB_iff.1 hb).1 (inB_iff.1 hb).2
theorem toTriple_any (a b c : Int) (w : World) : Calls Try.prog 7 #[.agg #[.int .i64 a, .int .i64 b, .int .i64 c]] w fun e w' => e = .returned (.agg #[.int .i64 a, .int .i64 b, .int .i64 c]) ∧ Below w.heap.size w w' := by
  have hs20 : w.heap.size < w.heap.size + 1 + 1 := (by omega); have hs30 : w.heap.size < w.heap.size + 1 + 1 + 1 := (by omega); have hs31 : w.heap.size + 1 < w.heap.size + 1 + 1 + 1 := (by omega)
  go_enter Try.func7, Try.ntmps7
  go_wp2
  refine wp_loop_rounds 4 ?_
  rw [rounds_succ]
  go_wp2
  rw [rounds_succ]
  go_wp2
  rw [rounds_succ]
  go_wp2
  rw [rounds_succ]
  go_wp2
  refine bodyPost_ret (v := .agg #[.int .i64 a, .int .i64 b, .int .i64 c]) (by simp (maxDischargeDepth := 8) [results, Try.results7, go_sem, *]) rfl ?_
  exact ⟨rfl, by (repeat' (first | (with_reducible exact Below.refl _ _) | (with_reducible refine Below.alloc ?_ ?_ _) | (with_reducible refine Below.setCell ?_ ?_ _) | (with_reducible refine Below.drew ?_) | (with_reducible refine below_drewN ?_ _) | (with_reducible assumption) | (with_reducible refine below_after (by with_reducible assumption) ?_) | go_size))⟩
theorem eqTriple_same (a b c : Int) (w : World) : Calls Try.prog 9 #[.agg #[.int .i64 a, .int .i64 b, .int .i64 c], .agg #[.int .i64 a, .int .i64 b, .int .i64 c]] w fun e w' => e = .returned (.bool true) ∧ Below w.heap.size w w' := by
  have hs20 : w.heap.size < w.heap.size + 1 + 1 := (by omega)
  go_enter Try.func9, Try.ntmps9
  go_wp2
  refine wp_loop_rounds 4 ?_
  rw [rounds_succ]
  go_wp2
  go_quiet (fail)
  go_wp2
  rw [rounds_succ]
  go_wp2
  go_quiet (fail)
  go_wp2
  rw [rounds_succ]
  go_wp2
  go_quiet (fail)
  go_wp2
  rw [rounds_succ]
  go_wp2
  go_ret
  exact ⟨rfl, by (repeat' (first | (with_reducible exact Below.refl _ _) | (with_reducible refine Below.alloc ?_ ?_ _) | (with_reducible refine Below.setCell ?_ ?_ _) | (with_reducible refine Below.drew ?_) | (with_reducible refine below_drewN ?_ _) | (with_reducible assumption) | (with_reducible refine below_after (by with_reducible assumption) ?_) | go_size))⟩
theorem l07Is_any (a b c : Int) (w : World) : Calls Try.prog 12 #[.agg #[.int .i64 a, .int .i64 b, .int .i64 c]] w fun e w' => e = .returned (.bool (isTr a b c)) ∧ Below w.heap.size w w' := by
  have heq := eq_tr a b c 0 0 0
  unfold isTr
  cases ha : wh a
  · have HA : Hid (∀ w, Calls Try.prog 13 #[.int .i64 a, .int .i64 0, .int .i64 1000000] w fun e w' => e = .returned (.bool false) ∧ w = w') := fun w => by have := l01In_any a 0 1000000 w; rwa [show inB a 0 1000000 = false from ha] at this
    clear ha
    go_enter Try.func12, Try.ntmps12
    go_wp2
    refine wp_loop_rounds 4 ?_
    rw [rounds_succ]
    go_wp2_with (go_at_call 13; refine (HA.out _).mono ?_; rintro e wn ⟨rfl, rfl⟩)
    go_ret
    exact ⟨rfl, by (repeat' (first | (with_reducible exact Below.refl _ _) | (with_reducible refine Below.alloc ?_ ?_ _) | (with_reducible refine Below.setCell ?_ ?_ _) | (with_reducible refine Below.drew ?_) | (with_reducible refine below_drewN ?_ _) | (with_reducible assumption) | (with_reducible refine below_after (by with_reducible assumption) ?_) | go_size))⟩
  · have HA : Hid (∀ w, Calls Try.prog 13 #[.int .i64 a, .int .i64 0, .int .i64 1000000] w fun e w' => e = .returned (.bool true) ∧ w = w') := fun w => by have := l01In_any a 0 1000000 w; rwa [show inB a 0 1000000 = true from ha] at this
    clear ha
    cases hb : wh b
    · have HB : Hid (∀ w, Calls Try.prog 13 #[.int .i64 b, .int .i64 0, .int .i64 1000000] w fun e w' => e = .returned (.bool false) ∧ w = w') := fun w => by have := l01In_any b 0 1000000 w; rwa [show inB b 0 1000000 = false from hb] at this
      clear hb
      go_enter Try.func12, Try.ntmps12
      go_wp2
      refine wp_loop_rounds 4 ?_
      rw [rounds_succ]
      go_wp2_with (go_at_call 13; refine (HA.out _).mono ?_; rintro e wn ⟨rfl, rfl⟩)
      rw [rounds_succ]
      go_wp2_with (go_at_call 13; refine (HB.out _).mono ?_; rintro e wn ⟨rfl, rfl⟩)
      go_ret
      exact ⟨rfl, by (repeat' (first | (with_reducible exact Below.refl _ _) | (with_reducible refine Below.alloc ?_ ?_ _) | (with_reducible refine Below.setCell ?_ ?_ _) | (with_reducible refine Below.drew ?_) | (with_reducible refine below_drewN ?_ _) | (with_reducible assumption) | (with_reducible refine below_after (by with_reducible assumption) ?_) | go_size))⟩
    · have HB : Hid (∀ w, Calls Try.prog 13 #[.int .i64 b, .int .i64 0, .int .i64 1000000] w fun e w' => e = .returned (.bool true) ∧ w = w') := fun w => by have := l01In_any b 0 1000000 w; rwa [show inB b 0 1000000 = true from hb] at this
      clear hb
      cases hc : wh c
      · have HC : Hid (∀ w, Calls Try.prog 13 #[.int .i64 c, .int .i64 0, .int .i64 1000000] w fun e w' => e = .returned (.bool false) ∧ w = w') := fun w => by have := l01In_any c 0 1000000 w; rwa [show inB c 0 1000000 = false from hc] at this
        clear hc
        go_enter Try.func12, Try.ntmps12
        go_wp2
        refine wp_loop_rounds 4 ?_
        rw [rounds_succ]
        go_wp2_with (go_at_call 13; refine (HA.out _).mono ?_; rintro e wn ⟨rfl, rfl⟩)
        rw [rounds_succ]
        go_wp2_with (go_at_call 13; refine (HB.out _).mono ?_; rintro e wn ⟨rfl, rfl⟩)
        rw [rounds_succ]
        go_wp2_with (go_at_call 13; refine (HC.out _).mono ?_; rintro e wn ⟨rfl, rfl⟩)
        go_ret
        exact ⟨rfl, by (repeat' (first | (with_reducible exact Below.refl _ _) | (with_reducible refine Below.alloc ?_ ?_ _) | (with_reducible refine Below.setCell ?_ ?_ _) | (with_reducible refine Below.drew ?_) | (with_reducible refine below_drewN ?_ _) | (with_reducible assumption) | (with_reducible refine below_after (by with_reducible assumption) ?_) | go_size))⟩
      · have HC : Hid (∀ w, Calls Try.prog 13 #[.int .i64 c, .int .i64 0, .int .i64 1000000] w fun e w' => e = .returned (.bool true) ∧ w = w') := fun w => by have := l01In_any c 0 1000000 w; rwa [show inB c 0 1000000 = true from hc] at this
        clear hc
        generalize ((a == 0 && b == 0) && c == 0) = z at *
        go_enter Try.func12, Try.ntmps12
        go_wp2
        refine wp_loop_rounds 4 ?_
        rw [rounds_succ]
        go_wp2_with (go_at_call 13; refine (HA.out _).mono ?_; rintro e wn ⟨rfl, rfl⟩)
        rw [rounds_succ]
        go_wp2_with (go_at_call 13; refine (HB.out _).mono ?_; rintro e wn ⟨rfl, rfl⟩)
        rw [rounds_succ]
        go_wp2_with (go_at_call 13; refine (HC.out _).mono ?_; rintro e wn ⟨rfl, rfl⟩)
        rw [rounds_succ]
        go_wp2
        go_ret
        exact ⟨rfl, by (repeat' (first | (with_reducible exact Below.refl _ _) | (with_reducible refine Below.alloc ?_ ?_ _) | (with_reducible refine Below.setCell ?_ ?_ _) | (with_reducible refine Below.drew ?_) | (with_reducible refine below_drewN ?_ _) | (with_reducible assumption) | (with_reducible refine below_after (by with_reducible assumption) ?_) | go_size))⟩
theorem areWhole_three (a b c : Int) (g o cap : Nat) (w : World) (c0 : w.cell? ⟨g, o, none⟩ = some (.int .i64 a)) (c1 : w.cell? ⟨g, o + 1, none⟩ = some (.int .i64 b)) (c2 : w.cell? ⟨g, o + 2, none⟩ = some (.int .i64 c)) (hg : g < w.heap.size) :
    Calls Try.prog 20 #[.slice (some ⟨g, o, none⟩) 3 cap] w fun e w' => e = .returned (.bool (wh a && wh b && wh c)) ∧ w = w' := by
  have w1 : ∀ n : Int, wh n = (!(decide (n < 0)) && !(decide (1000000 < n))) := fun n => by
    unfold wh inB
    by_cases h1 : n < 0 <;> by_cases h2 : 1000000 < n <;> simp [h1, h2] <;> omega
  rw [w1 a, w1 b, w1 c]
  clear w1
  cases a0 : decide (a < 0) <;> cases a1 : decide (1000000 < a)
  case false.false =>
    cases b0 : decide (b < 0) <;> cases b1 : decide (1000000 < b)
    case false.false =>
      cases e0 : decide (c < 0) <;> cases e1 : decide (1000000 < c)
      all_goals
        go_enter Try.func20, Try.ntmps20
        go_wp2
        refine wp_loop_rounds 4 ?_
        rw [rounds_succ]
        go_wp2
        rw [rounds_succ]
        go_wp2
        rw [rounds_succ]
        go_wp2
        try (rw [rounds_succ]; go_wp2)
        go_ret
        exact ⟨rfl, rfl⟩
    all_goals
      go_enter Try.func20, Try.ntmps20
      go_wp2
      refine wp_loop_rounds 4 ?_
      rw [rounds_succ]
      go_wp2
      rw [rounds_succ]
      go_wp2
      go_ret
      exact ⟨rfl, rfl⟩
  all_goals
    go_enter Try.func20, Try.ntmps20
    go_wp2
    refine wp_loop_rounds 4 ?_
    rw [rounds_succ]
    go_wp2
    go_ret
    exact ⟨rfl, rfl⟩
end Go.Proofs.Ythckbobbnkhnpaa
