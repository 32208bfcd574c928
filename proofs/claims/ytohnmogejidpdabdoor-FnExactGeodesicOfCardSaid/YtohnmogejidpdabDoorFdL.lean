/-
  Levels of fractions: along the expansion in the program, down the tree in the model (own work).
-/
import Derived.Test.YtohnmogejidpdabDoorFdM
import Derived.Test.YtohnmogejidpdabDoorMark
import Derived.Test.YtohnmogejidpdabDoorBlk
namespace Go.Proofs.YtohnmogejidpdabDoor
open Go.ChangeShapes Go.WideShapes Go.ChangeAt Go.RowKit
set_option linter.unusedVariables false
set_option maxRecDepth 100000
set_option linter.unusedSimpArgs false
set_option maxRecDepth 100000

theorem run_min2 (P : Program) (w : World) (ts : Array TypeId) (t : TypeId) (x y : Int) : (Builtin.min_ ts t #[.int .i64 x, .int .i64 y]).run P w = .ok (.int .i64 (min x y)) w := by
  have e1 : ∀ a b : Int, (if b < a then b else a) = min a b := by intro a b; rw [Int.min_def]; split <;> split <;> omega
  simp [Builtin.min_, Builtin.min2, e1]
theorem dropg_step {xs : List Int} {t : Nat} (h : t < xs.length) : xs.drop t = xs.getD t 0 :: xs.drop (t + 1) := by
  rw [List.drop_eq_getElem_cons h]
  simp [List.getD, h]
set_option maxHeartbeats 800000 in
theorem expansionOf_zero (p : Int) (w : World) : Calls Tryd.prog 82 #[.int .i64 p, .int .i64 0] w (RetI w (expI p 0)) := by
  rw [expI_zero]
  go_enter Tryd.func82, Tryd.ntmps82
  go_wp2
  refine wp_loop_rounds 1 ?_
  rw [rounds_succ]
  go_wp2
  go_ret
  exact ⟨_, rfl, World.ownsRow_nil _ _ _ _, Below.refl _ _⟩
theorem expansionOf_all (p q : Int) (w : World) (hq : 0 ≤ q) (hq2 : q ≤ 1000000) (hp1 : -1000000 ≤ p) (hp2 : p ≤ 1000000) : Calls Tryd.prog 82 #[.int .i64 p, .int .i64 q] w (RetI w (expI p q)) := by
  by_cases h : q = 0
  · subst h; exact expansionOf_zero p w
  · exact expansionOf_any p q w (by omega) hq2 hp1 hp2
set_option maxHeartbeats 1600000 in
theorem levelOf_any (p q : Int) (w : World) (hq : 0 ≤ q) (hq2 : q ≤ 1000000) (hp1 : -1000000 ≤ p) (hp2 : p ≤ 1000000) :
    Calls Tryd.prog 58 #[.agg #[.int .i64 p, .int .i64 q]] w fun e w' => e = .returned (.int .i64 (lvl p q)) ∧ Below w.heap.size w w' := by
  have hmn := fun (W : World) (ts : Array TypeId) (t : TypeId) (x y : Int) => run_min2 Tryd.prog W ts t x y
  have HE := Lib.hid (fun w => expansionOf_all p q w hq hq2 hp1 hp2)
  have HL := Lib.hid (show (expI p q).length ≤ 1000001 by have := expI_len p q; omega)
  have hR : lvP (expI p q) 1 0 = lvl p q := rfl
  obtain ⟨xs, hxs⟩ : ∃ xs, expI p q = xs := ⟨_, rfl⟩
  obtain ⟨R, hRR⟩ : ∃ R, lvl p q = R := ⟨_, rfl⟩
  rw [hxs] at HE HL hR
  rw [hRR] at hR ⊢
  have HR := Lib.hid hR
  clear hxs hRR hR hq hq2 hp1 hp2
  have hs20 : w.heap.size < w.heap.size + 1 + 1 := (by omega)
  go_enter Tryd.func58, Tryd.ntmps58
  go_wp2_with fail
  go_at_call 82
  refine (HE.out _).mono ?_
  rintro e w1 ⟨v, rfl, hown, hb⟩
  obtain ⟨a, cap, rfl, f⟩ := own_view hown
  have HB1 : Hid (Below w.heap.size w w1) := below_after hb (by (repeat' (first | (with_reducible exact Below.refl _ _) | (with_reducible refine Below.alloc ?_ ?_ _) | (with_reducible refine Below.setCell ?_ ?_ _) | (with_reducible refine Below.drew ?_) | (with_reducible refine below_drewN ?_ _) | (with_reducible assumption) | (with_reducible refine below_after (by with_reducible assumption) ?_) | go_size)))
  have HF := Lib.hid f
  obtain ⟨n, hn⟩ : ∃ n, n = xs.length := ⟨_, rfl⟩
  rw [← hn]
  have HN := Lib.hid hn
  have hn2 : n ≤ 1000001 := by rw [hn]; exact HL.out
  clear hown hb f hn
  go_wp2_with fail
  go_loopw [3, 4, 14] (fun b l i wr => ∃ (k : Nat) (B L : Int), k ≤ n ∧ b = .int .i64 B ∧ l = .int .i64 L ∧ i = .int .i64 k ∧ 0 ≤ B ∧ B ≤ k + 1 ∧ 0 ≤ L ∧ L ≤ k + 1 ∧ lvP (xs.drop k) B L = R ∧ wr = w1) (fun _ _ i _ => n - (intOf i).toNat)
  case atStart => exact ⟨0, 1, 0, by omega, rfl, rfl, rfl, by omega, by omega, by omega, by omega, HR.out, rfl⟩
  case round =>
    obtain ⟨k, B, L, hk, rfl, rfl, rfl, b0, b1, l0, l1, hv, rfl⟩ := hrel
    have HV := Lib.hid hv
    clear hv
    by_cases hlt : k < n
    · have hk' : k < xs.length := by rw [← HN.out]; exact hlt
      obtain ⟨g, rfl, _, hg, hc, _⟩ := HF.out (by omega)
      have e1 := hc k hk'
      have HS := Lib.hid (dropg_step hk')
      obtain ⟨x, hx0⟩ : ∃ x, xs.getD k 0 = x := ⟨_, rfl⟩
      rw [hx0] at e1 HS
      have i0 : (0 : Int) ≤ (k : Int) := by omega
      have i1 : (k : Int) < (n : Int) := by omega
      clear hx0 hc hk'
      have w1 : IntKind.i64.wrap (L + 1) = L + 1 := by rw [IntKind.wrap_i64]; omega
      have w2 : IntKind.i64.wrap (min B L + 1) = min B L + 1 := by rw [IntKind.wrap_i64]; omega
      cases h1 : (x == 1)
      · go_wp2
        go_roundw
        case rel =>
          refine ⟨k + 1, L, L + 1, by omega, rfl, rfl, by go_num, by omega, by omega, by omega, by omega, ?_, trivial⟩
          have := HV.out
          rw [HS.out, lvP, if_neg (by simpa using h1)] at this
          exact this
        case measure => simp [intOf]; omega
      · go_wp2
        go_roundw
        case rel =>
          refine ⟨k + 1, L, min B L + 1, by omega, rfl, rfl, by go_num, by omega, by omega, by omega, by omega, ?_, trivial⟩
          have := HV.out
          rw [HS.out, lvP, if_pos (by simpa using h1)] at this
          exact this
        case measure => simp [intOf]; omega
    · have hge : n ≤ k := by omega
      clear hlt
      go_wp2
      go_ret
      refine ⟨?_, HB1.out⟩
      have := HV.out
      rw [List.drop_of_length_le (by rw [← HN.out]; exact hge), lvP] at this
      rw [this]
      rfl
end Go.Proofs.YtohnmogejidpdabDoor
