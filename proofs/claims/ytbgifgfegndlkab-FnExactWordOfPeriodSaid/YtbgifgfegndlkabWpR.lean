/-
  Whether numbers are the runs of a word (own work).
-/
import Derived.Test.YtbgifgfegndlkabWpM
namespace Go.Proofs.Ytbgifgfegndlkab
open Go.ChangeShapes Go.WideShapes Go.ChangeAt Go.RowKit
set_option linter.unusedVariables false
set_option linter.unusedSimpArgs false
set_option maxRecDepth 100000

set_option maxHeartbeats 1600000 in
theorem areRuns_any (a : Option Addr) (cap : Nat) (xs : List Int) (w : World) (hs : SrcO w a xs) (hlen : xs.length ≤ 1048576) : Calls Try.prog 9 #[.slice a xs.length cap] w fun e w' => e = .returned (.bool (rOk 200 xs)) ∧ w = w' := by
  have HS := Lib.hid hs
  obtain ⟨n, hn⟩ : ∃ n, xs.length = n := ⟨_, rfl⟩
  have HN := Lib.hid hn
  rw [hn] at hlen ⊢
  clear hs hn
  go_enter Try.func9, Try.ntmps9
  go_wp2_with fail
  go_loop [3, 8] (fun l i => ∃ (j : Nat) (L : Int), l = .int .i64 L ∧ i = .int .i64 (j : Int) ∧ j ≤ n ∧ 0 ≤ L ∧ L ≤ 200 ∧ rOk L (xs.drop j) = rOk 200 xs) (fun _ i => n - (intOf i).toNat)
  case atStart => exact ⟨0, 200, rfl, rfl, by omega, by decide, by decide, rfl⟩
  case round =>
    obtain ⟨j, L, rfl, rfl, hj, hL0, hL1, hr⟩ := hrel
    have HR := Lib.hid hr
    clear hr
    by_cases hjl : j < n
    · have hlt : decide ((j : Int) < (n : Int)) = true := by simp; omega
      have hnn := HN.out
      obtain ⟨g, rfl, hg, hc⟩ := HS.out (by omega)
      have e0 := hc j (by omega)
      have hd := drop_getD xs j (by omega)
      have p1 : (0 : Int) ≤ (j : Int) := by omega
      have p2 : (j : Int) < (n : Int) := by omega
      obtain ⟨N, hN⟩ : ∃ N, xs.getD j 0 = N := ⟨_, rfl⟩
      rw [hN] at e0 hd
      have HD := Lib.hid hd
      clear hc hd hN hnn
      by_cases h1 : N < 1
      · have hd1 : decide (N < 1) = true := by simpa using h1
        have HF : Hid (rOk 200 xs = false) := by
          show _ = _
          rw [← HR.out, HD.out, rOk_low h1]
        go_wp2_with fail
        go_ret
        exact ⟨by rw [HF.out]; rfl, rfl⟩
      · have hd1 : decide (N < 1) = false := by simpa using h1
        by_cases h2 : L < N
        · have hd2 : decide (L < N) = true := by simpa using h2
          have HF : Hid (rOk 200 xs = false) := by
            show _ = _
            rw [← HR.out, HD.out, rOk_high h2]
          go_wp2_with fail
          go_ret
          exact ⟨by rw [HF.out]; rfl, rfl⟩
        · have hd2 : decide (L < N) = false := by simpa using h2
          have hw1 : IntKind.i64.wrap (L - N) = L - N := by rw [IntKind.wrap_i64]; omega
          have hw2 : IntKind.i64.wrap ((j : Int) + 1) = (j : Int) + 1 := by rw [IntKind.wrap_i64]; omega
          have HR2 : Hid (rOk (L - N) (xs.drop (j + 1)) = rOk 200 xs) := by
            show _ = _
            rw [← HR.out, HD.out, rOk_go (by omega) (by omega)]
          go_wp2_with fail
          go_round
          case rel => exact ⟨j + 1, L - N, rfl, rfl, by omega, by omega, by omega, HR2.out⟩
          case measure => simp only [intOf]; omega
    · have hlt : decide ((j : Int) < (n : Int)) = false := by simp; omega
      have HF : Hid (rOk 200 xs = true) := by
        show _ = _
        rw [← HR.out, List.drop_eq_nil_of_le (by have := HN.out; omega)]; rfl
      go_wp2_with fail
      go_ret
      exact ⟨by rw [HF.out]; rfl, rfl⟩
end Go.Proofs.Ytbgifgfegndlkab
