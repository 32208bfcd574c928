/-
  WordOfPeriod in the model (own work).
-/
import Derived.Test.YtbgifgfegndlkabWpR
import Derived.Deep.Cut
namespace Go.Proofs.Ytbgifgfegndlkab
open Go.ChangeShapes Go.WideShapes Go.ChangeAt Go.RowKit
set_option linter.unusedVariables false
set_option linter.unusedSimpArgs false
set_option maxRecDepth 100000

theorem in_any (n b : Int) (w : World) : Calls Try.prog 8 #[.int .i64 n, .int .i64 1, .int .i64 b] w fun e w' => e = .returned (.bool (decide (1 ≤ n) && decide (n ≤ b))) ∧ w = w' := by
  by_cases h1 : 1 ≤ n
  · by_cases h2 : n ≤ b
    · go_enter Try.func8, Try.ntmps8
      go_wp2
      go_ret
      exact ⟨by simp [h1, h2], rfl⟩
    · go_enter Try.func8, Try.ntmps8
      go_wp2
      go_ret
      exact ⟨by simp [h1, h2], rfl⟩
  · have hd : decide (1 ≤ n) = false := by simpa using h1
    go_enter Try.func8, Try.ntmps8
    go_wp2
    go_ret
    exact ⟨by simp [h1], rfl⟩
theorem wpL_step (j : Nat) (N : Int) (t : List Int) : wpL j (N :: t) = List.replicate N.toNat (if j % 2 = 0 then 82 else 76) ++ wpL (j + 1) t := rfl
set_option maxHeartbeats 6400000 in
theorem spec_WordOfPeriod_any (a : Option Addr) (cap : Nat) (xs : List Int) (w : World) (hs : SrcO w a xs) (hlen : xs.length ≤ 1048576) : Calls Try.prog 4 #[.slice a xs.length cap] w fun e w' => e = .returned (.tuple #[.string ⟨(wpW xs).toArray⟩, .int .i64 (wpC xs)]) ∧ Below w.heap.size w w' := by
  have HS := Lib.hid hs
  have HOK : Hid (wpOk xs = (decide (xs.length ≠ 0) && decide (xs.length % 2 = 0) && rOk 200 xs)) := rfl
  have HNO := Lib.hid (@wp_no xs)
  have HYES := Lib.hid (@wp_yes xs)
  obtain ⟨n, hn⟩ : ∃ n, xs.length = n := ⟨_, rfl⟩
  have HN := Lib.hid hn
  rw [hn] at hlen HOK ⊢
  clear hs hn
  by_cases h2 : n < 2
  · have hd : decide ((n : Int) < 2) = true := by simp; omega
    have hb : wpOk xs = false := by
      rw [HOK.out]
      rcases Nat.lt_or_ge 0 n with h | h
      · rw [show decide (n % 2 = 0) = false from by simp; omega]; simp
      · rw [show decide (n ≠ 0) = false from by simp; omega]; rfl
    rw [(HNO.out hb).1, (HNO.out hb).2]
    clear hb
    go_enter Try.func4, Try.ntmps4
    go_wp2_with fail
    go_ret2
    exact ⟨rfl, Below.refl _ _⟩
  · have hd : decide ((n : Int) < 2) = false := by simp; omega
    by_cases h1 : n % 2 = 1
    · have hb : wpOk xs = false := by
        rw [HOK.out, show decide (n % 2 = 0) = false from by simp; omega]; simp
      rw [(HNO.out hb).1, (HNO.out hb).2]
      have htm : (n : Int).tmod 2 = 1 := by rw [Int.tmod_eq_emod_of_nonneg (by omega)]; omega
      clear hb
      go_enter Try.func4, Try.ntmps4
      go_wp2_with fail
      go_ret2
      exact ⟨rfl, Below.refl _ _⟩
    · have htm : (n : Int).tmod 2 = 0 := by rw [Int.tmod_eq_emod_of_nonneg (by omega)]; omega
      have HB0 : Hid (wpOk xs = rOk 200 xs) := by
        show _ = _
        rw [HOK.out, show decide (n ≠ 0) = true from by simp; omega, show decide (n % 2 = 0) = true from by simp; omega]; rfl
      clear HOK h1
      go_enter Try.func4, Try.ntmps4
      go_wp2_with fail
      go_loopw [4, 5] (fun t i wr => ∃ (j : Nat) (pre : List UInt8), t = .string ⟨pre.toArray⟩ ∧ i = .int .i64 (j : Int) ∧ j ≤ n ∧ pre.length ≤ 200 ∧ rOk (200 - (pre.length : Int)) (xs.drop j) = rOk 200 xs ∧ pre ++ wpL j (xs.drop j) = wpL 0 xs ∧ Below w.heap.size w wr) (fun _ i _ => n - (intOf i).toNat)
      case atStart => exact ⟨0, [], rfl, rfl, by omega, by decide, rfl, rfl, Below.refl _ _⟩
      case round =>
        obtain ⟨j, pre, rfl, rfl, hj, hpl, hr, hw, hbel⟩ := hrel
        obtain ⟨wo, hwo⟩ : ∃ wo, wo = wr := ⟨_, rfl⟩
        subst hwo
        have HR := Lib.hid hr
        have HW := Lib.hid hw
        have HB := Lib.hid hbel
        have hsz := bytes_size pre
        clear hr hw hbel
        by_cases hjl : j < n
        · have hlt : decide ((j : Int) < (n : Int)) = true := by simp; omega
          have hnn := HN.out
          have hsw := HS.out.below HB.out
          obtain ⟨g, rfl, hg, hc⟩ := hsw (by omega)
          have e0 := hc j (by omega)
          have hdr := drop_getD xs j (by omega)
          have p1 : (0 : Int) ≤ (j : Int) := by omega
          have p2 : (j : Int) < (n : Int) := by omega
          obtain ⟨N, hN⟩ : ∃ N, xs.getD j 0 = N := ⟨_, rfl⟩
          rw [hN] at e0 hdr
          have HD := Lib.hid hdr
          have hws : IntKind.i64.wrap (200 - (pre.length : Int)) = 200 - (pre.length : Int) := by rw [IntKind.wrap_i64]; omega
          have HE0 : Hid (∀ W, Below wo.heap.size wo W → W.cell? ⟨g, j, none⟩ = some (.int .i64 N)) := fun W hW => (hW.cell (p := ⟨g, j, none⟩) hg).trans e0
          have HIN := Lib.hid (fun w => in_any N (200 - (pre.length : Int)) w)
          clear hc hdr hN hnn
          by_cases hin : 1 ≤ N ∧ N ≤ 200 - (pre.length : Int)
          · have hib : (decide (1 ≤ N) && decide (N ≤ 200 - (pre.length : Int))) = true := by simp [hin.1, hin.2]
            rw [hib] at HIN
            obtain ⟨q1, q2⟩ := hin
            have hwj : IntKind.i64.wrap ((j : Int) + 1) = (j : Int) + 1 := by rw [IntKind.wrap_i64]; omega
            have HR2 : Hid (rOk (200 - (pre.length : Int) - N) (xs.drop (j + 1)) = rOk 200 xs) := by
              show _ = _
              rw [← HR.out, HD.out, rOk_go q1 q2]
            have HW2 : Hid (pre ++ List.replicate N.toNat (if j % 2 = 0 then 82 else 76) ++ wpL (j + 1) (xs.drop (j + 1)) = wpL 0 xs) := by
              show _ = _
              rw [← HW.out, HD.out, wpL_step, List.append_assoc]
            clear hib
            rcases Nat.mod_two_eq_zero_or_one j with hp | hp
            · have htj : (j : Int).tmod 2 = 0 := by rw [Int.tmod_eq_emod_of_nonneg (by omega)]; omega
              have hif : (if j % 2 = 0 then (82 : UInt8) else 76) = 82 := if_pos (by omega)
              rw [hif] at HW2
              clear hif
              go_wp2_with (go_at_call 8; refine (HIN.out _).mono ?_; rintro e wn ⟨rfl, rfl⟩)
              go_loopw [4, 6] (fun t k wz => ∃ (m : Nat), t = .string ⟨(pre ++ List.replicate m 82).toArray⟩ ∧ k = .int .i64 (N - m) ∧ (m : Int) ≤ N ∧ Below wo.heap.size wo wz) (fun _ k _ => (intOf k).toNat)
              case atStart => exact ⟨0, by simp, by simp, by omega, Below.refl _ _⟩
              case round =>
                obtain ⟨m, rfl, rfl, hm, hbz⟩ := hrel
                have HZ := Lib.hid hbz
                clear hbz
                by_cases hmN : (m : Int) < N
                · have hgt : decide (0 < N - (m : Int)) = true := by simp; omega
                  have hw1 : IntKind.i64.wrap (N - (m : Int) - 1) = N - (m : Int) - 1 := by rw [IntKind.wrap_i64]; omega
                  have hb := HZ.out
                  have hbz := hb.size
                  have hbig : ¬ 9223372036854775807 < (pre ++ List.replicate m 82).length + 1 := by rw [List.length_append, List.length_replicate]; omega
                  have hsz2 := bytes_size (pre ++ List.replicate m 82)
                  go_wp2_with fail
                  go_roundw
                  case rel => exact ⟨m + 1, by rw [bytes_snoc, List.append_assoc, rep_snoc], by congr 1; omega, by omega, by (repeat' (first | (with_reducible exact Below.refl _ _) | (with_reducible refine Below.alloc ?_ ?_ _) | (with_reducible refine Below.setCell ?_ ?_ _) | (with_reducible refine Below.drew ?_) | (with_reducible refine below_drewN ?_ _) | (with_reducible assumption) | (with_reducible refine below_after (by with_reducible assumption) ?_) | go_size))⟩
                  case measure => simp only [intOf]; omega
                · have hgt : decide (0 < N - (m : Int)) = false := by simp; omega
                  have hmn : m = N.toNat := by omega
                  have hbw : Below w.heap.size w wr := below_after HZ.out HB.out
                  go_wp2_with fail
                  go_roundw
                  case rel => exact ⟨j + 1, pre ++ List.replicate m 82, rfl, rfl, by omega, by rw [List.length_append, List.length_replicate]; omega, by rw [List.length_append, List.length_replicate, ← HR2.out]; congr 1; omega, by rw [hmn]; exact HW2.out, hbw⟩
                  case measure => simp only [intOf]; omega
            · have htj : (j : Int).tmod 2 = 1 := by rw [Int.tmod_eq_emod_of_nonneg (by omega)]; omega
              have hif : (if j % 2 = 0 then (82 : UInt8) else 76) = 76 := if_neg (by omega)
              rw [hif] at HW2
              clear hif
              go_wp2_with (go_at_call 8; refine (HIN.out _).mono ?_; rintro e wn ⟨rfl, rfl⟩)
              go_loopw [4, 6] (fun t k wz => ∃ (m : Nat), t = .string ⟨(pre ++ List.replicate m 76).toArray⟩ ∧ k = .int .i64 (N - m) ∧ (m : Int) ≤ N ∧ Below wo.heap.size wo wz) (fun _ k _ => (intOf k).toNat)
              case atStart => exact ⟨0, by simp, by simp, by omega, Below.refl _ _⟩
              case round =>
                obtain ⟨m, rfl, rfl, hm, hbz⟩ := hrel
                have HZ := Lib.hid hbz
                clear hbz
                by_cases hmN : (m : Int) < N
                · have hgt : decide (0 < N - (m : Int)) = true := by simp; omega
                  have hw1 : IntKind.i64.wrap (N - (m : Int) - 1) = N - (m : Int) - 1 := by rw [IntKind.wrap_i64]; omega
                  have hb := HZ.out
                  have hbz := hb.size
                  have hbig : ¬ 9223372036854775807 < (pre ++ List.replicate m 76).length + 1 := by rw [List.length_append, List.length_replicate]; omega
                  have hsz2 := bytes_size (pre ++ List.replicate m 76)
                  go_wp2_with fail
                  go_roundw
                  case rel => exact ⟨m + 1, by rw [bytes_snoc, List.append_assoc, rep_snoc], by congr 1; omega, by omega, by (repeat' (first | (with_reducible exact Below.refl _ _) | (with_reducible refine Below.alloc ?_ ?_ _) | (with_reducible refine Below.setCell ?_ ?_ _) | (with_reducible refine Below.drew ?_) | (with_reducible refine below_drewN ?_ _) | (with_reducible assumption) | (with_reducible refine below_after (by with_reducible assumption) ?_) | go_size))⟩
                  case measure => simp only [intOf]; omega
                · have hgt : decide (0 < N - (m : Int)) = false := by simp; omega
                  have hmn : m = N.toNat := by omega
                  have hbw : Below w.heap.size w wr := below_after HZ.out HB.out
                  go_wp2_with fail
                  go_roundw
                  case rel => exact ⟨j + 1, pre ++ List.replicate m 76, rfl, rfl, by omega, by rw [List.length_append, List.length_replicate]; omega, by rw [List.length_append, List.length_replicate, ← HR2.out]; congr 1; omega, by rw [hmn]; exact HW2.out, hbw⟩
                  case measure => simp only [intOf]; omega
          · have hib : (decide (1 ≤ N) && decide (N ≤ 200 - (pre.length : Int))) = false := by
              rcases Int.lt_or_le N 1 with h | h
              · rw [show decide (1 ≤ N) = false from by simp; omega]; rfl
              · rw [show decide (N ≤ 200 - (pre.length : Int)) = false from by simp; omega]; simp
            rw [hib] at HIN
            have hb : wpOk xs = false := by
              rw [HB0.out, ← HR.out, HD.out]
              rcases Int.lt_or_le N 1 with h | h
              · exact rOk_low h
              · exact rOk_high (by omega)
            have HF := Lib.hid (HNO.out hb)
            clear hib hin hb
            go_wp2_with (go_at_call 8; refine (HIN.out _).mono ?_; rintro e wn ⟨rfl, rfl⟩)
            go_ret2
            exact ⟨by rw [HF.out.1, HF.out.2]; rfl, HB.out⟩
        · have hlt : decide ((j : Int) < (n : Int)) = false := by simp; omega
          have hnil : xs.drop j = [] := List.drop_eq_nil_of_le (by have := HN.out; omega)
          have hb : wpOk xs = true := by
            rw [HB0.out, ← HR.out, hnil]; rfl
          have hpre : pre = wpL 0 xs := by
            have := HW.out
            rw [hnil] at this
            simpa [wpL] using this
          have HF := Lib.hid (HYES.out hb)
          clear hnil hb
          go_wp2_with fail
          go_ret2
          exact ⟨by rw [HF.out.1, HF.out.2, ← hpre]; rfl, HB.out⟩
end Go.Proofs.Ytbgifgfegndlkab
