/-
  Whether a text is a word, in the model and in the program (own work).
-/
import Derived.Test.YtohnmogejidpdaaDoorWdT
namespace Go.Proofs.YtohnmogejidpdaaDoor
open Go.ChangeShapes Go.WideShapes Go.ChangeAt Go.RowKit
set_option linter.unusedVariables false
set_option linter.unusedSimpArgs false
set_option maxRecDepth 100000

set_option maxHeartbeats 1600000 in
theorem l06Letters_any (l : List UInt8) (w : World) (hl : l.length ≤ 1048576) : Calls Tryd.prog 16 #[.string ⟨l.toArray⟩] w fun e w' => e = .returned (.bool (wordOk l)) ∧ w = w' := by
  have hsz := bytes_size l
  go_enter Tryd.func16, Tryd.ntmps16
  go_wp2_with fail
  go_loop [3] (fun x => ∃ i : Nat, x = .int .i64 (i : Int) ∧ i ≤ l.length ∧ okL (l.take i) = true) (fun x => l.length - (intOf x).toNat)
  case atStart => exact ⟨0, rfl, by omega, rfl⟩
  case round =>
    obtain ⟨i, rfl, hi, hok⟩ := hrel
    by_cases hil : i < l.length
    · have hlt : decide ((i : Int) < (l.length : Int)) = true := by simp; omega
      obtain ⟨b, hb⟩ : ∃ b, l[i] = b := ⟨_, rfl⟩
      have hidx := at_byte l i b hil hb
      have HI : Hid (okL (l.take i) = true ∧ i < l.length ∧ ∀ h : i < l.length, l[i] = b) := ⟨hok, hil, fun _ => hb⟩
      clear hb hok
      by_cases h76 : b = 76
      · subst h76
        have HI2 : Hid (okL (l.take (i + 1)) = true) := okL_take hil HI.out.1 (by rw [HI.out.2.2 hil]; rfl)
        go_wp2_with fail
        go_round
        case rel => exact ⟨i + 1, rfl, by omega, HI2.out⟩
        case measure => simp only [intOf]; omega
      · by_cases h82 : b = 82
        · subst h82
          have HI2 : Hid (okL (l.take (i + 1)) = true) := okL_take hil HI.out.1 (by rw [HI.out.2.2 hil]; rfl)
          go_wp2_with fail
          go_round
          case rel => exact ⟨i + 1, rfl, by omega, HI2.out⟩
          case measure => simp only [intOf]; omega
        · have HF : Hid (wordOk l = false) := by
            show _ = _
            unfold wordOk
            rw [okL_bad hil (by rw [HI.out.2.2 hil]; simp [isLt, h76, h82])]; rfl
          obtain ⟨n1, n2⟩ := byte_ne h76
          obtain ⟨n3, n4⟩ := byte_ne h82
          have e76 : ((76 : UInt8).toNat : Int) = 76 := rfl
          have e82 : ((82 : UInt8).toNat : Int) = 82 := rfl
          rw [e76] at n1 n2
          rw [e82] at n3 n4
          clear e76 e82 h76 h82
          go_wp2_with fail
          go_ret
          exact ⟨by rw [HF.out]; rfl, rfl⟩
    · have hlt : decide ((i : Int) < (l.length : Int)) = false := by simp; omega
      have hall : l.take i = l := List.take_of_length_le (by omega)
      rw [hall] at hok
      by_cases h200 : l.length ≤ 200
      · have HF : Hid (wordOk l = true) := by show _ = _; unfold wordOk; rw [hok]; simpa using h200
        have hg : decide ((l.length : Int) ≤ 200) = true := by simp; omega
        clear hok hall
        go_wp2_with fail
        go_ret
        exact ⟨by rw [HF.out]; first | rfl | simp [hg] | simp [h200], rfl⟩
      · have HF : Hid (wordOk l = false) := by show _ = _; unfold wordOk; rw [hok]; simpa using h200
        have hg : decide ((l.length : Int) ≤ 200) = false := by simp; omega
        clear hok hall
        go_wp2_with fail
        go_ret
        exact ⟨by rw [HF.out]; first | rfl | simp [hg] | (simp; omega), rfl⟩
set_option maxHeartbeats 1600000 in
theorem areTurnLetters_any (l : List UInt8) (w : World) (hl : l.length ≤ 1048576) : Calls Tryd.prog 31 #[.string ⟨l.toArray⟩, .int .i64 200] w fun e w' => e = .returned (.bool (wordOk l)) ∧ Below w.heap.size w w' := by
  have hsz := bytes_size l
  by_cases h200 : l.length ≤ 200
  · have hg : decide ((l.length : Int) ≤ 200) = true := by simp; omega
    have HT := Lib.hid (fun w => trim_any l w hl)
    have htr := trim_ok l
    obtain ⟨T, hT⟩ : ∃ T, Lib.trimS l [76, 82] = T := ⟨_, rfl⟩
    rw [hT] at HT htr
    clear hT
    cases hok : okL l
    · rw [show wordOk l = false from by unfold wordOk; rw [hok]; rfl]
      have hTn : ¬ T = [] := fun h => by rw [htr.1 h] at hok; exact absurd hok (by decide)
      have hTb : T.isEmpty = false := by
        cases T with
        | nil => exact absurd rfl hTn
        | cons _ _ => rfl
      clear htr hok
      go_enter Tryd.func31, Tryd.ntmps31
      go_wp2_with fail
      go_at_call 40
      refine (HT.out _).mono ?_
      rintro e w1 ⟨rfl, hb⟩
      go_wp2_with fail
      go_ret
      exact ⟨by first | rfl | simp [hTb] | simp [hTn], hb⟩
    · obtain rfl := htr.2 hok
      rw [show wordOk l = true from by unfold wordOk; rw [hok]; simpa using h200]
      clear htr hok
      go_enter Tryd.func31, Tryd.ntmps31
      go_wp2_with fail
      go_at_call 40
      refine (HT.out _).mono ?_
      rintro e w1 ⟨rfl, hb⟩
      go_wp2_with fail
      go_ret
      exact ⟨by first | rfl | simp, hb⟩
  · have hg : decide ((l.length : Int) ≤ 200) = false := by simp; omega
    rw [show wordOk l = false from by unfold wordOk; rw [show decide (l.length ≤ 200) = false from by simpa using h200, Bool.and_false]]
    go_enter Tryd.func31, Tryd.ntmps31
    go_wp2_with fail
    go_ret
    exact ⟨rfl, Below.refl _ _⟩
theorem isWord_any (l : List UInt8) (w : World) (hl : l.length ≤ 1048576) : Calls Tryd.prog 18 #[.string ⟨l.toArray⟩] w fun e w' => e = .returned (.bool (wordOk l)) ∧ Below w.heap.size w w' := by
  have H := Lib.hid (fun w => areTurnLetters_any l w hl)
  go_enter Tryd.func18, Tryd.ntmps18
  go_wp2_with fail
  go_at_call 31
  refine (H.out _).mono ?_
  rintro e w1 ⟨rfl, hb⟩
  go_wp2_with fail
  go_ret
  exact ⟨rfl, hb⟩
end Go.Proofs.YtohnmogejidpdaaDoor
