/-
  Turns of words (own work).
-/
import Derived.Test.YtohnmogejidpdaaDoorWdW
import Derived.Lib.IndexMore
namespace Go.Proofs.YtohnmogejidpdaaDoor
open Go.ChangeShapes Go.WideShapes Go.ChangeAt Go.RowKit
set_option linter.unusedVariables false
set_option linter.unusedSimpArgs false
set_option maxRecDepth 100000

/-- A list turned by a number of places. -/
def rotB (v : List UInt8) (k : Nat) : List UInt8 := v.drop k ++ v.take k
/-- Whether two words are turns of each other. -/
def tB (v w : List UInt8) : Bool := (v == w) || ((v.length == w.length) && (List.range v.length).any (fun k => rotB v k == w))
theorem tB_same (v : List UInt8) : tB v v = true := by simp [tB]
theorem tB_hit {v w : List UInt8} {k : Nat} (h1 : v.length = w.length) (h2 : k < v.length) (h3 : rotB v k = w) : tB v w = true := by
  unfold tB
  rw [Bool.or_eq_true, Bool.and_eq_true, List.any_eq_true]
  right
  exact ⟨by simpa using h1, k, by simpa using h2, by simpa using h3⟩
theorem tB_none {v w : List UInt8} (hne : v ≠ w) (h : ∀ k, k < v.length → rotB v k ≠ w) : tB v w = false := by
  cases ht : tB v w
  · rfl
  · unfold tB at ht
    rw [Bool.or_eq_true, Bool.and_eq_true, List.any_eq_true] at ht
    rcases ht with ht | ⟨_, k, hk, hw⟩
    · exact absurd (by simpa using ht) hne
    · exact absurd (by simpa using hw) (h k (by simpa using hk))
theorem tB_far {v w : List UInt8} (h : v.length ≠ w.length) : tB v w = false := by
  unfold tB
  have h1 : (v == w) = false := by
    cases hq : v == w
    · rfl
    · exact absurd (by rw [show v = w from by simpa using hq]) h
  have h2 : (v.length == w.length) = false := by simpa using h
  rw [h1, h2]; rfl
theorem rot_of_occ {v w : List UInt8} {i : Nat} (hl : v.length = w.length) (hi : i ≤ v.length) : ((v ++ v).drop i).take w.length = rotB v i := by
  unfold rotB
  rw [List.drop_append_of_le_length hi, List.take_append, List.length_drop, List.take_of_length_le (by rw [List.length_drop]; omega), ← hl, show v.length - (v.length - i) = i from by omega]
/-- The text with itself behind it holds just the turns. -/
theorem contains_turns {v w : List UInt8} (hl : v.length = w.length) : Lib.contains (v ++ v) w = tB v w := by
  unfold Lib.contains
  rcases Lib.index_spec (v ++ v) w with ⟨e, hno⟩ | ⟨i, e, hi, ho, _⟩
  · rw [e]
    have hr : ∀ k, k ≤ v.length → rotB v k ≠ w := fun k hk hw => by
      have h1 := hno k (by rw [List.length_append]; omega)
      rw [Lib.occAt_iff_take _ _ _ (by rw [List.length_append]; omega), rot_of_occ hl hk, hw] at h1
      simp at h1
    rw [tB_none (fun h => hr 0 (by omega) (by simpa [rotB] using h)) (fun k hk => hr k (by omega))]
    rfl
  · rw [e]
    have hroom : i + w.length ≤ (v ++ v).length ∨ w = [] := Lib.occAt_room ho
    have ht : tB v w = true := by
      rcases hroom with hr | hr
      · rw [List.length_append] at hr
        have hiv : i ≤ v.length := by omega
        rw [Lib.occAt_iff_take _ _ _ (by rw [List.length_append]; omega), rot_of_occ hl hiv] at ho
        have hw : rotB v i = w := by simpa using ho
        by_cases hlt : i < v.length
        · exact tB_hit hl hlt hw
        · have : i = v.length := by omega
          have hvw : v = w := by rw [← hw, this]; simp [rotB]
          rw [hvw]; exact tB_same w
      · have hv : v = [] := List.length_eq_zero_iff.1 (by rw [hl, hr]; rfl)
        rw [hv, hr]; exact tB_same []
    rw [ht]
    simp
theorem ext_drop (v : List UInt8) (i : Nat) : (⟨v.toArray⟩ : ByteArray).extract i v.length = ⟨(v.drop i).toArray⟩ := by
  apply ByteArray.ext
  simp [ByteArray.data_extract]
  rw [List.take_of_length_le (by rw [List.length_drop]; omega)]
theorem ext_take (v : List UInt8) (i : Nat) : (⟨v.toArray⟩ : ByteArray).extract 0 i = ⟨(v.take i).toArray⟩ := by
  apply ByteArray.ext
  simp [ByteArray.data_extract]
theorem app_bytes (a b : List UInt8) : (⟨a.toArray⟩ : ByteArray) ++ ⟨b.toArray⟩ = ⟨(a ++ b).toArray⟩ := by
  apply ByteArray.ext
  rw [ByteArray.data_append]
  simp
theorem eq_bytes (a b : List UInt8) : ((⟨a.toArray⟩ : ByteArray) == ⟨b.toArray⟩) = (a == b) := by
  rw [Bool.eq_iff_iff]
  show (a.toArray == b.toArray) = true ↔ _
  simp
def tC (v w : List UInt8) : Int := if (wordOk v && wordOk w) = true then 0 else 2
def tV (v w : List UInt8) : Bool := (wordOk v && wordOk w) && tB v w
theorem letters_bel2 (l : List UInt8) (w : World) (hl : l.length ≤ 1048576) : Calls Tryd.prog 16 #[.string ⟨l.toArray⟩] w fun e w' => e = .returned (.bool (wordOk l)) ∧ w = w' := l06Letters_any l w hl
set_option maxHeartbeats 1600000 in
theorem spec_AreTurns_ok (u v : List UInt8) (w : World) (hu : u.length ≤ 1048576) (hv : v.length ≤ 1048576) (h0 : wordOk u = true) (h1 : wordOk v = true) :
    Calls Tryd.prog 14 #[.string ⟨u.toArray⟩, .string ⟨v.toArray⟩] w fun e w' => e = .returned (.tuple #[.bool (tB u v), .int .i64 0]) ∧ Below w.heap.size w w' := by
  have HU : Hid (∀ w, Calls Tryd.prog 16 #[.string ⟨u.toArray⟩] w fun e w' => e = .returned (.bool true) ∧ w = w') := fun w => by
    have := l06Letters_any u w hu
    rwa [h0] at this
  have HV : Hid (∀ w, Calls Tryd.prog 16 #[.string ⟨v.toArray⟩] w fun e w' => e = .returned (.bool true) ∧ w = w') := fun w => by
    have := l06Letters_any v w hv
    rwa [h1] at this
  have hsu := bytes_size u
  have hsv := bytes_size v
  clear h0 h1
  cases hq : (u == v)
  · have hne : u ≠ v := by simpa using hq
    have HNE := Lib.hid hne
    clear hne
    by_cases hlen : u.length = v.length
    · have HLN := Lib.hid hlen
      have hle : ((u.length : Int) == (v.length : Int)) = true := by rw [hlen]; simp
      clear hlen
      go_enter Tryd.func14, Tryd.ntmps14
      go_wp2_with fail
      go_at_call 16
      refine (HU.out _).mono ?_
      rintro e w1 ⟨rfl, rfl⟩
      go_wp2_with fail
      go_at_call 16
      refine (HV.out _).mono ?_
      rintro e w1 ⟨rfl, rfl⟩
      go_wp2_with fail
      go_loopw [6] (fun x wr => ∃ i : Nat, x = .int .i64 (i : Int) ∧ i ≤ u.length ∧ (∀ j, j < i → rotB u j ≠ v) ∧ Below w.heap.size w wr) (fun x _ => u.length - (intOf x).toNat)
      case atStart => exact ⟨0, rfl, by omega, fun j hj => absurd hj (by omega), Below.refl _ _⟩
      case round =>
        obtain ⟨i, rfl, hi, hno, hbel⟩ := hrel
        have HNO := Lib.hid hno
        have HB := Lib.hid hbel
        clear hno hbel
        by_cases hil : i < u.length
        · have hlt : decide ((i : Int) < (u.length : Int)) = true := by simp; omega
          have j0 : (0 : Int) ≤ (i : Int) := by omega
          have j1 : (i : Int) ≤ (u.length : Int) := by omega
          have hx1 := ext_drop u i
          have hx2 := ext_take u i
          have hx3 := app_bytes (u.drop i) (u.take i)
          have hx4 := eq_bytes (u.drop i ++ u.take i) v
          have hs3 : (u.drop i ++ u.take i).length = u.length := by rw [List.length_append, List.length_drop, List.length_take]; omega
          have hs1 := bytes_size (u.drop i)
          have hs2 := bytes_size (u.take i)
          have hs4 : (u.drop i).length + (u.take i).length = u.length := by rw [List.length_drop, List.length_take]; omega
          have hbig : ¬ 9223372036854775807 < (u.drop i).length + (u.take i).length := by omega
          go_wp2_with fail
          go_quiet (fail)
          cases hqq : (u.drop i ++ u.take i == v)
          · have HNX : Hid (∀ j, j < i + 1 → rotB u j ≠ v) := fun j hj => by
              by_cases hji : j = i
              · subst hji
                intro hc
                have : (u.drop j ++ u.take j == v) = true := by simpa [rotB] using hc
                rw [this] at hqq; cases hqq
              · exact HNO.out j (by omega)
            go_wp2
            go_roundw
            case rel => exact ⟨i + 1, by go_num, by omega, HNX.out, by have hb := HB.out; (repeat' (first | (with_reducible exact Below.refl _ _) | (with_reducible refine Below.alloc ?_ ?_ _) | (with_reducible refine Below.setCell ?_ ?_ _) | (with_reducible refine Below.drew ?_) | (with_reducible refine below_drewN ?_ _) | (with_reducible assumption) | (with_reducible refine below_after (by with_reducible assumption) ?_) | go_size))⟩
            case measure => simp only [intOf]; omega
          · have HT : Hid (tB u v = true) := tB_hit HLN.out hil (by simpa [rotB] using hqq)
            go_wp2
            go_ret2
            exact ⟨by rw [HT.out]; rfl, by have hb := HB.out; (repeat' (first | (with_reducible exact Below.refl _ _) | (with_reducible refine Below.alloc ?_ ?_ _) | (with_reducible refine Below.setCell ?_ ?_ _) | (with_reducible refine Below.drew ?_) | (with_reducible refine below_drewN ?_ _) | (with_reducible assumption) | (with_reducible refine below_after (by with_reducible assumption) ?_) | go_size))⟩
        · have hlt : decide ((i : Int) < (u.length : Int)) = false := by simp; omega
          have HT : Hid (tB u v = false) := tB_none HNE.out (fun k hk => HNO.out k (by omega))
          go_wp2_with fail
          go_ret2
          exact ⟨by rw [HT.out]; rfl, HB.out⟩
    · have hle : ((u.length : Int) == (v.length : Int)) = false := by
        rw [beq_eq_false_iff_ne]; omega
      have HT : Hid (tB u v = false) := tB_far hlen
      clear hlen
      go_enter Tryd.func14, Tryd.ntmps14
      go_wp2_with fail
      go_at_call 16
      refine (HU.out _).mono ?_
      rintro e w1 ⟨rfl, rfl⟩
      go_wp2_with fail
      go_at_call 16
      refine (HV.out _).mono ?_
      rintro e w1 ⟨rfl, rfl⟩
      go_wp2_with fail
      refine wp_loop_rounds 1 ?_
      rw [rounds_succ]
      by_cases hz : 0 < u.length
      · have hlt : decide ((0 : Int) < (u.length : Int)) = true := decide_eq_true (by omega)
        go_wp2_with fail
        go_ret2
        exact ⟨by rw [HT.out]; rfl, Below.refl _ _⟩
      · have hlt : decide ((0 : Int) < (u.length : Int)) = false := decide_eq_false (by omega)
        go_wp2_with fail
        go_ret2
        exact ⟨by rw [HT.out]; rfl, Below.refl _ _⟩
  · have HT : Hid (tB u v = true) := by
      have : u = v := by simpa using hq
      show _ = _
      rw [this]; exact tB_same v
    go_enter Tryd.func14, Tryd.ntmps14
    go_wp2_with fail
    go_at_call 16
    refine (HU.out _).mono ?_
    rintro e w1 ⟨rfl, rfl⟩
    go_wp2_with fail
    go_at_call 16
    refine (HV.out _).mono ?_
    rintro e w1 ⟨rfl, rfl⟩
    go_wp2_with fail
    go_ret2
    exact ⟨by rw [HT.out]; rfl, Below.refl _ _⟩
theorem spec_AreTurns_any (u v : List UInt8) (w : World) (hu : u.length ≤ 1048576) (hv : v.length ≤ 1048576) :
    Calls Tryd.prog 14 #[.string ⟨u.toArray⟩, .string ⟨v.toArray⟩] w fun e w' => e = .returned (.tuple #[.bool (tV u v), .int .i64 (tC u v)]) ∧ Below w.heap.size w w' := by
  have HU := Lib.hid (fun w => letters_bel2 u w hu)
  have HV := Lib.hid (fun w => letters_bel2 v w hv)
  have hsu := bytes_size u
  have hsv := bytes_size v
  cases h0 : wordOk u
  · rw [show tV u v = false from by unfold tV; rw [h0]; rfl, show tC u v = 2 from by unfold tC; rw [h0]; rfl]
    rw [h0] at HU
    go_enter Tryd.func14, Tryd.ntmps14
    go_wp2_with fail
    go_at_call 16
    refine (HU.out _).mono ?_
    rintro e w1 ⟨rfl, rfl⟩
    go_wp2_with fail
    go_ret2
    exact ⟨rfl, Below.refl _ _⟩
  · cases h1 : wordOk v
    · rw [show tV u v = false from by unfold tV; rw [h1, Bool.and_false]; rfl, show tC u v = 2 from by unfold tC; rw [h1, Bool.and_false]; rfl]
      rw [h0] at HU
      rw [h1] at HV
      go_enter Tryd.func14, Tryd.ntmps14
      go_wp2_with fail
      go_at_call 16
      refine (HU.out _).mono ?_
      rintro e w1 ⟨rfl, rfl⟩
      go_wp2_with fail
      go_at_call 16
      refine (HV.out _).mono ?_
      rintro e w1 ⟨rfl, rfl⟩
      go_wp2_with fail
      go_ret2
      exact ⟨rfl, Below.refl _ _⟩
    · rw [show tV u v = tB u v from by unfold tV; rw [h0, h1]; rfl, show tC u v = 0 from by unfold tC; rw [h0, h1]; rfl]
      exact spec_AreTurns_ok u v w hu hv h0 h1
theorem contains_any (u v : List UInt8) (m : Int) (w : World) (hu : u.length ≤ 1048576) (hm : w.cell? ⟨0, 0, none⟩ = some (.int .i64 m)) :
    Calls Tryd.prog 28 #[.string ⟨(u ++ u).toArray⟩, .string ⟨v.toArray⟩] w fun e w' => e = .returned (.bool (Lib.contains (u ++ u) v)) ∧ w' = w :=
  Tryd.strings_Contains ⟨(u ++ u).toArray⟩ ⟨v.toArray⟩ m w (by rw [bytes_size, List.length_append]; omega) hm
theorem impl_AreTurns_any (u v : List UInt8) (m : Int) (w : World) (hu : u.length ≤ 1048576) (hv : v.length ≤ 1048576) (hg : 0 < w.heap.size) (hm : w.cell? ⟨0, 0, none⟩ = some (.int .i64 m)) :
    Calls Tryd.prog 15 #[.string ⟨u.toArray⟩, .string ⟨v.toArray⟩] w fun e w' => e = .returned (.tuple #[.bool (tV u v), .int .i64 (tC u v)]) ∧ Below w.heap.size w w' := by
  have HU := Lib.hid (fun w => isWord_any u w hu)
  have HV := Lib.hid (fun w => isWord_any v w hv)
  have hsu := bytes_size u
  have hsv := bytes_size v
  have HM := Lib.hid (And.intro hg hm)
  clear hg hm
  cases h0 : wordOk u
  · rw [show tV u v = false from by unfold tV; rw [h0]; rfl, show tC u v = 2 from by unfold tC; rw [h0]; rfl]
    rw [h0] at HU
    go_enter Tryd.func15, Tryd.ntmps15
    go_wp2_with fail
    go_at_call 18
    refine (HU.out _).mono ?_
    rintro e w1 ⟨rfl, hb⟩
    go_wp2_with fail
    go_ret2
    exact ⟨rfl, hb⟩
  · cases h1 : wordOk v
    · rw [show tV u v = false from by unfold tV; rw [h1, Bool.and_false]; rfl, show tC u v = 2 from by unfold tC; rw [h1, Bool.and_false]; rfl]
      rw [h0] at HU
      rw [h1] at HV
      go_enter Tryd.func15, Tryd.ntmps15
      go_wp2_with fail
      go_at_call 18
      refine (HU.out _).mono ?_
      rintro e w1 ⟨rfl, hb⟩
      go_wp2_with fail
      go_at_call 18
      refine (HV.out _).mono ?_
      rintro e w2 ⟨rfl, hb2⟩
      go_wp2_with fail
      go_ret2
      exact ⟨rfl, below_after hb2 hb⟩
    · rw [show tV u v = tB u v from by unfold tV; rw [h0, h1]; rfl, show tC u v = 0 from by unfold tC; rw [h0, h1]; rfl]
      rw [h0] at HU
      rw [h1] at HV
      clear h0 h1
      by_cases hlen : u.length = v.length
      · have hle : ((u.length : Int) == (v.length : Int)) = true := by rw [hlen]; simp
        have HT := Lib.hid (contains_turns hlen)
        have hbig : ¬ 9223372036854775807 < u.length + u.length := by omega
        have HC := Lib.hid (fun w hm => contains_any u v m w hu hm)
        have hx3 := app_bytes u u
        clear hlen
        go_enter Tryd.func15, Tryd.ntmps15
        go_wp2_with fail
        go_at_call 18
        refine (HU.out _).mono ?_
        rintro e w1 ⟨rfl, hb⟩
        go_wp2_with fail
        go_at_call 18
        refine (HV.out _).mono ?_
        rintro e w2 ⟨rfl, hb2⟩
        have HB := Lib.hid (below_after hb2 hb)
        clear hb hb2
        go_wp2_with fail
        go_at_call 28
        refine (HC.out _ ((HB.out.cell (p := ⟨0, 0, none⟩) HM.out.1).trans HM.out.2)).mono ?_
        rintro e w3 ⟨rfl, rfl⟩
        go_wp2_with fail
        go_ret2
        exact ⟨by rw [← HT.out]; rfl, HB.out⟩
      · have hle : ((u.length : Int) == (v.length : Int)) = false := by rw [beq_eq_false_iff_ne]; omega
        have HT : Hid (tB u v = false) := tB_far hlen
        clear hlen
        go_enter Tryd.func15, Tryd.ntmps15
        go_wp2_with fail
        go_at_call 18
        refine (HU.out _).mono ?_
        rintro e w1 ⟨rfl, hb⟩
        go_wp2_with fail
        go_at_call 18
        refine (HV.out _).mono ?_
        rintro e w2 ⟨rfl, hb2⟩
        go_wp2_with fail
        go_ret2
        exact ⟨by rw [HT.out]; rfl, below_after hb2 hb⟩
end Go.Proofs.YtohnmogejidpdaaDoor
