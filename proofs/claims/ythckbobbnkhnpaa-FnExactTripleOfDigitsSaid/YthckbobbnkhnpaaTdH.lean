/-
  Lists of lists: their size, their copy; what is readable (own work).
-/
import Derived.Test.YthckbobbnkhnpaaTdM
namespace Go.Proofs.Ythckbobbnkhnpaa
open Go.ChangeShapes Go.WideShapes Go.ChangeAt Go.RowKit
set_option linter.unusedVariables false
set_option linter.unusedSimpArgs false
set_option maxRecDepth 100000

/-- A list of lists that can be read. -/
def RdSS (w : World) (a : Option Addr) (n : Nat) (vs : List Value) (xss : List (List Int)) : Prop :=
  vs.length = n ∧ xss.length = n ∧ (0 < n → ∃ b, a = some ⟨b, 0, none⟩ ∧ b < w.heap.size ∧ ∀ i, i < n → w.cell? ⟨b, i, none⟩ = some (vs.getD i .nilIface)) ∧
  ∀ i, i < n → ∃ ai ci, vs.getD i .nilIface = .slice ai (xss.getD i []).length ci ∧ (0 < (xss.getD i []).length → ∃ g, ai = some ⟨g, 0, none⟩ ∧ g < w.heap.size ∧ ∀ j, j < (xss.getD i []).length → w.cell? ⟨g, j, none⟩ = some (.int .i64 ((xss.getD i []).getD j 0)))
theorem RdSS.below {w w' : World} {a : Option Addr} {n : Nat} {vs : List Value} {xss : List (List Int)} (h : RdSS w a n vs xss) (hb : Below w.heap.size w w') : RdSS w' a n vs xss := by
  refine ⟨h.1, h.2.1, fun hp => ?_, fun i hi => ?_⟩
  · obtain ⟨b, e, hlt, hc⟩ := h.2.2.1 hp
    exact ⟨b, e, Nat.lt_of_lt_of_le hlt hb.size, fun i hi => (hb.cell (p := ⟨b, i, none⟩) hlt).trans (hc i hi)⟩
  · obtain ⟨ai, ci, e, f⟩ := h.2.2.2 i hi
    refine ⟨ai, ci, e, fun hp => ?_⟩
    obtain ⟨g, e2, hlt, hc⟩ := f hp
    exact ⟨g, e2, Nat.lt_of_lt_of_le hlt hb.size, fun j hj => (hb.cell (p := ⟨g, j, none⟩) hlt).trans (hc j hj)⟩
theorem OwnSS.rd {B : Nat} {w : World} {v : Value} {vs : List Value} {xss : List (List Int)} (h : OwnSS B w v vs xss) : ∃ a cap, v = .slice a xss.length cap ∧ RdSS w a xss.length vs xss := by
  obtain ⟨a, cap, rfl, f⟩ := h.view
  have hl : vs.length = xss.length := by have := h.1.1; omega
  refine ⟨a, cap, rfl, hl, rfl, fun hp => ?_, fun i hi => ?_⟩
  · obtain ⟨g, e, _, hlt, hc⟩ := f hp
    exact ⟨g, e, hlt, hc⟩
  · obtain ⟨ai, ci, e, k⟩ := own_view (h.2.1 i hi)
    refine ⟨ai, ci, e, fun hp => ?_⟩
    obtain ⟨g, e2, _, hlt, hc, _⟩ := k hp
    exact ⟨g, e2, hlt, hc⟩
theorem szInt64S_any (a : Option Addr) (len cap : Nat) (left : Int) (w : World) (hl : 0 ≤ left) (hl2 : left ≤ 1048576) (hlen : len ≤ 9223372036854775807) :
    Calls Try.prog 11 #[.slice a len cap, .int .i64 left] w fun e w' => e = .returned (.int .i64 (if left < len then -1 else left - len)) ∧ w = w' := by
  have hw : wrap64 (left - len) = left - len := IntWalk.wrap64_in _ ⟨by omega, by omega⟩
  have hw2 : IntKind.i64.wrap (left - len) = left - len := by rw [IntKind.wrap_i64]; omega
  by_cases h : left < len
  · rw [if_pos h]
    have h1 : left - (len : Int) < 0 := by omega
    clear h
    go_enter Try.func11, Try.ntmps11
    go_wp2
    go_ret
    exact ⟨rfl, rfl⟩
  · rw [if_neg h]
    have h1 : ¬ left - (len : Int) < 0 := by omega
    clear h
    go_enter Try.func11, Try.ntmps11
    go_wp2
    go_ret
    exact ⟨rfl, rfl⟩
theorem szInt64SS_any (a : Option Addr) (len cap : Nat) (rs : List Rw4) (w : World) (h : ArgSS w a len rs) (hm : len ≤ maxLen) (hmm : ∀ i, i < len → (rs.getD i rw0).2.1 ≤ maxLen) :
    Calls Try.prog 4 #[.slice a len cap, .int .i64 1048576] w fun e w' => ∃ r : Int, e = .returned (.int .i64 r) ∧ (0 ≤ r → len ≤ 1048576 ∧ ∀ i, i < len → (rs.getD i rw0).2.1 ≤ 1048576) ∧ w = w' := by
  have HA := Lib.hid h
  have HM := Lib.hid hmm
  have hml : (len : Int) ≤ 9223372036854775807 := by unfold maxLen at hm; omega
  have hw : wrap64 (1048576 - (len : Int)) = 1048576 - len := IntWalk.wrap64_in _ ⟨by omega, by omega⟩
  have hw2 : IntKind.i64.wrap (1048576 - (len : Int)) = 1048576 - len := by rw [IntKind.wrap_i64]; omega
  clear h hmm hm
  by_cases hlt : 1048576 < len
  · have h1 : 1048576 - (len : Int) < 0 := by omega
    go_enter Try.func4, Try.ntmps4
    go_wp2
    go_ret
    exact ⟨_, rfl, fun h => by omega, rfl⟩
  · have h1 : ¬ 1048576 - (len : Int) < 0 := by omega
    have HL : Hid (len ≤ 1048576) := by show _ ≤ _; omega
    go_enter Try.func4, Try.ntmps4
    go_wp2
    go_loopw [5, 1] (fun i l wr => ∃ (k : Nat) (left : Int), k ≤ len ∧ i = .int .i64 k ∧ l = .int .i64 left ∧ 0 ≤ left ∧ left ≤ 1048576 ∧ (∀ i, i < k → (rs.getD i rw0).2.1 ≤ 1048576) ∧ w = wr) (fun i _ _ => len - (intOf i).toNat)
    case atStart => exact ⟨0, 1048576 - len, by omega, rfl, rfl, by omega, by omega, fun i hi => by omega, rfl⟩
    case round =>
      obtain ⟨k, left, hk, rfl, rfl, h2, h3, hall, rfl⟩ := hrel
      have HALL := Lib.hid hall
      have HX := Lib.hid (And.intro h2 h3)
      clear hall hw hw2 h1 hlt
      by_cases hkl : k < len
      · obtain ⟨b, off, rfl, hb, hc⟩ := HA.out.2 (by omega)
        have hck := (hc k hkl).1
        have hmk := HM.out k hkl
        obtain ⟨r, hr⟩ : ∃ r, rs.getD k rw0 = r := ⟨_, rfl⟩
        rw [hr] at hck hmk
        obtain ⟨ra, rl, rc, rz⟩ := r
        dsimp only at hck hmk
        have HR := Lib.hid hr
        have HMK : Hid (rl ≤ 9223372036854775807) := by show _ ≤ _; unfold maxLen at hmk; omega
        clear hc hr hmk
        have i0 : (0 : Int) ≤ (k : Int) := by omega
        have i1 : (k : Int) < (len : Int) := by omega
        have HSZ := Lib.hid (szInt64S_any ra rl rc left w h2 h3 HMK.out)
        by_cases hlr : left < rl
        · rw [if_pos hlr] at HSZ
          clear h2 h3 hlr
          go_wp2_with (go_at_call 11; refine (HSZ.out).mono ?_; rintro e wn ⟨rfl, rfl⟩)
          go_ret
          exact ⟨_, rfl, fun h => by omega, rfl⟩
        · rw [if_neg hlr] at HSZ
          have hn : ¬ left - (rl : Int) < 0 := by omega
          have HREL : Hid (0 ≤ left - (rl : Int) ∧ left - (rl : Int) ≤ 1048576 ∧ ∀ i, i < k + 1 → (rs.getD i rw0).2.1 ≤ 1048576) := by
            refine ⟨by omega, by omega, fun i hi => ?_⟩
            rcases Nat.lt_succ_iff_lt_or_eq.1 hi with h | h
            · exact HALL.out i h
            · rw [h, HR.out]; show rl ≤ _; omega
          clear h2 h3 hlr
          go_wp2_with (go_at_call 11; refine (HSZ.out).mono ?_; rintro e wn ⟨rfl, rfl⟩)
          go_roundw
          case rel => exact ⟨k + 1, _, by omega, by go_num, rfl, HREL.out.1, HREL.out.2.1, HREL.out.2.2, by trivial⟩
          case measure => simp [intOf]; omega
      · have hge : ¬ (k : Int) < (len : Int) := by omega
        clear h2 h3
        go_wp2
        go_ret
        exact ⟨_, rfl, fun _ => ⟨HL.out, fun i hi => HALL.out i (by omega)⟩, rfl⟩
end Go.Proofs.Ythckbobbnkhnpaa
