/-
  The law's helper that marks a list of points (own work).
-/
import Derived.Test.YtmjhejmkmdgikaaPtL
namespace Go.Proofs.Ytmjhejmkmdgikaa
open Go.ChangeShapes Go.WideShapes Go.ChangeAt Go.RowKit
set_option linter.unusedVariables false
set_option maxRecDepth 100000
set_option linter.unusedSimpArgs false

set_option maxHeartbeats 800000 in
theorem markPointS_any (B : Nat) (v : Value) (n : Nat) (zs : List Int) (k0 : Int) (w : World) (h : OwnF B w v n zs) (hk : 0 ≤ k0) (hk2 : k0 ≤ 4611686018427387904) (hx : n ≤ 140737488351232) :
    Calls Try.prog 22 #[v, .int .i64 k0] w fun e w' => e = .returned (.int .i64 (k0 + n * 2)) ∧ OwnF B w' v n (marks k0 (n * 2)) ∧ w.grownBy w' v.ownBlock := by
  have h0 := h
  have hzl := h.len
  obtain ⟨a, cap, rfl, f⟩ := own_viewF h
  by_cases hz : n = 0
  · subst hz
    have hxs : zs = [] := List.length_eq_zero_iff.1 (by omega)
    subst hxs
    clear f
    have HO := Lib.hid h0
    clear h h0
    go_enter Try.func22, Try.ntmps22
    go_wp2
    refine wp_loop_rounds 1 ?_
    rw [rounds_succ]
    go_wp2
    go_ret
    exact ⟨ret_int (by simp), HO.out, World.grownBy.refl _ _⟩
  · obtain ⟨g, rfl, hBg, hg, hc, _⟩ := f (by omega)
    have HO := Lib.hid h0
    have HN := Lib.hid hzl
    clear f hc hz h h0 hzl
    go_enter Try.func22, Try.ntmps22
    go_wp2
    go_loopw [1, 5] (fun m i wr => ∃ k : Nat, k ≤ n ∧ i = .int .i64 k ∧ m = .int .i64 (k0 + k * 2) ∧ OwnF B wr (.slice (some ⟨g, 0, none⟩) n cap) n (marks k0 (k * 2) ++ zs.drop (k * 2)) ∧ w.grownBy wr (some g)) (fun _ i _ => n - (intOf i).toNat)
    case atStart => exact ⟨0, by omega, rfl, by go_num, HO.out, World.grownBy.refl _ _⟩
    case round =>
      obtain ⟨k, hk3, rfl, rfl, hown, hgr⟩ := hrel
      have HW := Lib.hid hown
      have HG := Lib.hid hgr
      clear hown hgr
      by_cases hlt : k < n
      · have hl : (marks k0 (k * 2) ++ zs.drop (k * 2)).length = n * 2 := HW.out.len
        have c0 := World.ownsRow.cellAt HW.out (k * 2) (by omega)
        have f0 := World.ownsRow.frozenAt HW.out (k * 2)
        have c1 := World.ownsRow.cellAt HW.out (k * 2 + 1) (by omega)
        have f1 := World.ownsRow.frozenAt HW.out (k * 2 + 1)
        have s1 := World.ownsRow.stored HW.out (k * 2) (.int .i64 (k0 + k * 2))
        have s2 := World.ownsRow.stored s1.1 (k * 2 + 1) (.int .i64 (k0 + k * 2 + 1))
        have S1 := Lib.hid s1.2
        have S2 := Lib.hid s2.1
        have S3 := Lib.hid s2.2
        obtain ⟨o1, ho1⟩ : ∃ o, ((marks k0 (k * 2) ++ zs.drop (k * 2)).map (Value.int .i64))[k * 2]? = some o := ⟨_, List.getElem?_eq_getElem (by rw [List.length_map, hl]; omega)⟩
        obtain ⟨o2, ho2⟩ : ∃ o, ((marks k0 (k * 2) ++ zs.drop (k * 2)).map (Value.int .i64))[k * 2 + 1]? = some o := ⟨_, List.getElem?_eq_getElem (by rw [List.length_map, hl]; omega)⟩
        rw [ho1] at c0
        rw [ho2] at c1
        have i0 : (0 : Int) ≤ (k : Int) := by omega
        have i1 : (k : Int) < (n : Int) := by omega
        clear s1 s2 ho1 ho2 hl
        go_wp2
        refine wp_loop_rounds 3 ?_
        rw [rounds_succ]
        go_wp2
        rw [rounds_succ]
        go_wp2
        rw [rounds_succ]
        go_wp2
        go_roundw
        case rel =>
          refine ⟨k + 1, by omega, by go_num, by go_num, ?_, grown_trans (grown_trans HG.out S1.out) S3.out⟩
          have h1 := S2.out
          have n1 : ((k * 2 : Nat) : Int) = (k : Int) * 2 := by omega
          have n2 : k0 + (k : Int) * 2 + 1 = k0 + ((k * 2 + 1 : Nat) : Int) := by omega
          rw [n2, ← n1, ← List.map_set, ← List.map_set, marks_set k0 zs (k * 2) (by have := HN.out; omega), marks_set k0 zs (k * 2 + 1) (by have := HN.out; omega)] at h1
          rw [n1, ← n2] at h1
          rw [show (k + 1) * 2 = k * 2 + 1 + 1 from by omega]
          exact h1
        case measure => simp [intOf]; omega
      · have hge : n ≤ k := by omega
        clear hlt
        go_wp2
        go_ret
        obtain rfl : k = n := by omega
        refine ⟨ret_int (by omega), ?_, HG.out⟩
        have := HW.out
        rw [List.drop_of_length_le (by rw [HN.out]; exact Nat.le_refl _), List.append_nil] at this
        exact this
end Go.Proofs.Ytmjhejmkmdgikaa
