/-
  The walk of laws.FnExactExpandFraction: for all arguments it returns true and leaves memory as it was. No conditions.
-/
import Derived.Test.YtibmkmcdggokbaaMark
namespace Go.Proofs.Ytibmkmcdggokbaa
open Go.ChangeShapes Go.WideShapes Go.ChangeAt Go.RowKit
set_option linter.unusedVariables false
set_option linter.unusedSimpArgs false

/-- A call returned such a list and a code, and left all that was there. -/
def RetIC (w : World) (xs : List Int) (c : Int) (e : Ending) (w' : World) : Prop := ∃ v, e = .returned (.tuple #[v, .int .i64 c]) ∧ OwnI w.heap.size w' v xs ∧ Below w.heap.size w w'
/-- p and q as chapter 1 asks of a fraction to be expanded. -/
def ratB (p q : Int) : Bool := crd p && (decide (1 ≤ q) && decide (q ≤ 1000000))
theorem ratB_iff {p q : Int} : ratB p q = true ↔ (-1000000 ≤ p ∧ p ≤ 1000000) ∧ 1 ≤ q ∧ q ≤ 1000000 := by simp [ratB, crd]

theorem isRatio_yes (p q : Int) (w : World) (h : ratB p q = true) : Calls Try.prog 31 #[.int .i64 p, .int .i64 q] w fun e w' => e = .returned (.bool true) ∧ w = w' := by
  obtain ⟨hp, h1, h2⟩ := ratB_iff.1 h
  have cp : crd p = true := crd_iff.2 hp
  have cq : crd q = true := crd_iff.2 ⟨by omega, h2⟩
  clear h hp
  go_enter Try.func31, Try.ntmps31
  go_wp2_with (go_at_call 47; refine (isCoord_any _ _).mono ?_; rintro e wn ⟨rfl, rfl⟩)
  go_ret
  exact ⟨rfl, rfl⟩
theorem isRatio_no (p q : Int) (w : World) (h : ratB p q = false) : Calls Try.prog 31 #[.int .i64 p, .int .i64 q] w fun e w' => e = .returned (.bool false) ∧ w = w' := by
  cases cp : crd p
  · clear h
    go_enter Try.func31, Try.ntmps31
    go_wp2_with (go_at_call 47; refine (isCoord_any _ _).mono ?_; rintro e wn ⟨rfl, rfl⟩)
    go_ret
    exact ⟨rfl, rfl⟩
  · cases cq : crd q
    · clear h
      go_enter Try.func31, Try.ntmps31
      go_wp2_with (go_at_call 47; refine (isCoord_any _ _).mono ?_; rintro e wn ⟨rfl, rfl⟩)
      go_ret
      exact ⟨rfl, rfl⟩
    · have h1 : q < 1 := by
        have := crd_iff.1 cq
        by_cases hq : 1 ≤ q
        · exfalso
          have : ratB p q = true := ratB_iff.2 ⟨crd_iff.1 cp, hq, this.2⟩
          rw [h] at this; cases this
        · omega
      clear h
      have hd : decide (1 ≤ q) = false := by simpa using h1
      go_enter Try.func31, Try.ntmps31
      go_wp2_with (go_at_call 47; refine (isCoord_any _ _).mono ?_; rintro e wn ⟨rfl, rfl⟩)
      go_ret
      exact ⟨by simp, rfl⟩
end Go.Proofs.Ytibmkmcdggokbaa
