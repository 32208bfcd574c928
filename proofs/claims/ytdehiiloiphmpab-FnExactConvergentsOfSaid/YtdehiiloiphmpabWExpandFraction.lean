/-
  The walk of laws.FnExactExpandFraction: for all arguments it returns true and leaves memory as it was. No conditions.
-/
import Derived.Test.YtdehiiloiphmpabMark
namespace Go.Proofs.Ytdehiiloiphmpab
open Go.ChangeShapes Go.WideShapes Go.ChangeAt Go.RowKit
set_option linter.unusedVariables false
set_option linter.unusedSimpArgs false

/-- A call returned such a list and a code, and left all that was there. -/
def RetIC (w : World) (xs : List Int) (c : Int) (e : Ending) (w' : World) : Prop := ∃ v, e = .returned (.tuple #[v, .int .i64 c]) ∧ OwnI w.heap.size w' v xs ∧ Below w.heap.size w w'
/-- p and q as chapter 1 asks of a fraction to be expanded. -/
def ratB (p q : Int) : Bool := crd p && (decide (1 ≤ q) && decide (q ≤ 1000000))
theorem ratB_iff {p q : Int} : ratB p q = true ↔ (-1000000 ≤ p ∧ p ≤ 1000000) ∧ 1 ≤ q ∧ q ≤ 1000000 := by simp [ratB, crd]

theorem isRatio_yes (p q : Int) (w : World) (h : ratB p q = true) : Calls Try.prog 50 #[.int .i64 p, .int .i64 q] w fun e w' => e = .returned (.bool true) ∧ w = w' := by
  obtain ⟨hp, h1, h2⟩ := ratB_iff.1 h
  have cp : crd p = true := crd_iff.2 hp
  have cq : crd q = true := crd_iff.2 ⟨by omega, h2⟩
  clear h hp
  go_enter Try.func50, Try.ntmps50
  go_wp2_with (go_at_call 57; refine (isCoord_any _ _).mono ?_; rintro e wn ⟨rfl, rfl⟩)
  go_ret
  exact ⟨rfl, rfl⟩
theorem isRatio_no (p q : Int) (w : World) (h : ratB p q = false) : Calls Try.prog 50 #[.int .i64 p, .int .i64 q] w fun e w' => e = .returned (.bool false) ∧ w = w' := by
  cases cp : crd p
  · clear h
    go_enter Try.func50, Try.ntmps50
    go_wp2_with (go_at_call 57; refine (isCoord_any _ _).mono ?_; rintro e wn ⟨rfl, rfl⟩)
    go_ret
    exact ⟨rfl, rfl⟩
  · cases cq : crd q
    · clear h
      go_enter Try.func50, Try.ntmps50
      go_wp2_with (go_at_call 57; refine (isCoord_any _ _).mono ?_; rintro e wn ⟨rfl, rfl⟩)
      go_ret
      exact ⟨rfl, rfl⟩
    · have h1 : q < 1 := by
        have := crd_iff.1 cq
        by_cases hq : 1 ≤ q
        · exfalso
          have : ratB p q = true := ratB_iff.2 ⟨crd_iff.1 cp, hq, this.2⟩
          rw [h] at this; cases this
        · omega
      clear h
      have hd : decide (1 ≤ q) = false := by simpa using h1
      go_enter Try.func50, Try.ntmps50
      go_wp2_with (go_at_call 57; refine (isCoord_any _ _).mono ?_; rintro e wn ⟨rfl, rfl⟩)
      go_ret
      exact ⟨by simp, rfl⟩
theorem impl_ExpandFraction_yes (p q : Int) (w : World) (h : ratB p q = true) : Calls Try.prog 20 #[.int .i64 p, .int .i64 q] w (RetIC w (expI p q) 0) := by
  obtain ⟨hp, h1, h2⟩ := ratB_iff.1 h
  have H := Lib.hid h
  clear h
  go_enter Try.func20, Try.ntmps20
  go_wp2_with (first | (go_at_call 50; refine (isRatio_yes _ _ _ H.out).mono ?_; rintro e wn ⟨rfl, rfl⟩) | (go_at_call 51; refine (expansionOf_any _ _ _ h1 h2 hp.1 hp.2).mono ?_; rintro e wn ⟨v, rfl, hown, hb⟩))
  go_ret2
  exact ⟨v, rfl, hown, hb⟩
theorem impl_ExpandFraction_no (p q : Int) (w : World) (h : ratB p q = false) : Calls Try.prog 20 #[.int .i64 p, .int .i64 q] w (RetIC w [] 2) := by
  have H := Lib.hid h
  clear h
  go_enter Try.func20, Try.ntmps20
  go_wp2_with (first | (go_at_call 50; refine (isRatio_no _ _ _ H.out).mono ?_; rintro e wn ⟨rfl, rfl⟩))
  go_ret2
  exact ⟨_, rfl, World.ownsRow_nil _ _ _ _, Below.refl _ _⟩
theorem spec_ExpandFraction_yes (p q : Int) (w : World) (h : ratB p q = true) : Calls Try.prog 19 #[.int .i64 p, .int .i64 q] w (RetIC w (expI p q) 0) := by
  obtain ⟨hp, h1, h2⟩ := ratB_iff.1 h
  have cp : crd p = true := crd_iff.2 hp
  clear h
  go_enter Try.func19, Try.ntmps19
  go_wp2_with (first | (go_at_call 47; refine (fits_any _ _).mono ?_; rintro e wn ⟨rfl, rfl⟩) | (go_at_call 48; go_in) | (go_at_call 49; refine (l01Expand_any _ _ _ h1 h2 hp.1 hp.2).mono ?_; rintro e wn ⟨v, rfl, hown, hb⟩))
  go_ret2
  exact ⟨v, rfl, hown, hb⟩
theorem spec_ExpandFraction_no (p q : Int) (w : World) (h : ratB p q = false) : Calls Try.prog 19 #[.int .i64 p, .int .i64 q] w (RetIC w [] 2) := by
  cases cp : crd p
  · clear h
    go_enter Try.func19, Try.ntmps19
    go_wp2_with (first | (go_at_call 47; refine (fits_any _ _).mono ?_; rintro e wn ⟨rfl, rfl⟩) | (go_at_call 48; go_in))
    go_ret2
    exact ⟨_, rfl, World.ownsRow_nil _ _ _ _, Below.refl _ _⟩
  · by_cases h1 : 1 ≤ q
    · have h2 : ¬ q ≤ 1000000 := by
        intro h2
        have : ratB p q = true := ratB_iff.2 ⟨crd_iff.1 cp, h1, h2⟩
        rw [h] at this; cases this
      have hd2 : decide (q ≤ 1000000) = false := by simpa using h2
      clear h
      go_enter Try.func19, Try.ntmps19
      go_wp2_with (first | (go_at_call 47; refine (fits_any _ _).mono ?_; rintro e wn ⟨rfl, rfl⟩) | (go_at_call 48; go_in))
      go_ret2
      exact ⟨_, rfl, World.ownsRow_nil _ _ _ _, Below.refl _ _⟩
    · clear h
      have hd : decide (1 ≤ q) = false := by simpa using h1
      go_enter Try.func19, Try.ntmps19
      go_wp2_with (first | (go_at_call 47; refine (fits_any _ _).mono ?_; rintro e wn ⟨rfl, rfl⟩) | (go_at_call 48; go_in))
      go_ret2
      exact ⟨_, rfl, World.ownsRow_nil _ _ _ _, Below.refl _ _⟩
/-- The walk behind the two first calls: for whatever list and code both functions return. -/
theorem walk_ExpandFraction (p q : Int) (xs : List Int) (c : Int) (w : World) (hx : xs.length ≤ 1000001)
    (hS : ∀ w, Calls Try.prog 19 #[.int .i64 p, .int .i64 q] w (RetIC w xs c)) (hI : ∀ w, Calls Try.prog 20 #[.int .i64 p, .int .i64 q] w (RetIC w xs c)) :
    Calls Try.prog 6 #[.int .i64 p, .int .i64 q] w fun e w' => e = .returned (.bool true) ∧ Below w.heap.size w w' := by
  have HS := Lib.hid hS
  have HI := Lib.hid hI
  clear hS hI
  go_enter Try.func6, Try.ntmps6
  go_wp2_with fail
  refine (HS.out _).mono ?_
  rintro e w1 ⟨v0, rfl, o0, b1⟩
  have O0 := Lib.hid o0
  clear o0
  go_wp2_with fail
  refine (HI.out _).mono ?_
  rintro e w2 ⟨v1, rfl, o1, b2⟩
  have O1 := Lib.hid o1
  have O0a := Lib.hid (O0.out.below b2)
  clear o1
  go_wp2_with fail
  refine (eqInt64S_same _ _ _ _ _ _ O1.out O0a.out (by omega)).mono ?_
  rintro e w3 ⟨rfl, b3⟩
  have O1b := Lib.hid (O1.out.below b3)
  have O0b := Lib.hid (O0a.out.below b3)
  go_wp2_with fail
  refine (markInt64S_any _ _ _ _ _ O1b.out (by omega) (by omega) (by omega)).mono ?_
  rintro e w4 ⟨rfl, o1c, g4⟩
  have hlt1 : ∀ k, v1.ownBlock = some k → w1.heap.size ≤ k := fun k hk => (O1.out.lt k hk).1
  have O0c : Hid (OwnI w.heap.size w4 v0 xs) := by
    refine World.ownsRow.kept O0b.out g4 ?_
    cases h0 : v0.ownBlock with
    | none => exact .inl rfl
    | some k =>
      right
      cases h1 : v1.ownBlock with
      | none => simp
      | some k' =>
        have a := (O0.out.lt k h0).2
        have b := hlt1 k' h1
        simp; omega
  have b4 : Below w.heap.size w w4 := by
    have s1 := b1.size
    have s2 := b2.size
    have s3 := b3.size
    exact Below.grown (below_after b3 (below_after b2 b1)) g4 (by omega) (fun k hk => by have := hlt1 k hk; omega)
  have O1c := Lib.hid o1c
  clear o1c g4 hlt1 b1 b2 b3
  go_wp2_with fail
  go_at_call 23
  refine (heldInt64S_marks _ _ _ _ _ O1c.out (by omega) (by omega) (by omega)).mono ?_
  rintro e w5 ⟨rfl, rfl⟩
  go_wp2_with fail
  refine (HI.out _).mono ?_
  rintro e w6 ⟨v2, rfl, o2, b6⟩
  have O2 := Lib.hid o2
  have O0d := Lib.hid (O0c.out.below b6)
  have O1d := Lib.hid (O1c.out.below b6)
  clear o2
  go_wp2_with fail
  refine (eqInt64S_same _ _ _ _ _ _ O2.out O0d.out (by omega)).mono ?_
  rintro e w7 ⟨rfl, b7⟩
  have O1e := Lib.hid (O1d.out.below b7)
  go_wp2_with fail
  go_at_call 23
  refine (heldInt64S_marks _ _ _ _ _ O1e.out (by omega) (by omega) (by omega)).mono ?_
  rintro e w8 ⟨rfl, rfl⟩
  go_wp2
  go_ret
  exact ⟨rfl, below_after b7 (below_after b6 b4)⟩

theorem walkFnExactExpandFraction (p q : Int) (wp : (Lit.int .i64 p).wf = true) (wq : (Lit.int .i64 q).wf = true) (w : World) :
    Calls Try.prog 6 #[.int .i64 p, .int .i64 q] w fun e w' => e = .returned (.bool true) ∧ Below w.heap.size w w' := by
  cases h : ratB p q
  · exact walk_ExpandFraction p q [] 2 w (by simp) (fun w => spec_ExpandFraction_no p q w h) (fun w => impl_ExpandFraction_no p q w h)
  · have := expI_len p q
    have := (ratB_iff.1 h).2
    exact walk_ExpandFraction p q (expI p q) 0 w (by omega) (fun w => spec_ExpandFraction_yes p q w h) (fun w => impl_ExpandFraction_yes p q w h)
end Go.Proofs.Ytdehiiloiphmpab
