/-
  Fractions of paths as plain numbers and bytes (own work).
-/
import Derived.Test.YtohnmogejidpdabDoorPthM
namespace Go.Proofs.YtohnmogejidpdabDoor
open Go.ChangeShapes Go.WideShapes Go.ChangeAt Go.RowKit
set_option linter.unusedVariables false
set_option maxRecDepth 100000
set_option linter.unusedSimpArgs false

/-- A letter of paths. -/
def isLt (b : UInt8) : Bool := b == 76 || b == 82
def okL (l : List UInt8) : Bool := l.all isLt
/-- The two fractions between which the walk along the letters ends. -/
def fpS : List UInt8 → Int → Int → Int → Int → (Int × Int) × Int × Int
  | [], l0, l1, r0, r1 => ((l0, l1), r0, r1)
  | b :: t, l0, l1, r0, r1 => if b = 76 then fpS t l0 l1 (l0 + r0) (l1 + r1) else fpS t (l0 + r0) (l1 + r1) r0 r1
theorem fpS_L {b : UInt8} {t : List UInt8} {l0 l1 r0 r1 : Int} (h : b = 76) : fpS (b :: t) l0 l1 r0 r1 = fpS t l0 l1 (l0 + r0) (l1 + r1) := by rw [fpS, if_pos h]
theorem fpS_R {b : UInt8} {t : List UInt8} {l0 l1 r0 r1 : Int} (h : ¬ b = 76) : fpS (b :: t) l0 l1 r0 r1 = fpS t (l0 + r0) (l1 + r1) r0 r1 := by rw [fpS, if_neg h]
theorem fpS_le : ∀ (l : List UInt8) (l0 l1 r0 r1 : Int), 0 ≤ l0 → 0 ≤ l1 → 0 ≤ r0 → 0 ≤ r1 →
    l0 + r0 ≤ (fpS l l0 l1 r0 r1).1.1 + (fpS l l0 l1 r0 r1).2.1 ∧ l1 + r1 ≤ (fpS l l0 l1 r0 r1).1.2 + (fpS l l0 l1 r0 r1).2.2
  | [], _, _, _, _, _, _, _, _ => ⟨Int.le_refl _, Int.le_refl _⟩
  | b :: t, l0, l1, r0, r1, h1, h2, h3, h4 => by
    by_cases hb : b = 76
    · rw [fpS_L hb]
      have := fpS_le t l0 l1 (l0 + r0) (l1 + r1) h1 h2 (by omega) (by omega)
      omega
    · rw [fpS_R hb]
      have := fpS_le t (l0 + r0) (l1 + r1) r0 r1 (by omega) (by omega) h3 h4
      omega
/-- The fraction with the path l. -/
def fpX (l : List UInt8) : Int := (fpS l 0 1 1 0).1.1 + (fpS l 0 1 1 0).2.1
def fpY (l : List UInt8) : Int := (fpS l 0 1 1 0).1.2 + (fpS l 0 1 1 0).2.2
/-- The code. -/
def fpC (l : List UInt8) : Int := if 60 < l.length ∨ okL l = false then 2 else if isPt (fpX l, fpY l) = true then 0 else 3
theorem fpC_range {l : List UInt8} (h : 60 < l.length ∨ okL l = false) : fpC l = 2 := by unfold fpC; rw [if_pos h]
theorem fpC_in {l : List UInt8} (h : ¬ (60 < l.length ∨ okL l = false)) : fpC l = if isPt (fpX l, fpY l) = true then 0 else 3 := by unfold fpC; rw [if_neg h]
theorem isPt_big {x y u v : Int} (h : isPt (x, y) = false) (hx : 0 ≤ x) (hy : 0 ≤ y) (h1 : x ≤ u) (h2 : y ≤ v) : isPt (u, v) = false := by
  cases k : isPt (u, v)
  · rfl
  · have a := isPt_c1 k
    have b := isPt_c2 k
    have : isPt (x, y) = true := by
      simp only [isPt, Bool.and_eq_true, crd_iff]
      omega
    rw [this] at h; exact absurd h (by decide)
theorem drop_at {l : List UInt8} {i : Nat} (h : i < l.length) : l.drop i = l[i] :: l.drop (i + 1) := List.drop_eq_getElem_cons h
theorem okL_take {l : List UInt8} {i : Nat} (h : i < l.length) (k : okL (l.take i) = true) (hb : isLt l[i] = true) : okL (l.take (i + 1)) = true := by
  rw [List.take_succ_eq_append_getElem h]
  unfold okL at *
  rw [List.all_append, k]
  simp [hb]
theorem okL_bad {l : List UInt8} {i : Nat} (h : i < l.length) (hb : isLt l[i] = false) : okL l = false := by
  cases k : okL l
  · rfl
  · unfold okL at k
    rw [List.all_eq_true] at k
    have := k l[i] (List.getElem_mem h)
    rw [this] at hb; exact absurd hb (by decide)
end Go.Proofs.YtohnmogejidpdabDoor
