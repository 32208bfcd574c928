/-
  strings.Trim and strings.IndexByte at the letters of paths (own work).
-/
import Derived.Test.YtohnmogejidpdabDoorShelf
import Derived.Test.YtohnmogejidpdabDoorFpM
import Derived.Shelf.Strings.SlTrimAscii
namespace Go.Proofs.YtohnmogejidpdabDoor
open Go.ChangeShapes Go.WideShapes Go.ChangeAt Go.RowKit
set_option linter.unusedVariables false
set_option maxRecDepth 100000
set_option linter.unusedSimpArgs false
set_option maxRecDepth 100000

theorem drop_nil (p : UInt8 → Bool) : ∀ l : List UInt8, l.dropWhile p = [] ↔ l.all p = true
  | [] => by simp
  | b :: t => by
    rw [List.dropWhile_cons, List.all_cons]
    cases h : p b
    · simp
    · simp [drop_nil p t]
theorem has_lt (b : UInt8) : ([76, 82] : List UInt8).contains b = isLt b := by
  unfold isLt
  simp [List.contains, List.elem]
  cases h : b == 76 <;> cases k : b == 82 <;> simp_all
theorem trim_ok (l : List UInt8) : Lib.trimS l [76, 82] = [] ↔ okL l = true := by
  have hp : (fun b : UInt8 => ([76, 82] : List UInt8).contains b) = isLt := funext has_lt
  unfold Lib.trimS Lib.trimLeftS Lib.trimRightS okL
  rw [hp, drop_nil, List.all_reverse]
  constructor
  · intro h
    rcases hd : l.reverse.dropWhile isLt with _ | ⟨b, t⟩
    · have := (drop_nil isLt l.reverse).1 hd
      rwa [List.all_reverse] at this
    · rw [hd, List.all_cons, Bool.and_eq_true] at h
      have := List.head_dropWhile_not isLt (l := l.reverse) (by rw [hd]; simp)
      simp only [hd, List.head_cons] at this
      rw [h.1] at this; exact absurd this (by decide)
  · intro h
    have : l.reverse.dropWhile isLt = [] := (drop_nil isLt l.reverse).2 (by rw [List.all_reverse]; exact h)
    rw [this]; rfl
theorem trim_any (l : List UInt8) (w : World) (hl : l.length ≤ 1048576) :
    Calls Tryd.prog 40 #[.string ⟨l.toArray⟩, .string ⟨#[76, 82]⟩] w fun e w' => e = .returned (.string ⟨(Lib.trimS l [76, 82]).toArray⟩) ∧ Below w.heap.size w w' := by
  have h := Any.strings_Trim_laid Tryd.lays160 (by kernel_rfl) ⟨l.toArray⟩ ⟨#[76, 82]⟩ w (by simp [ByteArray.size]; omega) (by decide) (ascii_of_all (l := [76, 82]) (by decide))
  exact h
theorem index_L (w : World) : Calls Tryd.prog 20 #[.string ⟨#[76, 82]⟩, .int .u8 76] w fun e w' => e = .returned (.int .i64 0) ∧ w' = w :=
  Tryd.strings_IndexByte ⟨#[76, 82]⟩ 76 w
theorem index_R (w : World) : Calls Tryd.prog 20 #[.string ⟨#[76, 82]⟩, .int .u8 82] w fun e w' => e = .returned (.int .i64 1) ∧ w' = w :=
  Tryd.strings_IndexByte ⟨#[76, 82]⟩ 82 w
end Go.Proofs.YtohnmogejidpdabDoor
