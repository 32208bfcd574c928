/-
  Words as bytes (own work).
-/
import Derived.Test.YtohnmogejidpdaaDoorMat
import Derived.Test.YtohnmogejidpdaaDoorBlk
import Derived.Test.YtohnmogejidpdaaDoorBk4
import Derived.Deep.Cut
import Derived.Deep.RegionWith
namespace Go.Proofs.YtohnmogejidpdaaDoor
open Go.ChangeShapes Go.WideShapes Go.ChangeAt Go.RowKit
set_option linter.unusedVariables false
set_option linter.unusedSimpArgs false
set_option maxRecDepth 100000

/-- A letter of paths. -/
def isLt (b : UInt8) : Bool := b == 76 || b == 82
def okL (l : List UInt8) : Bool := l.all isLt
theorem drop_at {l : List UInt8} {i : Nat} (h : i < l.length) : l.drop i = l[i] :: l.drop (i + 1) := List.drop_eq_getElem_cons h
theorem okL_take {l : List UInt8} {i : Nat} (h : i < l.length) (k : okL (l.take i) = true) (hb : isLt l[i] = true) : okL (l.take (i + 1)) = true := by
  rw [List.take_succ_eq_append_getElem h]
  unfold okL at *
  rw [List.all_append, k]
  simp [hb]
theorem okL_bad {l : List UInt8} {i : Nat} (h : i < l.length) (hb : isLt l[i] = false) : okL l = false := by
  cases k : okL l
  · rfl
  · unfold okL at k
    rw [List.all_eq_true] at k
    have := k l[i] (List.getElem_mem h)
    rw [this] at hb; exact absurd hb (by decide)
theorem at_byte (l : List UInt8) (i : Nat) (b : UInt8) (hi : i < l.length) (hb : l[i] = b) : ∀ h, (({ data := l.toArray } : ByteArray)[i]'h) = b := fun h => by
  show l.toArray[i]'(by simpa using hi) = b
  simpa using hb
theorem byte_ne {b c : UInt8} (h : ¬ b = c) : ((b.toNat : Int) != (c.toNat : Int)) = true ∧ ((b.toNat : Int) == (c.toNat : Int)) = false := by
  have : ¬ (b.toNat : Int) = (c.toNat : Int) := fun k => h (UInt8.toNat_inj.1 (by omega))
  simp [this]
theorem bytes_snoc (l : List UInt8) (b : UInt8) : (⟨l.toArray⟩ : ByteArray) ++ ⟨#[b]⟩ = ⟨(l ++ [b]).toArray⟩ := by
  apply ByteArray.ext
  rw [ByteArray.data_append]
  simp
theorem bytes_size (l : List UInt8) : (⟨l.toArray⟩ : ByteArray).size = l.length := by simp [ByteArray.size]
def wordOk (l : List UInt8) : Bool := okL l && decide (l.length ≤ 200)
theorem isLt_or {b : UInt8} (h : isLt b = true) : b = 76 ∨ b = 82 := by simpa [isLt] using h
theorem okL_at {l : List UInt8} (h : okL l = true) (i : Nat) (hi : i < l.length) : l[i] = 76 ∨ l[i] = 82 := by
  unfold okL at h
  rw [List.all_eq_true] at h
  exact isLt_or (h _ (List.getElem_mem hi))
end Go.Proofs.YtohnmogejidpdaaDoor
