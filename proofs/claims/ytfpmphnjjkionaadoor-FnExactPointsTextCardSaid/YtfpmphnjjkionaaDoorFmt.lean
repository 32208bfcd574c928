/-
  strconv.FormatInt at base 10 by the library's contract, in every world that keeps the listed tables (own work).
-/
import Derived.Test.YtfpmphnjjkionaaDoorRows
import Derived.Test.YtfpmphnjjkionaaDoorPtx
import Derived.Test.YtfpmphnjjkionaaDoorShelf
import Derived.Lib.LaidTab
import Derived.Lib.AppendIntMem
import Derived.Stop.LaidErr
import Derived.LaidMore
namespace Go.Proofs.YtfpmphnjjkionaaDoor
open Go.ChangeShapes Go.WideShapes Go.ChangeAt Go.RowKit
set_option linter.unusedVariables false
set_option maxRecDepth 100000

theorem fmt_of_tab {w : World} (h : Lib.TabIs Tryd.prog w "internal/strconv.uint64pow10" .u64 Lib.pow10Tab) : FmtAt w.heap.size w := by
  intro n w' h1 h2 hb
  refine (Tryd.strconv_FormatInt_10 n h1 h2 w' (Lib.tabBelow_of_tabIs h w' hb)).mono ?_
  rintro e w2 ⟨rfl, k, os, rfl⟩
  exact ⟨rfl, Lib.below_grow _ _ (Nat.le_refl _) k os⟩
theorem fmt_of_laid {w : World} (h : laidMetH Tryd.prog Rows.fnExactPointTextRow.laid w) : FmtAt w.heap.size w := by
  rw [MakeChecks.laidMetH_plain _ _ _ (by kernel_rfl)] at h
  have h2 := (laidMet.tail (laidMet.tail h))
  exact fmt_of_tab (Lib.tabIs_of_head (g := 0) (t := 92) (e := 80) (n := 20) (by kernel_rfl) (by kernel_rfl) (by kernel_rfl) Tryd.underlying80 (by kernel_rfl) (by kernel_rfl) h2)
end Go.Proofs.YtfpmphnjjkionaaDoor
