/-
  What a law over a code of bytes wants: the bytes that came in, the source's block over calls; lists of points compared (own work).
-/
import Derived.Test.YtoenlpkphekbnaaDrw2
import Derived.Test.YtoenlpkphekbnaaRow
import Derived.Test.YtoenlpkphekbnaaBlk
import Derived.Test.YtoenlpkphekbnaaPtM
import Derived.Test.YtoenlpkphekbnaaRowP
import Derived.Deep.DeepCutAuto
import Derived.OpenShut
namespace Go.Proofs.Ytoenlpkphekbnaa
open Go.ChangeShapes Go.WideShapes Go.ChangeAt Go.RowKit
set_option linter.unusedVariables false
set_option maxRecDepth 100000
set_option linter.unusedSimpArgs false
set_option maxRecDepth 100000

theorem grown_of_below {w w' : World} (hb : Below w.heap.size w w') (row : Option Nat) : w.grownBy w' row := ⟨hb.os, hb.tape, hb.output, hb.size, fun i hi _ => hb.block i hi⟩
theorem Sr.below {w w' : World} {s : Nat} {a : Option Addr} {n cap : Nat} (h : Sr w s a n cap) (hb : Below w.heap.size w w') : Sr w' s a n cap := h.kept (grown_of_below hb none) (fun k e => by cases e)
theorem Bk2.grows {w w' : World} {g : Nat} {r : Option Nat} {a b : Int} (h : Bk2 w g a b) (hg : w.grownBy w' r) (hne : r ≠ some g) : Bk2 w' g a b := h.same (hg.block g h.2.2 (fun e => hne e.symm))
theorem Byt.mono {w : World} {s s' : Nat} {a : Option Addr} {n : Nat} (h : Byt w s a n) (hs : s ≤ s') : Byt w s' a n := by
  intro hn
  obtain ⟨b, off, e, hb, hc⟩ := h hn
  exact ⟨b, off, e, by omega, hc⟩
theorem Byt.over {w w' : World} {a : Option Addr} {n : Nat} (h : Byt w w.heap.size a n) (hb : Below w.heap.size w w') : Byt w' w'.heap.size a n := (h.below hb).mono hb.size
theorem byt_of_row {w : World} {a : Option Addr} {len cap : Nat} {zs : List Int} (h : IsRow .u8 w a len cap zs) : Byt w w.heap.size a len := by
  intro hp
  rcases h with ⟨_, hl, _⟩ | ⟨x, rfl, hl, _, hz, hc, hw⟩
  · omega
  · obtain ⟨b, off, rfl, hc'⟩ := ints_at hc (by omega)
    refine ⟨b, off, rfl, World.block_lt_of_cell? w _ (hc' 0 (by omega)), fun j hj => ⟨zs.getD j 0, ?_, ?_, hc' j (by omega)⟩⟩
    · have := hw (zs.getD j 0) (by rw [List.getD_eq_getElem?_getD, List.getElem?_eq_getElem (by omega)]; exact List.getElem_mem _)
      have := bounds_u8 this
      omega
    · have := hw (zs.getD j 0) (by rw [List.getD_eq_getElem?_getD, List.getElem?_eq_getElem (by omega)]; exact List.getElem_mem _)
      have := bounds_u8 this
      omega
end Go.Proofs.Ytoenlpkphekbnaa
