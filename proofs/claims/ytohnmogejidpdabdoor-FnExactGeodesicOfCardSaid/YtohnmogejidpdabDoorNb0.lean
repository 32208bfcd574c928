/-
  What is demanded of one, two or three points, and the model's code (own work).
-/
import Derived.Shelf.Abstract
import Derived.Test.YtohnmogejidpdabDoorFr2
namespace Go.Proofs.YtohnmogejidpdabDoor
open Go.ChangeShapes Go.WideShapes Go.ChangeAt Go.RowKit Go.Shelf
set_option linter.unusedVariables false
set_option maxRecDepth 100000
set_option linter.unusedSimpArgs false
set_option maxRecDepth 100000

theorem isFr_code {a0 a1 : Addr} {ps : List (Int × Int)} (h : allFr ps = false) :
    ∃ a, demE a0 a1 ps = pan a ∧ (frE ps == 0) = false ∧ (frE ps != 0) = true ∧ ∀ W, Snt W a0 a1 → Calls Tryd.prog 52 #[er a] W fun e w' => e = .returned (.int .i64 (frE ps)) ∧ w' = W := by
  unfold demE frE
  rw [h]
  cases hp : allPt ps
  · exact ⟨a0, rfl, rfl, rfl, fun W hs => codeOfError_any false a0 a1 W hs⟩
  · exact ⟨a1, rfl, rfl, rfl, fun W hs => codeOfError_any true a0 a1 W hs⟩
theorem frE_yes {ps : List (Int × Int)} (h : allFr ps = true) : frE ps = 0 := by
  unfold frE
  rw [h, pts_of_frs h]; rfl
theorem demE_yes {a0 a1 : Addr} {ps : List (Int × Int)} (h : allFr ps = true) : demE a0 a1 ps = .returned (.tuple #[]) := by
  unfold demE
  rw [h, pts_of_frs h]; rfl
theorem al_below {a : World} {o : Obj} {W : World} (h : Below (a.alloc o).heap.size (a.alloc o) W) : Below a.heap.size a W := below_after h ((Below.refl _ _).alloc (Nat.le_refl _) _)
theorem l05Code1_any (x0 y0 k : Int) (b cap : Nat) (w : World) (hk : frE [(x0, y0)] = k) (hb : b < w.heap.size) (c0 : w.cell? ⟨b, 0, none⟩ = some (.int .i64 x0)) (d0 : w.cell? ⟨b, 1, none⟩ = some (.int .i64 y0)) :
    Calls Tryd.prog 22 #[.slice (some ⟨b, 0, none⟩) 1 cap] w fun e w' => e = .returned (.int .i64 k) ∧ Below w.heap.size w w' := by
  have := l05Code_any [(x0, y0)] b 0 cap w hb (by simp) (ptCells1 c0 d0)
  rw [hk] at this
  exact this
theorem demand1_any (x0 y0 : Int) (a0 a1 : Addr) (E : Ending) (b cap : Nat) (w : World) (hE : demE a0 a1 [(x0, y0)] = E) (hs : Snt w a0 a1) (hb : b < w.heap.size) (c0 : w.cell? ⟨b, 0, none⟩ = some (.int .i64 x0)) (d0 : w.cell? ⟨b, 1, none⟩ = some (.int .i64 y0)) :
    Calls Tryd.prog 32 #[.slice (some ⟨b, 0, none⟩) 1 cap] w fun e w' => e = E ∧ Below w.heap.size w w' := by
  have := demand_any [(x0, y0)] a0 a1 b 0 cap w hs hb (by simp) (ptCells1 c0 d0)
  rw [hE] at this
  exact this
theorem frs1 {x0 y0 : Int} (h : allFr [(x0, y0)] = true) : isFr x0 y0 = true := by
  simpa [allFr, Bool.and_eq_true] using h
theorem l05Code2_any (x0 y0 x1 y1 k : Int) (b cap : Nat) (w : World) (hk : frE [(x0, y0), (x1, y1)] = k) (hb : b < w.heap.size) (c0 : w.cell? ⟨b, 0, none⟩ = some (.int .i64 x0)) (d0 : w.cell? ⟨b, 1, none⟩ = some (.int .i64 y0)) (c1 : w.cell? ⟨b, 2, none⟩ = some (.int .i64 x1)) (d1 : w.cell? ⟨b, 3, none⟩ = some (.int .i64 y1)) :
    Calls Tryd.prog 22 #[.slice (some ⟨b, 0, none⟩) 2 cap] w fun e w' => e = .returned (.int .i64 k) ∧ Below w.heap.size w w' := by
  have := l05Code_any [(x0, y0), (x1, y1)] b 0 cap w hb (by simp) (ptCells2 c0 d0 c1 d1)
  rw [hk] at this
  exact this
theorem demand2_any (x0 y0 x1 y1 : Int) (a0 a1 : Addr) (E : Ending) (b cap : Nat) (w : World) (hE : demE a0 a1 [(x0, y0), (x1, y1)] = E) (hs : Snt w a0 a1) (hb : b < w.heap.size) (c0 : w.cell? ⟨b, 0, none⟩ = some (.int .i64 x0)) (d0 : w.cell? ⟨b, 1, none⟩ = some (.int .i64 y0)) (c1 : w.cell? ⟨b, 2, none⟩ = some (.int .i64 x1)) (d1 : w.cell? ⟨b, 3, none⟩ = some (.int .i64 y1)) :
    Calls Tryd.prog 32 #[.slice (some ⟨b, 0, none⟩) 2 cap] w fun e w' => e = E ∧ Below w.heap.size w w' := by
  have := demand_any [(x0, y0), (x1, y1)] a0 a1 b 0 cap w hs hb (by simp) (ptCells2 c0 d0 c1 d1)
  rw [hE] at this
  exact this
theorem frs2 {x0 y0 x1 y1 : Int} (h : allFr [(x0, y0), (x1, y1)] = true) : isFr x0 y0 = true ∧ isFr x1 y1 = true := by
  simpa [allFr, Bool.and_eq_true] using h
theorem l05Code3_any (x0 y0 x1 y1 x2 y2 k : Int) (b cap : Nat) (w : World) (hk : frE [(x0, y0), (x1, y1), (x2, y2)] = k) (hb : b < w.heap.size) (c0 : w.cell? ⟨b, 0, none⟩ = some (.int .i64 x0)) (d0 : w.cell? ⟨b, 1, none⟩ = some (.int .i64 y0)) (c1 : w.cell? ⟨b, 2, none⟩ = some (.int .i64 x1)) (d1 : w.cell? ⟨b, 3, none⟩ = some (.int .i64 y1)) (c2 : w.cell? ⟨b, 4, none⟩ = some (.int .i64 x2)) (d2 : w.cell? ⟨b, 5, none⟩ = some (.int .i64 y2)) :
    Calls Tryd.prog 22 #[.slice (some ⟨b, 0, none⟩) 3 cap] w fun e w' => e = .returned (.int .i64 k) ∧ Below w.heap.size w w' := by
  have := l05Code_any [(x0, y0), (x1, y1), (x2, y2)] b 0 cap w hb (by simp) (ptCells3 c0 d0 c1 d1 c2 d2)
  rw [hk] at this
  exact this
theorem demand3_any (x0 y0 x1 y1 x2 y2 : Int) (a0 a1 : Addr) (E : Ending) (b cap : Nat) (w : World) (hE : demE a0 a1 [(x0, y0), (x1, y1), (x2, y2)] = E) (hs : Snt w a0 a1) (hb : b < w.heap.size) (c0 : w.cell? ⟨b, 0, none⟩ = some (.int .i64 x0)) (d0 : w.cell? ⟨b, 1, none⟩ = some (.int .i64 y0)) (c1 : w.cell? ⟨b, 2, none⟩ = some (.int .i64 x1)) (d1 : w.cell? ⟨b, 3, none⟩ = some (.int .i64 y1)) (c2 : w.cell? ⟨b, 4, none⟩ = some (.int .i64 x2)) (d2 : w.cell? ⟨b, 5, none⟩ = some (.int .i64 y2)) :
    Calls Tryd.prog 32 #[.slice (some ⟨b, 0, none⟩) 3 cap] w fun e w' => e = E ∧ Below w.heap.size w w' := by
  have := demand_any [(x0, y0), (x1, y1), (x2, y2)] a0 a1 b 0 cap w hs hb (by simp) (ptCells3 c0 d0 c1 d1 c2 d2)
  rw [hE] at this
  exact this
theorem frs3 {x0 y0 x1 y1 x2 y2 : Int} (h : allFr [(x0, y0), (x1, y1), (x2, y2)] = true) : isFr x0 y0 = true ∧ isFr x1 y1 = true ∧ isFr x2 y2 = true := by
  simpa [allFr, Bool.and_eq_true] using h
end Go.Proofs.YtohnmogejidpdabDoor
