/-
  The model's source of draws, made from a code; points and matrices drawn (own work).
-/
import Derived.Test.YtibmkmcdggokbaaDrw
import Derived.Test.YtibmkmcdggokbaaMark
import Derived.Test.YtibmkmcdggokbaaAlg4
import Derived.StillTailTactics
namespace Go.Proofs.Ytibmkmcdggokbaa
open Go.ChangeShapes Go.WideShapes Go.ChangeAt Go.RowKit
set_option linter.unusedVariables false
set_option linter.unusedSimpArgs false
set_option maxRecDepth 100000

theorem Byt.below {w w' : World} {s : Nat} {a : Option Addr} {n : Nat} (h : Byt w s a n) (hb : Below s w w') : Byt w' s a n := by
  intro hn
  obtain ⟨b, off, rfl, hbs, hc⟩ := h hn
  refine ⟨b, off, rfl, hbs, fun j hj => ?_⟩
  obtain ⟨z, h0, h1, e⟩ := hc j hj
  exact ⟨z, h0, h1, (hb.cell (p := ⟨b, off + j, none⟩) hbs).trans e⟩
theorem l01From_any (a : Option Addr) (n cap : Nat) (w : World) (hn : n ≤ 9223372036854775807) (hb : Byt w w.heap.size a n) :
    Calls Try.prog 26 #[.slice a n cap] w fun e w' => e = .returned (.pointer (some ⟨w.heap.size, 0, none⟩)) ∧ Below w.heap.size w w' ∧ Sr w' w.heap.size a n cap := by
  have HB := Lib.hid hb
  clear hb
  go_enter Try.func26, Try.ntmps26
  go_wp2
  go_loopw [4] (fun i wr => ∃ (k : Nat) (h : Int), k ≤ n ∧ k ≤ 4096 ∧ i = .int .i64 k ∧ wr.heap[w.heap.size]? = some (.cells #[.slice a n cap, .int .i64 0, .int .u64 h] 66 (0, 0)) ∧ Below w.heap.size w wr) (fun i _ => n - (intOf i).toNat)
  case atStart => exact ⟨0, _, by omega, by omega, rfl, World.alloc_heap_new w _, (Below.refl _ _).alloc (Nat.le_refl _) _⟩
  case round =>
    obtain ⟨k, h, hk, hk2, rfl, hh, hbel⟩ := hrel
    have HH := Lib.hid hh
    have HBL := Lib.hid hbel
    have hgl : w.heap.size < wr.heap.size := (Array.getElem?_eq_some_iff.1 hh).1
    have c2 : wr.cell? ⟨w.heap.size, 2, none⟩ = some (.int .u64 h) := by simp [World.cell?, hh]
    have f2 : wr.frozen? ⟨w.heap.size, 2, none⟩ = false := by simp [World.frozen?, hh]
    by_cases hlt : k < n
    · by_cases hl2 : k < 4096
      · obtain ⟨b, off, rfl, hbs, hc⟩ := HB.out (by omega)
        obtain ⟨q, hq0, hq1, hq⟩ := hc k hlt
        have e1 : wr.cell? ⟨b, off + k, none⟩ = some (.int .u8 q) := (hbel.cell (p := ⟨b, off + k, none⟩) hbs).trans hq
        have hw1 : wrap64 (k + 1) = k + 1 := IntWalk.wrap64_in _ (by omega)
        clear hc hq hh hbel
        go_wp2
        go_still_tail 15, (by kernel_rfl)
        change wpList _ _ _ _ _ wr.drew
        obtain ⟨w2, hw2⟩ : ∃ w2, wr.drew = w2 := ⟨_, rfl⟩
        rw [hw2]
        have e1' : w2.cell? ⟨b, off + k, none⟩ = some (.int .u8 q) := by rw [← hw2]; exact e1
        have c2' : w2.cell? ⟨w.heap.size, 2, none⟩ = some (.int .u64 h) := by rw [← hw2]; exact c2
        have f2' : w2.frozen? ⟨w.heap.size, 2, none⟩ = false := by rw [← hw2]; exact f2
        have HW2 := Lib.hid hw2
        clear e1 c2 f2 hw2
        go_wp2
        have hb2 : Below w.heap.size w w2 := by rw [← HW2.out]; exact HBL.out.drew
        refine ⟨⟨k + 1, _, by omega, by omega, rfl, sr_set2 (w := w2) (by rw [← HW2.out]; exact HH.out) _, Below.setCell hb2 (Nat.le_refl _) _⟩, ?_⟩
        simp only [intOf]
        omega
      · clear hh hbel
        go_wp2
        go_ret
        exact ⟨rfl, HBL.out, hn, HB.out.below HBL.out, 0, h, by omega, HH.out⟩
    · clear hh hbel
      go_wp2
      go_ret
      exact ⟨rfl, HBL.out, hn, HB.out.below HBL.out, 0, h, by omega, HH.out⟩
end Go.Proofs.Ytibmkmcdggokbaa
