/-
  What a law over a code of bytes wants: the bytes that came in, the source's block over calls; lists of points compared (own work).
-/
import Derived.Test.YtibmkmcdggokbaaDrw2
import Derived.Test.YtibmkmcdggokbaaRow
import Derived.Test.YtibmkmcdggokbaaBlk
import Derived.Test.YtibmkmcdggokbaaPtM
import Derived.Test.YtibmkmcdggokbaaRowP
import Derived.Deep.DeepCutAuto
import Derived.OpenShut
namespace Go.Proofs.Ytibmkmcdggokbaa
open Go.ChangeShapes Go.WideShapes Go.ChangeAt Go.RowKit
set_option linter.unusedVariables false
set_option linter.unusedSimpArgs false
set_option maxRecDepth 100000

theorem grown_of_below {w w' : World} (hb : Below w.heap.size w w') (row : Option Nat) : w.grownBy w' row := ⟨hb.os, hb.tape, hb.output, hb.size, fun i hi _ => hb.block i hi⟩
theorem Sr.below {w w' : World} {s : Nat} {a : Option Addr} {n cap : Nat} (h : Sr w s a n cap) (hb : Below w.heap.size w w') : Sr w' s a n cap := h.kept (grown_of_below hb none) (fun k e => by cases e)
theorem Bk2.grows {w w' : World} {g : Nat} {r : Option Nat} {a b : Int} (h : Bk2 w g a b) (hg : w.grownBy w' r) (hne : r ≠ some g) : Bk2 w' g a b := h.same (hg.block g h.2.2 (fun e => hne e.symm))
theorem Byt.mono {w : World} {s s' : Nat} {a : Option Addr} {n : Nat} (h : Byt w s a n) (hs : s ≤ s') : Byt w s' a n := by
  intro hn
  obtain ⟨b, off, e, hb, hc⟩ := h hn
  exact ⟨b, off, e, by omega, hc⟩
theorem Byt.over {w w' : World} {a : Option Addr} {n : Nat} (h : Byt w w.heap.size a n) (hb : Below w.heap.size w w') : Byt w' w'.heap.size a n := (h.below hb).mono hb.size
theorem byt_of_row {w : World} {a : Option Addr} {len cap : Nat} {zs : List Int} (h : IsRow .u8 w a len cap zs) : Byt w w.heap.size a len := by
  intro hp
  rcases h with ⟨_, hl, _⟩ | ⟨x, rfl, hl, _, hz, hc, hw⟩
  · omega
  · obtain ⟨b, off, rfl, hc'⟩ := ints_at hc (by omega)
    refine ⟨b, off, rfl, World.block_lt_of_cell? w _ (hc' 0 (by omega)), fun j hj => ⟨zs.getD j 0, ?_, ?_, hc' j (by omega)⟩⟩
    · have := hw (zs.getD j 0) (by rw [List.getD_eq_getElem?_getD, List.getElem?_eq_getElem (by omega)]; exact List.getElem_mem _)
      have := bounds_u8 this
      omega
    · have := hw (zs.getD j 0) (by rw [List.getD_eq_getElem?_getD, List.getElem?_eq_getElem (by omega)]; exact List.getElem_mem _)
      have := bounds_u8 this
      omega
set_option maxHeartbeats 1600000 in
theorem points9_same (B1 B2 : Nat) (v1 v2 : Value) (n : Nat) (zs : List Int) (w : World) (h1 : OwnF B1 w v1 n zs) (h2 : OwnF B2 w v2 n zs) (hx : n ≤ 140737488351232) :
    Calls Try.prog 8 #[v1, v2] w fun e w' => e = .returned (.bool true) ∧ Below w.heap.size w w' := by
  obtain ⟨a1, c1, rfl, f1⟩ := own_viewF h1
  obtain ⟨a2, c2, rfl, f2⟩ := own_viewF h2
  clear h1 h2
  by_cases hz : n = 0
  · subst hz
    clear f1 f2
    go_enter Try.func8, Try.ntmps8
    go_wp2
    refine wp_loop_rounds 1 ?_
    rw [rounds_succ]
    go_wp2
    go_ret
    exact ⟨rfl, by (repeat' (first | (with_reducible exact Below.refl _ _) | (with_reducible refine Below.alloc ?_ ?_ _) | (with_reducible refine Below.setCell ?_ ?_ _) | (with_reducible refine Below.drew ?_) | (with_reducible refine below_drewN ?_ _) | (with_reducible assumption) | (with_reducible refine below_after (by with_reducible assumption) ?_) | go_size))⟩
  · obtain ⟨g1, rfl, _, hg1, hc1, _⟩ := f1 (by omega)
    obtain ⟨g2, rfl, _, hg2, hc2, _⟩ := f2 (by omega)
    have HC1 := Lib.hid hc1
    have HC2 := Lib.hid hc2
    clear f1 f2 hc1 hc2 hz
    go_enter Try.func8, Try.ntmps8
    go_wp2
    go_loopw [5] (fun i wr => ∃ k : Nat, k ≤ n ∧ i = .int .i64 k ∧ Below w.heap.size w wr) (fun i _ => n - (intOf i).toNat)
    case atStart => exact ⟨0, by omega, by go_num, Below.refl _ _⟩
    case round =>
      obtain ⟨k, hk, rfl, hbel⟩ := hrel
      by_cases hlt : k < n
      · have e1 := (hbel.cell (p := ⟨g1, k * 2, none⟩) hg1).trans (HC1.out (k * 2) (by omega))
        have e2 := (hbel.cell (p := ⟨g2, k * 2, none⟩) hg2).trans (HC2.out (k * 2) (by omega))
        have e3 := (hbel.cell (p := ⟨g1, k * 2 + 1, none⟩) hg1).trans (HC1.out (k * 2 + 1) (by omega))
        have e4 := (hbel.cell (p := ⟨g2, k * 2 + 1, none⟩) hg2).trans (HC2.out (k * 2 + 1) (by omega))
        obtain ⟨x, hx0⟩ : ∃ x, zs.getD (k * 2) 0 = x := ⟨_, rfl⟩
        obtain ⟨y, hy0⟩ : ∃ x, zs.getD (k * 2 + 1) 0 = x := ⟨_, rfl⟩
        rw [hx0] at e1 e2
        rw [hy0] at e3 e4
        clear hx0 hy0
        have he : ∀ w, (Op.equalIn 10000 31 (.agg #[.int .i64 x, .int .i64 y]) (.agg #[.int .i64 x, .int .i64 y])).run Try.prog w = .ok true w := fun w => by rw [eq_pt]; simp
        have i0 : (0 : Int) ≤ (k : Int) := by omega
        have i1 : (k : Int) < (n : Int) := by omega
        go_wp2
        go_quiet (fail)
        go_wp2
        go_roundw
        case rel => exact ⟨k + 1, by omega, by go_num, by (repeat' (first | (with_reducible exact Below.refl _ _) | (with_reducible refine Below.alloc ?_ ?_ _) | (with_reducible refine Below.setCell ?_ ?_ _) | (with_reducible refine Below.drew ?_) | (with_reducible refine below_drewN ?_ _) | (with_reducible assumption) | (with_reducible refine below_after (by with_reducible assumption) ?_) | go_size))⟩
        case measure => simp [intOf]; omega
      · have hge : ¬ (k : Int) < (n : Int) := by omega
        go_wp2
        go_ret
        exact ⟨rfl, by (repeat' (first | (with_reducible exact Below.refl _ _) | (with_reducible refine Below.alloc ?_ ?_ _) | (with_reducible refine Below.setCell ?_ ?_ _) | (with_reducible refine Below.drew ?_) | (with_reducible refine below_drewN ?_ _) | (with_reducible assumption) | (with_reducible refine below_after (by with_reducible assumption) ?_) | go_size))⟩
end Go.Proofs.Ytibmkmcdggokbaa
