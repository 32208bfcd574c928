/-
  The program's helpers on lists of spots, cones and tetrahedra (own work).
-/
import Derived.Test.YtjjblgmokmalaaaSpA
import Derived.Test.YtjjblgmokmalaaaSpC
import Derived.Test.YtjjblgmokmalaaaSpF
namespace Go.Proofs.Ytjjblgmokmalaaa
open Go.ChangeShapes Go.WideShapes Go.ChangeAt Go.RowKit
set_option linter.unusedVariables false
set_option linter.unusedSimpArgs false
set_option maxRecDepth 100000

/-- The cells of a list of spots. -/
def SpC (w : World) (b off : Nat) (ps : List (Int × Int × Int)) : Prop := ∀ i, i < ps.length → w.cell? ⟨b, off + i * 3, none⟩ = some (.int .i64 (ps.getD i (0, 0, 0)).1) ∧ w.cell? ⟨b, off + i * 3 + 1, none⟩ = some (.int .i64 (ps.getD i (0, 0, 0)).2.1) ∧ w.cell? ⟨b, off + i * 3 + 1 + 1, none⟩ = some (.int .i64 (ps.getD i (0, 0, 0)).2.2)
def sp3 (p : Int × Int × Int) : Bool := isSp p.1 p.2.1 p.2.2
theorem areSpots_any (ps : List (Int × Int × Int)) (b off cap : Nat) (w : World) (hb : b < w.heap.size) (hmax : ps.length ≤ 1000000) (hc : SpC w b off ps) :
    Calls Try.prog 17 #[.slice (some ⟨b, off, none⟩) ps.length cap] w fun e w' => e = .returned (.bool (ps.all sp3)) ∧ Below w.heap.size w w' := by
  obtain ⟨n, hn⟩ : ∃ n, n = ps.length := ⟨_, rfl⟩
  rw [← hn] at hmax ⊢
  have HN := Lib.hid hn
  clear hn
  have HC := Lib.hid hc
  clear hc
  go_enter Try.func17, Try.ntmps17
  go_wp2
  go_loopw [7] (fun i wr => ∃ k : Nat, k ≤ n ∧ i = .int .i64 k ∧ (ps.take k).all sp3 = true ∧ Below w.heap.size w wr) (fun i _ => n - (intOf i).toNat)
  case atStart => exact ⟨0, by omega, rfl, rfl, Below.refl _ _⟩
  case round =>
    obtain ⟨k, hk, rfl, hall, hbel⟩ := hrel
    have HA := Lib.hid hall
    clear hall
    by_cases hlt : k < n
    · have hk' : k < ps.length := by rw [← HN.out]; exact hlt
      have h2 := HC.out k hk'
      obtain ⟨x, y, z, hxy⟩ : ∃ x y z, ps.getD k (0, 0, 0) = (x, y, z) := ⟨_, _, _, rfl⟩
      rw [hxy] at h2
      have hc0 := (hbel.cell (p := ⟨b, off + k * 3, none⟩) hb).trans h2.1
      have hc1 := (hbel.cell (p := ⟨b, off + k * 3 + 1, none⟩) hb).trans h2.2.1
      have hc2 := (hbel.cell (p := ⟨b, off + k * 3 + 1 + 1, none⟩) hb).trans h2.2.2
      have hget : ps[k] = (x, y, z) := by rw [← hxy]; simp [List.getD, hk']
      have HT : Hid ((ps.take (k + 1)).all sp3 = isSp x y z) := by
        show (ps.take (k + 1)).all sp3 = isSp x y z
        rw [List.take_succ_eq_append_getElem hk', List.all_append, HA.out, hget]; simp [sp3]
      have HG : Hid ((x, y, z) ∈ ps) := by
        show (x, y, z) ∈ ps
        rw [← hget]; exact List.getElem_mem hk'
      have hsz := hbel.size
      clear hxy h2 hget hk'
      cases hp : isSp x y z
      · have HP : Hid (∀ w, Calls Try.prog 8 #[.agg #[.int .i64 x, .int .i64 y, .int .i64 z]] w fun e w' => e = .returned (.bool false) ∧ Below w.heap.size w w') := fun w => by have := impl_IsSpot_any x y z w; rwa [hp] at this
        go_wp2_with (go_at_call 8; refine (HP.out _).mono ?_; rintro e w' ⟨rfl, hb1⟩)
        go_ret
        refine ⟨?_, ?_⟩
        · have : ps.all sp3 = false := by
            rw [List.all_eq_false]
            exact ⟨_, HG.out, by unfold sp3; rw [hp]; simp⟩
          rw [this]; rfl
        · exact below_after hb1 (by (repeat' (first | (with_reducible exact Below.refl _ _) | (with_reducible refine Below.alloc ?_ ?_ _) | (with_reducible refine Below.setCell ?_ ?_ _) | (with_reducible refine Below.drew ?_) | (with_reducible refine below_drewN ?_ _) | (with_reducible assumption) | (with_reducible refine below_after (by with_reducible assumption) ?_) | go_size)))
      · have HP : Hid (∀ w, Calls Try.prog 8 #[.agg #[.int .i64 x, .int .i64 y, .int .i64 z]] w fun e w' => e = .returned (.bool true) ∧ Below w.heap.size w w') := fun w => by have := impl_IsSpot_any x y z w; rwa [hp] at this
        go_wp2_with (go_at_call 8; refine (HP.out _).mono ?_; rintro e w' ⟨rfl, hb1⟩)
        go_roundw
        case rel => exact ⟨k + 1, by omega, by go_num, by rw [HT.out, hp], below_after hb1 (by (repeat' (first | (with_reducible exact Below.refl _ _) | (with_reducible refine Below.alloc ?_ ?_ _) | (with_reducible refine Below.setCell ?_ ?_ _) | (with_reducible refine Below.drew ?_) | (with_reducible refine below_drewN ?_ _) | (with_reducible assumption) | (with_reducible refine below_after (by with_reducible assumption) ?_) | go_size)))⟩
        case measure => simp [intOf]; omega
    · have hge : n ≤ k := by omega
      clear hlt
      go_wp2
      go_ret
      refine ⟨?_, hbel⟩
      have := HA.out
      rw [List.take_of_length_le (by rw [← HN.out]; exact hge)] at this
      rw [this]; rfl
theorem spC_bk3 {w : World} {g : Nat} {a b c : Int} (h0 : w.cell? ⟨g, 0, none⟩ = some (.int .i64 a)) (h1 : w.cell? ⟨g, 1, none⟩ = some (.int .i64 b)) (h2 : w.cell? ⟨g, 2, none⟩ = some (.int .i64 c)) : SpC w g 0 [(a, b, c)] := by
  intro i hi
  obtain rfl : i = 0 := by simp at hi; omega
  exact ⟨h0, h1, h2⟩
theorem spC_2 {w : World} {g : Nat} {v0 v1 v2 v3 v4 v5 : Int} (h0 : w.cell? ⟨g, 0, none⟩ = some (.int .i64 v0)) (h1 : w.cell? ⟨g, 1, none⟩ = some (.int .i64 v1)) (h2 : w.cell? ⟨g, 2, none⟩ = some (.int .i64 v2)) (h3 : w.cell? ⟨g, 3, none⟩ = some (.int .i64 v3)) (h4 : w.cell? ⟨g, 4, none⟩ = some (.int .i64 v4)) (h5 : w.cell? ⟨g, 5, none⟩ = some (.int .i64 v5)) : SpC w g 0 [(v0, v1, v2), (v3, v4, v5)] := by
  intro i hi
  have hi4 : i = 0 ∨ i = 1 := by simp at hi; omega
  rcases hi4 with rfl | rfl
  · exact ⟨h0, h1, h2⟩
  · exact ⟨h3, h4, h5⟩
theorem spC_3 {w : World} {g : Nat} {v0 v1 v2 v3 v4 v5 v6 v7 v8 : Int} (h0 : w.cell? ⟨g, 0, none⟩ = some (.int .i64 v0)) (h1 : w.cell? ⟨g, 1, none⟩ = some (.int .i64 v1)) (h2 : w.cell? ⟨g, 2, none⟩ = some (.int .i64 v2)) (h3 : w.cell? ⟨g, 3, none⟩ = some (.int .i64 v3)) (h4 : w.cell? ⟨g, 4, none⟩ = some (.int .i64 v4)) (h5 : w.cell? ⟨g, 5, none⟩ = some (.int .i64 v5)) (h6 : w.cell? ⟨g, 6, none⟩ = some (.int .i64 v6)) (h7 : w.cell? ⟨g, 7, none⟩ = some (.int .i64 v7)) (h8 : w.cell? ⟨g, 8, none⟩ = some (.int .i64 v8)) : SpC w g 0 [(v0, v1, v2), (v3, v4, v5), (v6, v7, v8)] := by
  intro i hi
  have hi4 : i = 0 ∨ i = 1 ∨ i = 2 := by simp at hi; omega
  rcases hi4 with rfl | rfl | rfl
  · exact ⟨h0, h1, h2⟩
  · exact ⟨h3, h4, h5⟩
  · exact ⟨h6, h7, h8⟩
theorem spC_4 {w : World} {g : Nat} {v0 v1 v2 v3 v4 v5 v6 v7 v8 v9 v10 v11 : Int} (h0 : w.cell? ⟨g, 0, none⟩ = some (.int .i64 v0)) (h1 : w.cell? ⟨g, 1, none⟩ = some (.int .i64 v1)) (h2 : w.cell? ⟨g, 2, none⟩ = some (.int .i64 v2)) (h3 : w.cell? ⟨g, 3, none⟩ = some (.int .i64 v3)) (h4 : w.cell? ⟨g, 4, none⟩ = some (.int .i64 v4)) (h5 : w.cell? ⟨g, 5, none⟩ = some (.int .i64 v5)) (h6 : w.cell? ⟨g, 6, none⟩ = some (.int .i64 v6)) (h7 : w.cell? ⟨g, 7, none⟩ = some (.int .i64 v7)) (h8 : w.cell? ⟨g, 8, none⟩ = some (.int .i64 v8)) (h9 : w.cell? ⟨g, 9, none⟩ = some (.int .i64 v9)) (h10 : w.cell? ⟨g, 10, none⟩ = some (.int .i64 v10)) (h11 : w.cell? ⟨g, 11, none⟩ = some (.int .i64 v11)) : SpC w g 0 [(v0, v1, v2), (v3, v4, v5), (v6, v7, v8), (v9, v10, v11)] := by
  intro i hi
  have hi4 : i = 0 ∨ i = 1 ∨ i = 2 ∨ i = 3 := by simp at hi; omega
  rcases hi4 with rfl | rfl | rfl | rfl
  · exact ⟨h0, h1, h2⟩
  · exact ⟨h3, h4, h5⟩
  · exact ⟨h6, h7, h8⟩
  · exact ⟨h9, h10, h11⟩
theorem areSpots_1 (v0 v1 v2 : Int) (k : Bool) (g cap : Nat) (w : World) (hk : (isSp v0 v1 v2) = k) (hg : g < w.heap.size) (h0 : w.cell? ⟨g, 0, none⟩ = some (.int .i64 v0)) (h1 : w.cell? ⟨g, 1, none⟩ = some (.int .i64 v1)) (h2 : w.cell? ⟨g, 2, none⟩ = some (.int .i64 v2)) :
    Calls Try.prog 17 #[.slice (some ⟨g, 0, none⟩) 1 cap] w fun e w' => e = .returned (.bool k) ∧ Below w.heap.size w w' := by
  have h := areSpots_any [(v0, v1, v2)] g 0 cap w hg (by simp) (spC_bk3 h0 h1 h2)
  rw [show [(v0, v1, v2)].all sp3 = k by rw [← hk]; simp [sp3, Bool.and_assoc]] at h
  exact h
theorem areSpots_2 (v0 v1 v2 v3 v4 v5 : Int) (k : Bool) (g cap : Nat) (w : World) (hk : (isSp v0 v1 v2 && isSp v3 v4 v5) = k) (hg : g < w.heap.size) (h0 : w.cell? ⟨g, 0, none⟩ = some (.int .i64 v0)) (h1 : w.cell? ⟨g, 1, none⟩ = some (.int .i64 v1)) (h2 : w.cell? ⟨g, 2, none⟩ = some (.int .i64 v2)) (h3 : w.cell? ⟨g, 3, none⟩ = some (.int .i64 v3)) (h4 : w.cell? ⟨g, 4, none⟩ = some (.int .i64 v4)) (h5 : w.cell? ⟨g, 5, none⟩ = some (.int .i64 v5)) :
    Calls Try.prog 17 #[.slice (some ⟨g, 0, none⟩) 2 cap] w fun e w' => e = .returned (.bool k) ∧ Below w.heap.size w w' := by
  have h := areSpots_any [(v0, v1, v2), (v3, v4, v5)] g 0 cap w hg (by simp) (spC_2 h0 h1 h2 h3 h4 h5)
  rw [show [(v0, v1, v2), (v3, v4, v5)].all sp3 = k by rw [← hk]; simp [sp3, Bool.and_assoc]] at h
  exact h
theorem areSpots_3 (v0 v1 v2 v3 v4 v5 v6 v7 v8 : Int) (k : Bool) (g cap : Nat) (w : World) (hk : (isSp v0 v1 v2 && isSp v3 v4 v5 && isSp v6 v7 v8) = k) (hg : g < w.heap.size) (h0 : w.cell? ⟨g, 0, none⟩ = some (.int .i64 v0)) (h1 : w.cell? ⟨g, 1, none⟩ = some (.int .i64 v1)) (h2 : w.cell? ⟨g, 2, none⟩ = some (.int .i64 v2)) (h3 : w.cell? ⟨g, 3, none⟩ = some (.int .i64 v3)) (h4 : w.cell? ⟨g, 4, none⟩ = some (.int .i64 v4)) (h5 : w.cell? ⟨g, 5, none⟩ = some (.int .i64 v5)) (h6 : w.cell? ⟨g, 6, none⟩ = some (.int .i64 v6)) (h7 : w.cell? ⟨g, 7, none⟩ = some (.int .i64 v7)) (h8 : w.cell? ⟨g, 8, none⟩ = some (.int .i64 v8)) :
    Calls Try.prog 17 #[.slice (some ⟨g, 0, none⟩) 3 cap] w fun e w' => e = .returned (.bool k) ∧ Below w.heap.size w w' := by
  have h := areSpots_any [(v0, v1, v2), (v3, v4, v5), (v6, v7, v8)] g 0 cap w hg (by simp) (spC_3 h0 h1 h2 h3 h4 h5 h6 h7 h8)
  rw [show [(v0, v1, v2), (v3, v4, v5), (v6, v7, v8)].all sp3 = k by rw [← hk]; simp [sp3, Bool.and_assoc]] at h
  exact h
theorem areSpots_4 (v0 v1 v2 v3 v4 v5 v6 v7 v8 v9 v10 v11 : Int) (k : Bool) (g cap : Nat) (w : World) (hk : (isSp v0 v1 v2 && isSp v3 v4 v5 && isSp v6 v7 v8 && isSp v9 v10 v11) = k) (hg : g < w.heap.size) (h0 : w.cell? ⟨g, 0, none⟩ = some (.int .i64 v0)) (h1 : w.cell? ⟨g, 1, none⟩ = some (.int .i64 v1)) (h2 : w.cell? ⟨g, 2, none⟩ = some (.int .i64 v2)) (h3 : w.cell? ⟨g, 3, none⟩ = some (.int .i64 v3)) (h4 : w.cell? ⟨g, 4, none⟩ = some (.int .i64 v4)) (h5 : w.cell? ⟨g, 5, none⟩ = some (.int .i64 v5)) (h6 : w.cell? ⟨g, 6, none⟩ = some (.int .i64 v6)) (h7 : w.cell? ⟨g, 7, none⟩ = some (.int .i64 v7)) (h8 : w.cell? ⟨g, 8, none⟩ = some (.int .i64 v8)) (h9 : w.cell? ⟨g, 9, none⟩ = some (.int .i64 v9)) (h10 : w.cell? ⟨g, 10, none⟩ = some (.int .i64 v10)) (h11 : w.cell? ⟨g, 11, none⟩ = some (.int .i64 v11)) :
    Calls Try.prog 17 #[.slice (some ⟨g, 0, none⟩) 4 cap] w fun e w' => e = .returned (.bool k) ∧ Below w.heap.size w w' := by
  have h := areSpots_any [(v0, v1, v2), (v3, v4, v5), (v6, v7, v8), (v9, v10, v11)] g 0 cap w hg (by simp) (spC_4 h0 h1 h2 h3 h4 h5 h6 h7 h8 h9 h10 h11)
  rw [show [(v0, v1, v2), (v3, v4, v5), (v6, v7, v8), (v9, v10, v11)].all sp3 = k by rw [← hk]; simp [sp3, Bool.and_assoc]] at h
  exact h
theorem determinantOfRays_any (c0 c1 c2 c3 c4 c5 c6 c7 c8 : Int) (w : World) (h0 : W3 100000 c0 c1 c2) (h1 : W3 100000 c3 c4 c5) (h2 : W3 100000 c6 c7 c8) :
    Calls Try.prog 18 #[.agg #[.int .i64 c0, .int .i64 c1, .int .i64 c2, .int .i64 c3, .int .i64 c4, .int .i64 c5, .int .i64 c6, .int .i64 c7, .int .i64 c8]] w fun e w' => e = .returned (.int .i64 (detV c0 c1 c2 c3 c4 c5 c6 c7 c8)) ∧ Below w.heap.size w w' := by
  have HW0 : Hid (W3 1000000 c0 c1 c2) := h0.up (by omega)
  have HW1 : Hid (W3 1000000 c3 c4 c5) := h1.up (by omega)
  have HW2 : Hid (W3 1000000 c6 c7 c8) := h2.up (by omega)
  have HCR : Hid (W3 100000000000 (crX c3 c4 c5 c6 c7 c8) (crY c3 c4 c5 c6 c7 c8) (crZ c3 c4 c5 c6 c7 c8)) := (h1.cr h2).up (by omega)
  clear h0 h1 h2
  obtain ⟨GC, hG⟩ : ∃ G, w.heap.size = G := ⟨_, rfl⟩
  have HG := Lib.hid hG
  go_enter Try.func18, Try.ntmps18
  go_upto_region 1 with fail
  obtain ⟨w0, hw0⟩ : ∃ w0, w0 = (w.alloc (.cells #[.int .i64 c0, .int .i64 c1, .int .i64 c2, .int .i64 c3, .int .i64 c4, .int .i64 c5, .int .i64 c6, .int .i64 c7, .int .i64 c8] 30)) := ⟨_, rfl⟩
  rw [← hw0]
  have HC : Hid (Bk9 w0 GC c0 c1 c2 c3 c4 c5 c6 c7 c8) := by
    have h := (bk9_new w c0 c1 c2 c3 c4 c5 c6 c7 c8 30).below (W' := (w.alloc (.cells #[.int .i64 c0, .int .i64 c1, .int .i64 c2, .int .i64 c3, .int .i64 c4, .int .i64 c5, .int .i64 c6, .int .i64 c7, .int .i64 c8] 30))) (by (repeat' (first | (with_reducible exact Below.refl _ _) | (with_reducible refine Below.alloc ?_ ?_ _) | (with_reducible refine Below.setCell ?_ ?_ _) | (with_reducible refine Below.drew ?_) | (with_reducible refine below_drewN ?_ _) | (with_reducible assumption) | (with_reducible refine below_after (by with_reducible assumption) ?_) | go_size)))
    (try simp only [World.size_alloc] at h)
    rw [hG] at h
    rw [hw0]; exact h
  have HB : Hid (Below w.heap.size w w0) := by show Below w.heap.size w w0; rw [hw0]; (repeat' (first | (with_reducible exact Below.refl _ _) | (with_reducible refine Below.alloc ?_ ?_ _) | (with_reducible refine Below.setCell ?_ ?_ _) | (with_reducible refine Below.drew ?_) | (with_reducible refine below_drewN ?_ _) | (with_reducible assumption) | (with_reducible refine below_after (by with_reducible assumption) ?_) | go_size))
  clear hw0
  have le_C : w.heap.size ≤ GC := by omega
  have HXX : Hid (∀ W, Below w0.heap.size w0 W → Bk9 W GC c0 c1 c2 c3 c4 c5 c6 c7 c8) := fun W hW => HC.out.below hW
  go_wp2_with fail
  refine wp_region_held_drew (S := fun W => Below w0.heap.size w0 W) (by kernel_rfl) ?_ (fun hHeld => ?_); focus ((try dsimp only); exact (Below.refl _ _).drew)
  have HC := Lib.hid (HC.out.below (Below.drew (Below.refl _ _)))
  have hHeld : Below w0.heap.size w0 _ := hHeld
  obtain ⟨wD0, hwD0⟩ : ∃ wD, w0.drew = wD := ⟨_, rfl⟩
  rw [hwD0] at hHeld HC ⊢
  clear hwD0
  (refine wpAnyH_take (i := 0) (v := ?_) rfl (by kernel_rfl) (by kernel_rfl) (by kernel_rfl) (fun _ _ _ h => h) (Or.inl ⟨rfl, ?_⟩) (by assumption) ?_; rotate_left; focus (intro W hSw; (try dsimp only at hSw); have hxx := HXX.out _ hSw; have hxC := hxx; obtain ⟨⟨iC0, iC1, iC2, iC3, iC4, iC5, iC6, iC7, iC8⟩, _, _⟩ := hxC; go_simp; try (with_reducible rfl))); (try simp only [Act.put, List.getElem_toArray, List.getElem_cons_succ, List.getElem_cons_zero, List.setIfInBounds_toArray, List.set_cons_zero, List.set_cons_succ])
  (refine wpAnyH_take (i := 1) (v := ?_) rfl (by kernel_rfl) (by kernel_rfl) (by kernel_rfl) (fun _ _ _ h => h) (Or.inl ⟨rfl, ?_⟩) (by assumption) ?_; rotate_left; focus (intro W hSw; (try dsimp only at hSw); have hxx := HXX.out _ hSw; have hxC := hxx; obtain ⟨⟨iC0, iC1, iC2, iC3, iC4, iC5, iC6, iC7, iC8⟩, _, _⟩ := hxC; go_simp; try (with_reducible rfl))); (try simp only [Act.put, List.getElem_toArray, List.getElem_cons_succ, List.getElem_cons_zero, List.setIfInBounds_toArray, List.set_cons_zero, List.set_cons_succ])
  (refine wpAnyH_take (i := 2) (v := ?_) rfl (by kernel_rfl) (by kernel_rfl) (by kernel_rfl) (fun _ _ _ h => h) (Or.inl ⟨rfl, ?_⟩) (by assumption) ?_; rotate_left; focus (intro W hSw; (try dsimp only at hSw); have hxx := HXX.out _ hSw; have hxC := hxx; obtain ⟨⟨iC0, iC1, iC2, iC3, iC4, iC5, iC6, iC7, iC8⟩, _, _⟩ := hxC; go_simp; try (with_reducible rfl))); (try simp only [Act.put, List.getElem_toArray, List.getElem_cons_succ, List.getElem_cons_zero, List.setIfInBounds_toArray, List.set_cons_zero, List.set_cons_succ])
  (refine wpAnyH_take (i := 3) (v := ?_) rfl (by kernel_rfl) (by kernel_rfl) (by kernel_rfl) (fun _ _ _ h => h) (Or.inl ⟨rfl, ?_⟩) (by assumption) ?_; rotate_left; focus (intro W hSw; (try dsimp only at hSw); have hxx := HXX.out _ hSw; have hxC := hxx; obtain ⟨⟨iC0, iC1, iC2, iC3, iC4, iC5, iC6, iC7, iC8⟩, _, _⟩ := hxC; go_simp; try (with_reducible rfl))); (try simp only [Act.put, List.getElem_toArray, List.getElem_cons_succ, List.getElem_cons_zero, List.setIfInBounds_toArray, List.set_cons_zero, List.set_cons_succ])
  (refine wpAnyH_take (i := 4) (v := ?_) rfl (by kernel_rfl) (by kernel_rfl) (by kernel_rfl) (fun _ _ _ h => h) (Or.inl ⟨rfl, ?_⟩) (by assumption) ?_; rotate_left; focus (intro W hSw; (try dsimp only at hSw); have hxx := HXX.out _ hSw; have hxC := hxx; obtain ⟨⟨iC0, iC1, iC2, iC3, iC4, iC5, iC6, iC7, iC8⟩, _, _⟩ := hxC; go_simp; try (with_reducible rfl))); (try simp only [Act.put, List.getElem_toArray, List.getElem_cons_succ, List.getElem_cons_zero, List.setIfInBounds_toArray, List.set_cons_zero, List.set_cons_succ])
  (refine wpAnyH_take (i := 5) (v := ?_) rfl (by kernel_rfl) (by kernel_rfl) (by kernel_rfl) (fun _ _ _ h => h) (Or.inl ⟨rfl, ?_⟩) (by assumption) ?_; rotate_left; focus (intro W hSw; (try dsimp only at hSw); have hxx := HXX.out _ hSw; have hxC := hxx; obtain ⟨⟨iC0, iC1, iC2, iC3, iC4, iC5, iC6, iC7, iC8⟩, _, _⟩ := hxC; go_simp; try (with_reducible rfl))); (try simp only [Act.put, List.getElem_toArray, List.getElem_cons_succ, List.getElem_cons_zero, List.setIfInBounds_toArray, List.set_cons_zero, List.set_cons_succ])
  refine wpAnyH_ready (rs := [6]) (by kernel_rfl) (by simp) ?_; refine AllReadyH.cons rfl (fun K hK => ?_) AllReadyH.nil
  go_simp; (go_at_call 25; refine (crossOf_any _ _ _ _ _ _ _ HW1.out HW2.out).mono ?_; rintro en ywr0x0 ⟨rfl, hb2⟩); have HC := Lib.hid (HC.out.below hb2); refine hK.out _ _ (below_after hb2 hHeld) (fun hHeld2 => ?_); clear hb2; (clear hHeld; rename _ => hHeld; clear hK K; have hHeld : Below w0.heap.size w0 _ := hHeld); (try simp only [Act.put, List.getElem_toArray, List.getElem_cons_succ, List.getElem_cons_zero, List.setIfInBounds_toArray, List.set_cons_zero, List.set_cons_succ])
  refine wpAnyH_ready (rs := [7]) (by kernel_rfl) (by simp) ?_; refine AllReadyH.cons rfl (fun K hK => ?_) AllReadyH.nil
  go_simp; (go_at_call 24; refine (productOf_any _ _ _ _ _ _ _ HW0.out HCR.out).mono ?_; rintro en ywr0x1 ⟨rfl, hb2⟩); have HC := Lib.hid (HC.out.below hb2); refine hK.out _ _ (below_after hb2 hHeld) (fun hHeld2 => ?_); clear hb2; (clear hHeld; rename _ => hHeld; clear hK K; have hHeld : Below w0.heap.size w0 _ := hHeld); (try simp only [Act.put, List.getElem_toArray, List.getElem_cons_succ, List.getElem_cons_zero, List.setIfInBounds_toArray, List.set_cons_zero, List.set_cons_succ])
  (refine wpAnyH_take (i := 8) (v := ?_) rfl (by kernel_rfl) (by kernel_rfl) (by kernel_rfl) (fun _ _ _ h => h) (Or.inl ⟨rfl, ?_⟩) (by assumption) ?_; rotate_left; focus (intro W hSw; (try dsimp only at hSw); have hxx := HXX.out _ hSw; have hxC := hxx; obtain ⟨⟨iC0, iC1, iC2, iC3, iC4, iC5, iC6, iC7, iC8⟩, _, _⟩ := hxC; go_simp; try (with_reducible rfl))); (try simp only [Act.put, List.getElem_toArray, List.getElem_cons_succ, List.getElem_cons_zero, List.setIfInBounds_toArray, List.set_cons_zero, List.set_cons_succ])
  refine wpAnyH_done (by kernel_rfl) ?_ _
  have HB := Lib.hid (HB.out.trans (hHeld.mono HB.out.size))
  clear hHeld HXX
  obtain ⟨⟨qC0, qC1, qC2, qC3, qC4, qC5, qC6, qC7, qC8⟩, ⟨fC0, fC1, fC2, fC3, fC4, fC5, fC6, fC7, fC8⟩, zC⟩ := HC.out
  go_wp2_with fail
  refine bodyPost_ret (v := .int .i64 (dotV c0 c1 c2 (crX c3 c4 c5 c6 c7 c8) (crY c3 c4 c5 c6 c7 c8) (crZ c3 c4 c5 c6 c7 c8))) (by simp (maxDischargeDepth := 8) [results, Try.results18, go_sem, *]) rfl ?_
  have hb := HB.out
  exact ⟨rfl, by (repeat' (first | (with_reducible exact Below.refl _ _) | (with_reducible refine Below.alloc ?_ ?_ _) | (with_reducible refine Below.setCell ?_ ?_ _) | (with_reducible refine Below.drew ?_) | (with_reducible refine below_drewN ?_ _) | (with_reducible assumption) | (with_reducible refine below_after (by with_reducible assumption) ?_) | go_size))⟩
theorem sizeOf_any (c0 c1 c2 c3 c4 c5 c6 c7 c8 : Int) (w : World) (h0 : W3 100000 c0 c1 c2) (h1 : W3 100000 c3 c4 c5) (h2 : W3 100000 c6 c7 c8) :
    Calls Try.prog 20 #[.agg #[.int .i64 c0, .int .i64 c1, .int .i64 c2, .int .i64 c3, .int .i64 c4, .int .i64 c5, .int .i64 c6, .int .i64 c7, .int .i64 c8]] w fun e w' => e = .returned (.int .i64 (absI (detV c0 c1 c2 c3 c4 c5 c6 c7 c8))) ∧ Below w.heap.size w w' := by
  have HW0 := Lib.hid h0
  have HW1 := Lib.hid h1
  have HW2 := Lib.hid h2
  have HTN : Hid (Tn (detV c0 c1 c2 c3 c4 c5 c6 c7 c8)) := (h0.det h1 h2).tn (by omega)
  clear h0 h1 h2
  obtain ⟨GC, hG⟩ : ∃ G, w.heap.size = G := ⟨_, rfl⟩
  have HG := Lib.hid hG
  go_enter Try.func20, Try.ntmps20
  go_upto_region 1 with fail
  obtain ⟨w0, hw0⟩ : ∃ w0, w0 = (w.alloc (.cells #[.int .i64 c0, .int .i64 c1, .int .i64 c2, .int .i64 c3, .int .i64 c4, .int .i64 c5, .int .i64 c6, .int .i64 c7, .int .i64 c8] 30)) := ⟨_, rfl⟩
  rw [← hw0]
  have HC : Hid (Bk9 w0 GC c0 c1 c2 c3 c4 c5 c6 c7 c8) := by
    have h := (bk9_new w c0 c1 c2 c3 c4 c5 c6 c7 c8 30).below (W' := (w.alloc (.cells #[.int .i64 c0, .int .i64 c1, .int .i64 c2, .int .i64 c3, .int .i64 c4, .int .i64 c5, .int .i64 c6, .int .i64 c7, .int .i64 c8] 30))) (by (repeat' (first | (with_reducible exact Below.refl _ _) | (with_reducible refine Below.alloc ?_ ?_ _) | (with_reducible refine Below.setCell ?_ ?_ _) | (with_reducible refine Below.drew ?_) | (with_reducible refine below_drewN ?_ _) | (with_reducible assumption) | (with_reducible refine below_after (by with_reducible assumption) ?_) | go_size)))
    (try simp only [World.size_alloc] at h)
    rw [hG] at h
    rw [hw0]; exact h
  have HB : Hid (Below w.heap.size w w0) := by show Below w.heap.size w w0; rw [hw0]; (repeat' (first | (with_reducible exact Below.refl _ _) | (with_reducible refine Below.alloc ?_ ?_ _) | (with_reducible refine Below.setCell ?_ ?_ _) | (with_reducible refine Below.drew ?_) | (with_reducible refine below_drewN ?_ _) | (with_reducible assumption) | (with_reducible refine below_after (by with_reducible assumption) ?_) | go_size))
  clear hw0
  have le_C : w.heap.size ≤ GC := by omega
  obtain ⟨⟨qC0, qC1, qC2, qC3, qC4, qC5, qC6, qC7, qC8⟩, ⟨fC0, fC1, fC2, fC3, fC4, fC5, fC6, fC7, fC8⟩, zC⟩ := HC.out
  go_wp2_with fail
  go_at_call 18
  refine (determinantOfRays_any _ _ _ _ _ _ _ _ _ _ HW0.out HW1.out HW2.out).mono ?_
  rintro e w1 ⟨rfl, hb⟩
  clear qC0 fC0 qC1 fC1 qC2 fC2 qC3 fC3 qC4 fC4 qC5 fC5 qC6 fC6 qC7 fC7 qC8 fC8 zC
  have HC := Lib.hid (HC.out.below hb)
  have HB := Lib.hid (below_after hb HB.out)
  clear hb
  obtain ⟨⟨qC0, qC1, qC2, qC3, qC4, qC5, qC6, qC7, qC8⟩, ⟨fC0, fC1, fC2, fC3, fC4, fC5, fC6, fC7, fC8⟩, zC⟩ := HC.out
  go_wp2_with (go_at_call 27; refine (absolute_any _ _ HTN.out).mono ?_; rintro e wn ⟨rfl, rfl⟩)
  clear qC0 fC0 qC1 fC1 qC2 fC2 qC3 fC3 qC4 fC4 qC5 fC5 qC6 fC6 qC7 fC7 qC8 fC8 zC
  obtain ⟨⟨qC0, qC1, qC2, qC3, qC4, qC5, qC6, qC7, qC8⟩, ⟨fC0, fC1, fC2, fC3, fC4, fC5, fC6, fC7, fC8⟩, zC⟩ := HC.out
  go_wp2_with fail
  refine bodyPost_ret (v := .int .i64 (absI (detV c0 c1 c2 c3 c4 c5 c6 c7 c8))) (by simp (maxDischargeDepth := 8) [results, Try.results20, go_sem, *]) rfl ?_
  have hb := HB.out
  exact ⟨rfl, by (repeat' (first | (with_reducible exact Below.refl _ _) | (with_reducible refine Below.alloc ?_ ?_ _) | (with_reducible refine Below.setCell ?_ ?_ _) | (with_reducible refine Below.drew ?_) | (with_reducible refine below_drewN ?_ _) | (with_reducible assumption) | (with_reducible refine below_after (by with_reducible assumption) ?_) | go_size))⟩
set_option maxHeartbeats 1600000 in
theorem edgesOf_any (t0 t1 t2 t3 t4 t5 t6 t7 t8 t9 t10 t11 : Int) (w : World) (h0 : W3 20 t0 t1 t2) (h1 : W3 20 t3 t4 t5) (h2 : W3 20 t6 t7 t8) (h3 : W3 20 t9 t10 t11) :
    Calls Try.prog 21 #[.agg #[.int .i64 t0, .int .i64 t1, .int .i64 t2, .int .i64 t3, .int .i64 t4, .int .i64 t5, .int .i64 t6, .int .i64 t7, .int .i64 t8, .int .i64 t9, .int .i64 t10, .int .i64 t11]] w fun e w' => e = .returned (.agg #[.int .i64 (t3 - t0), .int .i64 (t4 - t1), .int .i64 (t5 - t2), .int .i64 (t6 - t0), .int .i64 (t7 - t1), .int .i64 (t8 - t2), .int .i64 (t9 - t0), .int .i64 (t10 - t1), .int .i64 (t11 - t2)]) ∧ Below w.heap.size w w' := by
  have HU0 : Hid (W3 100000000000 t0 t1 t2) := h0.up (by omega)
  have HU1 : Hid (W3 100000000000 t3 t4 t5) := h1.up (by omega)
  have HU2 : Hid (W3 100000000000 t6 t7 t8) := h2.up (by omega)
  have HU3 : Hid (W3 100000000000 t9 t10 t11) := h3.up (by omega)
  clear h0 h1 h2 h3
  obtain ⟨GT, hG⟩ : ∃ G, w.heap.size = G := ⟨_, rfl⟩
  have HG := Lib.hid hG
  go_enter Try.func21, Try.ntmps21
  go_upto_region 1 with fail
  obtain ⟨w0, hw0⟩ : ∃ w0, w0 = ((w.alloc (.cells #[.int .i64 t0, .int .i64 t1, .int .i64 t2, .int .i64 t3, .int .i64 t4, .int .i64 t5, .int .i64 t6, .int .i64 t7, .int .i64 t8, .int .i64 t9, .int .i64 t10, .int .i64 t11] 36)).alloc (.cells #[.int .i64 0, .int .i64 0, .int .i64 0, .int .i64 0, .int .i64 0, .int .i64 0, .int .i64 0, .int .i64 0, .int .i64 0] 30)) := ⟨_, rfl⟩
  rw [← hw0]
  have HT : Hid (Bk12 w0 GT t0 t1 t2 t3 t4 t5 t6 t7 t8 t9 t10 t11) := by
    have h := (bk12_new w t0 t1 t2 t3 t4 t5 t6 t7 t8 t9 t10 t11 36).below (W' := ((w.alloc (.cells #[.int .i64 t0, .int .i64 t1, .int .i64 t2, .int .i64 t3, .int .i64 t4, .int .i64 t5, .int .i64 t6, .int .i64 t7, .int .i64 t8, .int .i64 t9, .int .i64 t10, .int .i64 t11] 36)).alloc (.cells #[.int .i64 0, .int .i64 0, .int .i64 0, .int .i64 0, .int .i64 0, .int .i64 0, .int .i64 0, .int .i64 0, .int .i64 0] 30))) (by (repeat' (first | (with_reducible exact Below.refl _ _) | (with_reducible refine Below.alloc ?_ ?_ _) | (with_reducible refine Below.setCell ?_ ?_ _) | (with_reducible refine Below.drew ?_) | (with_reducible refine below_drewN ?_ _) | (with_reducible assumption) | (with_reducible refine below_after (by with_reducible assumption) ?_) | go_size)))
    (try simp only [World.size_alloc] at h)
    rw [hG] at h
    rw [hw0]; exact h
  have HR : Hid (Bk9 w0 (GT + 1) 0 0 0 0 0 0 0 0 0) := by
    have h := (bk9_new (w.alloc (.cells #[.int .i64 t0, .int .i64 t1, .int .i64 t2, .int .i64 t3, .int .i64 t4, .int .i64 t5, .int .i64 t6, .int .i64 t7, .int .i64 t8, .int .i64 t9, .int .i64 t10, .int .i64 t11] 36)) 0 0 0 0 0 0 0 0 0 30).below (W' := ((w.alloc (.cells #[.int .i64 t0, .int .i64 t1, .int .i64 t2, .int .i64 t3, .int .i64 t4, .int .i64 t5, .int .i64 t6, .int .i64 t7, .int .i64 t8, .int .i64 t9, .int .i64 t10, .int .i64 t11] 36)).alloc (.cells #[.int .i64 0, .int .i64 0, .int .i64 0, .int .i64 0, .int .i64 0, .int .i64 0, .int .i64 0, .int .i64 0, .int .i64 0] 30))) (by (repeat' (first | (with_reducible exact Below.refl _ _) | (with_reducible refine Below.alloc ?_ ?_ _) | (with_reducible refine Below.setCell ?_ ?_ _) | (with_reducible refine Below.drew ?_) | (with_reducible refine below_drewN ?_ _) | (with_reducible assumption) | (with_reducible refine below_after (by with_reducible assumption) ?_) | go_size)))
    (try simp only [World.size_alloc] at h)
    rw [hG] at h
    rw [hw0]; exact h
  have HB : Hid (Below w.heap.size w w0) := by show Below w.heap.size w w0; rw [hw0]; (repeat' (first | (with_reducible exact Below.refl _ _) | (with_reducible refine Below.alloc ?_ ?_ _) | (with_reducible refine Below.setCell ?_ ?_ _) | (with_reducible refine Below.drew ?_) | (with_reducible refine below_drewN ?_ _) | (with_reducible assumption) | (with_reducible refine below_after (by with_reducible assumption) ?_) | go_size))
  clear hw0
  obtain ⟨GR, hGR⟩ : ∃ g, GT + 1 = g := ⟨_, rfl⟩
  rw [hGR] at HR ⊢
  have le_T : w.heap.size ≤ GT := by omega
  have le_R : w.heap.size ≤ GR := by omega
  have ne_R_T : GR ≠ GT := by omega
  have ne_T_R : GT ≠ GR := by omega
  clear hGR
  go_wp2_with fail
  refine wp_region_held_drew (S := fun W => Below w.heap.size w W ∧ Bk12 W GT t0 t1 t2 t3 t4 t5 t6 t7 t8 t9 t10 t11) (by kernel_rfl) ?_ (fun hHeld => ?_); focus ((try dsimp only); exact ⟨Below.drew HB.out, HT.out.below (Below.drew (Below.refl _ _))⟩)
  have HT := Lib.hid (HT.out.below (Below.drew (Below.refl _ _)))
  have HR := Lib.hid (HR.out.below (Below.drew (Below.refl _ _)))
  have hHeld : (fun W => Below w.heap.size w W ∧ Bk12 W GT t0 t1 t2 t3 t4 t5 t6 t7 t8 t9 t10 t11) _ := hHeld
  obtain ⟨wD0, hwD0⟩ : ∃ wD, w0.drew = wD := ⟨_, rfl⟩
  rw [hwD0] at hHeld HT HR ⊢
  clear hwD0
  (refine wpAnyH_take (i := 0) (v := ?_) rfl (by kernel_rfl) (by kernel_rfl) (by kernel_rfl) (fun _ _ _ h => h) (Or.inl ⟨rfl, ?_⟩) (by assumption) ?_; rotate_left; focus (intro W hSw; (try dsimp only at hSw); obtain ⟨hSb, hxT⟩ := hSw; obtain ⟨⟨iT0, iT1, iT2, iT3, iT4, iT5, iT6, iT7, iT8, iT9, iT10, iT11⟩, _, _⟩ := hxT; go_simp; try (with_reducible rfl))); (try simp only [Act.put, List.getElem_toArray, List.getElem_cons_succ, List.getElem_cons_zero, List.setIfInBounds_toArray, List.set_cons_zero, List.set_cons_succ])
  (refine wpAnyH_take (i := 1) (v := ?_) rfl (by kernel_rfl) (by kernel_rfl) (by kernel_rfl) (fun _ _ _ h => h) (Or.inl ⟨rfl, ?_⟩) (by assumption) ?_; rotate_left; focus (intro W hSw; (try dsimp only at hSw); obtain ⟨hSb, hxT⟩ := hSw; obtain ⟨⟨iT0, iT1, iT2, iT3, iT4, iT5, iT6, iT7, iT8, iT9, iT10, iT11⟩, _, _⟩ := hxT; go_simp; try (with_reducible rfl))); (try simp only [Act.put, List.getElem_toArray, List.getElem_cons_succ, List.getElem_cons_zero, List.setIfInBounds_toArray, List.set_cons_zero, List.set_cons_succ])
  (refine wpAnyH_take (i := 2) (v := ?_) rfl (by kernel_rfl) (by kernel_rfl) (by kernel_rfl) (fun _ _ _ h => h) (Or.inl ⟨rfl, ?_⟩) (by assumption) ?_; rotate_left; focus (intro W hSw; (try dsimp only at hSw); obtain ⟨hSb, hxT⟩ := hSw; obtain ⟨⟨iT0, iT1, iT2, iT3, iT4, iT5, iT6, iT7, iT8, iT9, iT10, iT11⟩, _, _⟩ := hxT; go_simp; try (with_reducible rfl))); (try simp only [Act.put, List.getElem_toArray, List.getElem_cons_succ, List.getElem_cons_zero, List.setIfInBounds_toArray, List.set_cons_zero, List.set_cons_succ])
  (refine wpAnyH_take (i := 3) (v := ?_) rfl (by kernel_rfl) (by kernel_rfl) (by kernel_rfl) (fun _ _ _ h => h) (Or.inl ⟨rfl, ?_⟩) (by assumption) ?_; rotate_left; focus (intro W hSw; (try dsimp only at hSw); obtain ⟨hSb, hxT⟩ := hSw; obtain ⟨⟨iT0, iT1, iT2, iT3, iT4, iT5, iT6, iT7, iT8, iT9, iT10, iT11⟩, _, _⟩ := hxT; go_simp; try (with_reducible rfl))); (try simp only [Act.put, List.getElem_toArray, List.getElem_cons_succ, List.getElem_cons_zero, List.setIfInBounds_toArray, List.set_cons_zero, List.set_cons_succ])
  (refine wpAnyH_take (i := 5) (v := ?_) rfl (by kernel_rfl) (by kernel_rfl) (by kernel_rfl) (fun _ _ _ h => h) (Or.inl ⟨rfl, ?_⟩) (by assumption) ?_; rotate_left; focus (intro W hSw; (try dsimp only at hSw); obtain ⟨hSb, hxT⟩ := hSw; obtain ⟨⟨iT0, iT1, iT2, iT3, iT4, iT5, iT6, iT7, iT8, iT9, iT10, iT11⟩, _, _⟩ := hxT; go_simp; try (with_reducible rfl))); (try simp only [Act.put, List.getElem_toArray, List.getElem_cons_succ, List.getElem_cons_zero, List.setIfInBounds_toArray, List.set_cons_zero, List.set_cons_succ])
  (refine wpAnyH_take (i := 6) (v := ?_) rfl (by kernel_rfl) (by kernel_rfl) (by kernel_rfl) (fun _ _ _ h => h) (Or.inl ⟨rfl, ?_⟩) (by assumption) ?_; rotate_left; focus (intro W hSw; (try dsimp only at hSw); obtain ⟨hSb, hxT⟩ := hSw; obtain ⟨⟨iT0, iT1, iT2, iT3, iT4, iT5, iT6, iT7, iT8, iT9, iT10, iT11⟩, _, _⟩ := hxT; go_simp; try (with_reducible rfl))); (try simp only [Act.put, List.getElem_toArray, List.getElem_cons_succ, List.getElem_cons_zero, List.setIfInBounds_toArray, List.set_cons_zero, List.set_cons_succ])
  (refine wpAnyH_take (i := 7) (v := ?_) rfl (by kernel_rfl) (by kernel_rfl) (by kernel_rfl) (fun _ _ _ h => h) (Or.inl ⟨rfl, ?_⟩) (by assumption) ?_; rotate_left; focus (intro W hSw; (try dsimp only at hSw); obtain ⟨hSb, hxT⟩ := hSw; obtain ⟨⟨iT0, iT1, iT2, iT3, iT4, iT5, iT6, iT7, iT8, iT9, iT10, iT11⟩, _, _⟩ := hxT; go_simp; try (with_reducible rfl))); (try simp only [Act.put, List.getElem_toArray, List.getElem_cons_succ, List.getElem_cons_zero, List.setIfInBounds_toArray, List.set_cons_zero, List.set_cons_succ])
  (refine wpAnyH_take (i := 8) (v := ?_) rfl (by kernel_rfl) (by kernel_rfl) (by kernel_rfl) (fun _ _ _ h => h) (Or.inl ⟨rfl, ?_⟩) (by assumption) ?_; rotate_left; focus (intro W hSw; (try dsimp only at hSw); obtain ⟨hSb, hxT⟩ := hSw; obtain ⟨⟨iT0, iT1, iT2, iT3, iT4, iT5, iT6, iT7, iT8, iT9, iT10, iT11⟩, _, _⟩ := hxT; go_simp; try (with_reducible rfl))); (try simp only [Act.put, List.getElem_toArray, List.getElem_cons_succ, List.getElem_cons_zero, List.setIfInBounds_toArray, List.set_cons_zero, List.set_cons_succ])
  (refine wpAnyH_take (i := 10) (v := ?_) rfl (by kernel_rfl) (by kernel_rfl) (by kernel_rfl) (fun _ _ _ h => h) (Or.inl ⟨rfl, ?_⟩) (by assumption) ?_; rotate_left; focus (intro W hSw; (try dsimp only at hSw); obtain ⟨hSb, hxT⟩ := hSw; obtain ⟨⟨iT0, iT1, iT2, iT3, iT4, iT5, iT6, iT7, iT8, iT9, iT10, iT11⟩, _, _⟩ := hxT; go_simp; try (with_reducible rfl))); (try simp only [Act.put, List.getElem_toArray, List.getElem_cons_succ, List.getElem_cons_zero, List.setIfInBounds_toArray, List.set_cons_zero, List.set_cons_succ])
  (refine wpAnyH_take (i := 11) (v := ?_) rfl (by kernel_rfl) (by kernel_rfl) (by kernel_rfl) (fun _ _ _ h => h) (Or.inl ⟨rfl, ?_⟩) (by assumption) ?_; rotate_left; focus (intro W hSw; (try dsimp only at hSw); obtain ⟨hSb, hxT⟩ := hSw; obtain ⟨⟨iT0, iT1, iT2, iT3, iT4, iT5, iT6, iT7, iT8, iT9, iT10, iT11⟩, _, _⟩ := hxT; go_simp; try (with_reducible rfl))); (try simp only [Act.put, List.getElem_toArray, List.getElem_cons_succ, List.getElem_cons_zero, List.setIfInBounds_toArray, List.set_cons_zero, List.set_cons_succ])
  (refine wpAnyH_take (i := 12) (v := ?_) rfl (by kernel_rfl) (by kernel_rfl) (by kernel_rfl) (fun _ _ _ h => h) (Or.inl ⟨rfl, ?_⟩) (by assumption) ?_; rotate_left; focus (intro W hSw; (try dsimp only at hSw); obtain ⟨hSb, hxT⟩ := hSw; obtain ⟨⟨iT0, iT1, iT2, iT3, iT4, iT5, iT6, iT7, iT8, iT9, iT10, iT11⟩, _, _⟩ := hxT; go_simp; try (with_reducible rfl))); (try simp only [Act.put, List.getElem_toArray, List.getElem_cons_succ, List.getElem_cons_zero, List.setIfInBounds_toArray, List.set_cons_zero, List.set_cons_succ])
  (refine wpAnyH_take (i := 13) (v := ?_) rfl (by kernel_rfl) (by kernel_rfl) (by kernel_rfl) (fun _ _ _ h => h) (Or.inl ⟨rfl, ?_⟩) (by assumption) ?_; rotate_left; focus (intro W hSw; (try dsimp only at hSw); obtain ⟨hSb, hxT⟩ := hSw; obtain ⟨⟨iT0, iT1, iT2, iT3, iT4, iT5, iT6, iT7, iT8, iT9, iT10, iT11⟩, _, _⟩ := hxT; go_simp; try (with_reducible rfl))); (try simp only [Act.put, List.getElem_toArray, List.getElem_cons_succ, List.getElem_cons_zero, List.setIfInBounds_toArray, List.set_cons_zero, List.set_cons_succ])
  refine wpAnyH_ready (rs := [4]) (by kernel_rfl) (by simp) ?_; refine AllReadyH.cons rfl (fun K hK => ?_) AllReadyH.nil
  go_simp; (go_at_call 28; refine (spotPlusTimes_minus _ _ _ _ _ _ _ HU1.out HU0.out).mono ?_; rintro en ywr0x0 ⟨rfl, hb2⟩); have HT := Lib.hid (HT.out.below hb2); have HR := Lib.hid (HR.out.below hb2); refine hK.out _ _ ⟨below_after hb2 hHeld.1, HT.out⟩ (fun hHeld2 => ?_); clear hb2; (clear hHeld; rename _ => hHeld; clear hK K; have hHeld : (fun W => Below w.heap.size w W ∧ Bk12 W GT t0 t1 t2 t3 t4 t5 t6 t7 t8 t9 t10 t11) _ := hHeld); (try simp only [Act.put, List.getElem_toArray, List.getElem_cons_succ, List.getElem_cons_zero, List.setIfInBounds_toArray, List.set_cons_zero, List.set_cons_succ])
  refine wpAnyH_ready (rs := [9]) (by kernel_rfl) (by simp) ?_; refine AllReadyH.cons rfl (fun K hK => ?_) AllReadyH.nil
  go_simp; (go_at_call 28; refine (spotPlusTimes_minus _ _ _ _ _ _ _ HU2.out HU0.out).mono ?_; rintro en ywr0x1 ⟨rfl, hb2⟩); have HT := Lib.hid (HT.out.below hb2); have HR := Lib.hid (HR.out.below hb2); refine hK.out _ _ ⟨below_after hb2 hHeld.1, HT.out⟩ (fun hHeld2 => ?_); clear hb2; (clear hHeld; rename _ => hHeld; clear hK K; have hHeld : (fun W => Below w.heap.size w W ∧ Bk12 W GT t0 t1 t2 t3 t4 t5 t6 t7 t8 t9 t10 t11) _ := hHeld); (try simp only [Act.put, List.getElem_toArray, List.getElem_cons_succ, List.getElem_cons_zero, List.setIfInBounds_toArray, List.set_cons_zero, List.set_cons_succ])
  refine wpAnyH_ready (rs := [14]) (by kernel_rfl) (by simp) ?_; refine AllReadyH.cons rfl (fun K hK => ?_) AllReadyH.nil
  go_simp; (go_at_call 28; refine (spotPlusTimes_minus _ _ _ _ _ _ _ HU3.out HU0.out).mono ?_; rintro en ywr0x2 ⟨rfl, hb2⟩); have HT := Lib.hid (HT.out.below hb2); have HR := Lib.hid (HR.out.below hb2); refine hK.out _ _ ⟨below_after hb2 hHeld.1, HT.out⟩ (fun hHeld2 => ?_); clear hb2; (clear hHeld; rename _ => hHeld; clear hK K; have hHeld : (fun W => Below w.heap.size w W ∧ Bk12 W GT t0 t1 t2 t3 t4 t5 t6 t7 t8 t9 t10 t11) _ := hHeld); (try simp only [Act.put, List.getElem_toArray, List.getElem_cons_succ, List.getElem_cons_zero, List.setIfInBounds_toArray, List.set_cons_zero, List.set_cons_succ])
  (refine wpAnyH_take (i := 15) (v := ?_) rfl (by kernel_rfl) (by kernel_rfl) (by kernel_rfl) (fun _ _ _ h => h) (Or.inl ⟨rfl, ?_⟩) (by assumption) ?_; rotate_left; focus (intro W hSw; (try dsimp only at hSw); obtain ⟨hSb, hxT⟩ := hSw; obtain ⟨⟨iT0, iT1, iT2, iT3, iT4, iT5, iT6, iT7, iT8, iT9, iT10, iT11⟩, _, _⟩ := hxT; go_simp; try (with_reducible rfl))); (try simp only [Act.put, List.getElem_toArray, List.getElem_cons_succ, List.getElem_cons_zero, List.setIfInBounds_toArray, List.set_cons_zero, List.set_cons_succ])
  refine wpAnyH_ready (rs := [16]) (by kernel_rfl) (by simp) ?_; refine AllReadyH.cons rfl (fun K hK => ?_) AllReadyH.nil
  obtain ⟨⟨a0, a1, a2, a3, a4, a5, a6, a7, a8⟩, ⟨f0, f1, f2, f3, f4, f5, f6, f7, f8⟩, az⟩ := HR.out; go_simp; clear a0 f0 a1 f1 a2 f2 a3 f3 a4 f4 a5 f5 a6 f6 a7 f7 a8 f8 az
  have HT := Lib.hid (((((((((HT.out.far ⟨GR, 0, none⟩ (.int .i64 (t3 - t0)) (by show GT ≠ GR; exact ne_T_R)).far ⟨GR, 1, none⟩ (.int .i64 (t4 - t1)) (by show GT ≠ GR; exact ne_T_R)).far ⟨GR, 2, none⟩ (.int .i64 (t5 - t2)) (by show GT ≠ GR; exact ne_T_R)).far ⟨GR, 3, none⟩ (.int .i64 (t6 - t0)) (by show GT ≠ GR; exact ne_T_R)).far ⟨GR, 4, none⟩ (.int .i64 (t7 - t1)) (by show GT ≠ GR; exact ne_T_R)).far ⟨GR, 5, none⟩ (.int .i64 (t8 - t2)) (by show GT ≠ GR; exact ne_T_R)).far ⟨GR, 6, none⟩ (.int .i64 (t9 - t0)) (by show GT ≠ GR; exact ne_T_R)).far ⟨GR, 7, none⟩ (.int .i64 (t10 - t1)) (by show GT ≠ GR; exact ne_T_R)).far ⟨GR, 8, none⟩ (.int .i64 (t11 - t2)) (by show GT ≠ GR; exact ne_T_R))
  have HR := Lib.hid (((((((((HR.out.set0 (t3 - t0)).set1 (t4 - t1)).set2 (t5 - t2)).set3 (t6 - t0)).set4 (t7 - t1)).set5 (t8 - t2)).set6 (t9 - t0)).set7 (t10 - t1)).set8 (t11 - t2))
  refine hK.out _ _ ⟨(Below.setCell (Below.setCell (Below.setCell (Below.setCell (Below.setCell (Below.setCell (Below.setCell (Below.setCell (Below.setCell hHeld.1 (p := ⟨GR, 0, none⟩) le_R _) (p := ⟨GR, 1, none⟩) le_R _) (p := ⟨GR, 2, none⟩) le_R _) (p := ⟨GR, 3, none⟩) le_R _) (p := ⟨GR, 4, none⟩) le_R _) (p := ⟨GR, 5, none⟩) le_R _) (p := ⟨GR, 6, none⟩) le_R _) (p := ⟨GR, 7, none⟩) le_R _) (p := ⟨GR, 8, none⟩) le_R _), HT.out⟩ (fun hHeld2 => ?_); (clear hHeld; rename _ => hHeld; clear hK K; have hHeld : (fun W => Below w.heap.size w W ∧ Bk12 W GT t0 t1 t2 t3 t4 t5 t6 t7 t8 t9 t10 t11) _ := hHeld); (try simp only [Act.put, List.getElem_toArray, List.getElem_cons_succ, List.getElem_cons_zero, List.setIfInBounds_toArray, List.set_cons_zero, List.set_cons_succ])
  obtain ⟨ywr0x3, hwx⟩ : ∃ wx, ((((((((ywr0x2.setCell ⟨GR, 0, none⟩ (.int .i64 (t3 - t0))).setCell ⟨GR, 1, none⟩ (.int .i64 (t4 - t1))).setCell ⟨GR, 2, none⟩ (.int .i64 (t5 - t2))).setCell ⟨GR, 3, none⟩ (.int .i64 (t6 - t0))).setCell ⟨GR, 4, none⟩ (.int .i64 (t7 - t1))).setCell ⟨GR, 5, none⟩ (.int .i64 (t8 - t2))).setCell ⟨GR, 6, none⟩ (.int .i64 (t9 - t0))).setCell ⟨GR, 7, none⟩ (.int .i64 (t10 - t1))).setCell ⟨GR, 8, none⟩ (.int .i64 (t11 - t2)) = wx := ⟨_, rfl⟩; rw [hwx] at HT HR hHeld ⊢; clear hwx
  refine wpAnyH_done (by kernel_rfl) ?_ _
  have HB := Lib.hid (hHeld.1)
  clear hHeld
  obtain ⟨⟨qT0, qT1, qT2, qT3, qT4, qT5, qT6, qT7, qT8, qT9, qT10, qT11⟩, ⟨fT0, fT1, fT2, fT3, fT4, fT5, fT6, fT7, fT8, fT9, fT10, fT11⟩, zT⟩ := HT.out
  obtain ⟨⟨qR0, qR1, qR2, qR3, qR4, qR5, qR6, qR7, qR8⟩, ⟨fR0, fR1, fR2, fR3, fR4, fR5, fR6, fR7, fR8⟩, zR⟩ := HR.out
  go_wp2_with fail
  refine bodyPost_ret (v := .agg #[.int .i64 (t3 - t0), .int .i64 (t4 - t1), .int .i64 (t5 - t2), .int .i64 (t6 - t0), .int .i64 (t7 - t1), .int .i64 (t8 - t2), .int .i64 (t9 - t0), .int .i64 (t10 - t1), .int .i64 (t11 - t2)]) (by simp (maxDischargeDepth := 8) [results, Try.results21, go_sem, *]) rfl ?_
  have hb := HB.out
  exact ⟨rfl, by (repeat' (first | (with_reducible exact Below.refl _ _) | (with_reducible refine Below.alloc ?_ ?_ _) | (with_reducible refine Below.setCell ?_ ?_ _) | (with_reducible refine Below.drew ?_) | (with_reducible refine below_drewN ?_ _) | (with_reducible assumption) | (with_reducible refine below_after (by with_reducible assumption) ?_) | go_size))⟩
set_option maxHeartbeats 1600000 in
theorem impl_IsCone_any (c0 c1 c2 c3 c4 c5 c6 c7 c8 : Int) (w : World) :
    Calls Try.prog 11 #[.agg #[.int .i64 c0, .int .i64 c1, .int .i64 c2, .int .i64 c3, .int .i64 c4, .int .i64 c5, .int .i64 c6, .int .i64 c7, .int .i64 c8]] w fun e w' => e = .returned (.bool (isCo c0 c1 c2 c3 c4 c5 c6 c7 c8)) ∧ Below w.heap.size w w' := by
  cases hk : (isSp c0 c1 c2 && isSp c3 c4 c5 && isSp c6 c7 c8)
  · have HK := Lib.hid hk
    have HV : Hid (isCo c0 c1 c2 c3 c4 c5 c6 c7 c8 = false) := by show _ = _; unfold isCo; rw [hk]; rfl
    clear hk
    obtain ⟨GC, hG⟩ : ∃ G, w.heap.size = G := ⟨_, rfl⟩
    have HG := Lib.hid hG
    go_enter Try.func11, Try.ntmps11
    go_upto_region 1 with fail
    obtain ⟨w0, hw0⟩ : ∃ w0, w0 = (w.alloc (.cells #[.int .i64 c0, .int .i64 c1, .int .i64 c2, .int .i64 c3, .int .i64 c4, .int .i64 c5, .int .i64 c6, .int .i64 c7, .int .i64 c8] 30)) := ⟨_, rfl⟩
    rw [← hw0]
    have HC : Hid (Bk9 w0 GC c0 c1 c2 c3 c4 c5 c6 c7 c8) := by
      have h := (bk9_new w c0 c1 c2 c3 c4 c5 c6 c7 c8 30).below (W' := (w.alloc (.cells #[.int .i64 c0, .int .i64 c1, .int .i64 c2, .int .i64 c3, .int .i64 c4, .int .i64 c5, .int .i64 c6, .int .i64 c7, .int .i64 c8] 30))) (by (repeat' (first | (with_reducible exact Below.refl _ _) | (with_reducible refine Below.alloc ?_ ?_ _) | (with_reducible refine Below.setCell ?_ ?_ _) | (with_reducible refine Below.drew ?_) | (with_reducible refine below_drewN ?_ _) | (with_reducible assumption) | (with_reducible refine below_after (by with_reducible assumption) ?_) | go_size)))
      (try simp only [World.size_alloc] at h)
      rw [hG] at h
      rw [hw0]; exact h
    have HB : Hid (Below w.heap.size w w0) := by show Below w.heap.size w w0; rw [hw0]; (repeat' (first | (with_reducible exact Below.refl _ _) | (with_reducible refine Below.alloc ?_ ?_ _) | (with_reducible refine Below.setCell ?_ ?_ _) | (with_reducible refine Below.drew ?_) | (with_reducible refine below_drewN ?_ _) | (with_reducible assumption) | (with_reducible refine below_after (by with_reducible assumption) ?_) | go_size))
    clear hw0
    have le_C : w.heap.size ≤ GC := by omega
    obtain ⟨⟨qC0, qC1, qC2, qC3, qC4, qC5, qC6, qC7, qC8⟩, ⟨fC0, fC1, fC2, fC3, fC4, fC5, fC6, fC7, fC8⟩, zC⟩ := HC.out
    go_wp2_with fail
    go_at_call 17
    refine (areSpots_3 c0 c1 c2 c3 c4 c5 c6 c7 c8 false _ _ _ HK.out zC qC0 qC1 qC2 qC3 qC4 qC5 qC6 qC7 qC8).mono ?_
    rintro e w1 ⟨rfl, hb⟩
    clear qC0 fC0 qC1 fC1 qC2 fC2 qC3 fC3 qC4 fC4 qC5 fC5 qC6 fC6 qC7 fC7 qC8 fC8 zC
    have HC := Lib.hid (HC.out.below hb)
    have HB := Lib.hid (below_after hb HB.out)
    clear hb
    obtain ⟨⟨qC0, qC1, qC2, qC3, qC4, qC5, qC6, qC7, qC8⟩, ⟨fC0, fC1, fC2, fC3, fC4, fC5, fC6, fC7, fC8⟩, zC⟩ := HC.out
    go_wp2_with fail
    refine bodyPost_ret (v := .bool false) (by simp (maxDischargeDepth := 8) [results, Try.results11, go_sem, *]) rfl ?_
    have hb := HB.out
    exact ⟨by rw [HV.out], by (repeat' (first | (with_reducible exact Below.refl _ _) | (with_reducible refine Below.alloc ?_ ?_ _) | (with_reducible refine Below.setCell ?_ ?_ _) | (with_reducible refine Below.drew ?_) | (with_reducible refine below_drewN ?_ _) | (with_reducible assumption) | (with_reducible refine below_after (by with_reducible assumption) ?_) | go_size))⟩
  · have HK := Lib.hid hk
    have HW : Hid (W3 100000 c0 c1 c2 ∧ W3 100000 c3 c4 c5 ∧ W3 100000 c6 c7 c8) := by
      have h := hk
      simp only [Bool.and_eq_true] at h
      exact ⟨(isSp_W3 h.1.1).up (by omega), (isSp_W3 h.1.2).up (by omega), (isSp_W3 h.2).up (by omega)⟩
    obtain ⟨S, hS⟩ : ∃ S, (detV c0 c1 c2 c3 c4 c5 c6 c7 c8) = S := ⟨_, rfl⟩
    have HD : Hid (∀ w, Calls Try.prog 18 #[.agg #[.int .i64 c0, .int .i64 c1, .int .i64 c2, .int .i64 c3, .int .i64 c4, .int .i64 c5, .int .i64 c6, .int .i64 c7, .int .i64 c8]] w fun e w' => e = .returned (.int .i64 S) ∧ Below w.heap.size w w') := fun w => by have := determinantOfRays_any c0 c1 c2 c3 c4 c5 c6 c7 c8 w HW.out.1 HW.out.2.1 HW.out.2.2; rwa [hS] at this
    by_cases hz : S = 0
    · subst hz
      have HV : Hid (isCo c0 c1 c2 c3 c4 c5 c6 c7 c8 = false) := by show _ = _; simp [isCo, hS]
      clear hS hk
      obtain ⟨GC, hG⟩ : ∃ G, w.heap.size = G := ⟨_, rfl⟩
      have HG := Lib.hid hG
      go_enter Try.func11, Try.ntmps11
      go_upto_region 1 with fail
      obtain ⟨w0, hw0⟩ : ∃ w0, w0 = (w.alloc (.cells #[.int .i64 c0, .int .i64 c1, .int .i64 c2, .int .i64 c3, .int .i64 c4, .int .i64 c5, .int .i64 c6, .int .i64 c7, .int .i64 c8] 30)) := ⟨_, rfl⟩
      rw [← hw0]
      have HC : Hid (Bk9 w0 GC c0 c1 c2 c3 c4 c5 c6 c7 c8) := by
        have h := (bk9_new w c0 c1 c2 c3 c4 c5 c6 c7 c8 30).below (W' := (w.alloc (.cells #[.int .i64 c0, .int .i64 c1, .int .i64 c2, .int .i64 c3, .int .i64 c4, .int .i64 c5, .int .i64 c6, .int .i64 c7, .int .i64 c8] 30))) (by (repeat' (first | (with_reducible exact Below.refl _ _) | (with_reducible refine Below.alloc ?_ ?_ _) | (with_reducible refine Below.setCell ?_ ?_ _) | (with_reducible refine Below.drew ?_) | (with_reducible refine below_drewN ?_ _) | (with_reducible assumption) | (with_reducible refine below_after (by with_reducible assumption) ?_) | go_size)))
        (try simp only [World.size_alloc] at h)
        rw [hG] at h
        rw [hw0]; exact h
      have HB : Hid (Below w.heap.size w w0) := by show Below w.heap.size w w0; rw [hw0]; (repeat' (first | (with_reducible exact Below.refl _ _) | (with_reducible refine Below.alloc ?_ ?_ _) | (with_reducible refine Below.setCell ?_ ?_ _) | (with_reducible refine Below.drew ?_) | (with_reducible refine below_drewN ?_ _) | (with_reducible assumption) | (with_reducible refine below_after (by with_reducible assumption) ?_) | go_size))
      clear hw0
      have le_C : w.heap.size ≤ GC := by omega
      obtain ⟨⟨qC0, qC1, qC2, qC3, qC4, qC5, qC6, qC7, qC8⟩, ⟨fC0, fC1, fC2, fC3, fC4, fC5, fC6, fC7, fC8⟩, zC⟩ := HC.out
      go_wp2_with fail
      go_at_call 17
      refine (areSpots_3 c0 c1 c2 c3 c4 c5 c6 c7 c8 true _ _ _ HK.out zC qC0 qC1 qC2 qC3 qC4 qC5 qC6 qC7 qC8).mono ?_
      rintro e w1 ⟨rfl, hb⟩
      clear qC0 fC0 qC1 fC1 qC2 fC2 qC3 fC3 qC4 fC4 qC5 fC5 qC6 fC6 qC7 fC7 qC8 fC8 zC
      have HC := Lib.hid (HC.out.below hb)
      have HB := Lib.hid (below_after hb HB.out)
      clear hb
      obtain ⟨⟨qC0, qC1, qC2, qC3, qC4, qC5, qC6, qC7, qC8⟩, ⟨fC0, fC1, fC2, fC3, fC4, fC5, fC6, fC7, fC8⟩, zC⟩ := HC.out
      go_wp2_with fail
      go_at_call 18
      refine (HD.out _).mono ?_
      rintro e w2 ⟨rfl, hb⟩
      clear qC0 fC0 qC1 fC1 qC2 fC2 qC3 fC3 qC4 fC4 qC5 fC5 qC6 fC6 qC7 fC7 qC8 fC8 zC
      have HC := Lib.hid (HC.out.below hb)
      have HB := Lib.hid (below_after hb HB.out)
      clear hb
      obtain ⟨⟨qC0, qC1, qC2, qC3, qC4, qC5, qC6, qC7, qC8⟩, ⟨fC0, fC1, fC2, fC3, fC4, fC5, fC6, fC7, fC8⟩, zC⟩ := HC.out
      go_wp2_with fail
      refine bodyPost_ret (v := .bool false) (by simp (maxDischargeDepth := 8) [results, Try.results11, go_sem, *]) rfl ?_
      have hb := HB.out
      exact ⟨by rw [HV.out], by (repeat' (first | (with_reducible exact Below.refl _ _) | (with_reducible refine Below.alloc ?_ ?_ _) | (with_reducible refine Below.setCell ?_ ?_ _) | (with_reducible refine Below.drew ?_) | (with_reducible refine below_drewN ?_ _) | (with_reducible assumption) | (with_reducible refine below_after (by with_reducible assumption) ?_) | go_size))⟩
    · have HV : Hid (isCo c0 c1 c2 c3 c4 c5 c6 c7 c8 = true) := by show _ = _; unfold isCo; rw [hk, hS]; simp [hz]
      clear hS hk
      obtain ⟨GC, hG⟩ : ∃ G, w.heap.size = G := ⟨_, rfl⟩
      have HG := Lib.hid hG
      go_enter Try.func11, Try.ntmps11
      go_upto_region 1 with fail
      obtain ⟨w0, hw0⟩ : ∃ w0, w0 = (w.alloc (.cells #[.int .i64 c0, .int .i64 c1, .int .i64 c2, .int .i64 c3, .int .i64 c4, .int .i64 c5, .int .i64 c6, .int .i64 c7, .int .i64 c8] 30)) := ⟨_, rfl⟩
      rw [← hw0]
      have HC : Hid (Bk9 w0 GC c0 c1 c2 c3 c4 c5 c6 c7 c8) := by
        have h := (bk9_new w c0 c1 c2 c3 c4 c5 c6 c7 c8 30).below (W' := (w.alloc (.cells #[.int .i64 c0, .int .i64 c1, .int .i64 c2, .int .i64 c3, .int .i64 c4, .int .i64 c5, .int .i64 c6, .int .i64 c7, .int .i64 c8] 30))) (by (repeat' (first | (with_reducible exact Below.refl _ _) | (with_reducible refine Below.alloc ?_ ?_ _) | (with_reducible refine Below.setCell ?_ ?_ _) | (with_reducible refine Below.drew ?_) | (with_reducible refine below_drewN ?_ _) | (with_reducible assumption) | (with_reducible refine below_after (by with_reducible assumption) ?_) | go_size)))
        (try simp only [World.size_alloc] at h)
        rw [hG] at h
        rw [hw0]; exact h
      have HB : Hid (Below w.heap.size w w0) := by show Below w.heap.size w w0; rw [hw0]; (repeat' (first | (with_reducible exact Below.refl _ _) | (with_reducible refine Below.alloc ?_ ?_ _) | (with_reducible refine Below.setCell ?_ ?_ _) | (with_reducible refine Below.drew ?_) | (with_reducible refine below_drewN ?_ _) | (with_reducible assumption) | (with_reducible refine below_after (by with_reducible assumption) ?_) | go_size))
      clear hw0
      have le_C : w.heap.size ≤ GC := by omega
      obtain ⟨⟨qC0, qC1, qC2, qC3, qC4, qC5, qC6, qC7, qC8⟩, ⟨fC0, fC1, fC2, fC3, fC4, fC5, fC6, fC7, fC8⟩, zC⟩ := HC.out
      go_wp2_with fail
      go_at_call 17
      refine (areSpots_3 c0 c1 c2 c3 c4 c5 c6 c7 c8 true _ _ _ HK.out zC qC0 qC1 qC2 qC3 qC4 qC5 qC6 qC7 qC8).mono ?_
      rintro e w1 ⟨rfl, hb⟩
      clear qC0 fC0 qC1 fC1 qC2 fC2 qC3 fC3 qC4 fC4 qC5 fC5 qC6 fC6 qC7 fC7 qC8 fC8 zC
      have HC := Lib.hid (HC.out.below hb)
      have HB := Lib.hid (below_after hb HB.out)
      clear hb
      obtain ⟨⟨qC0, qC1, qC2, qC3, qC4, qC5, qC6, qC7, qC8⟩, ⟨fC0, fC1, fC2, fC3, fC4, fC5, fC6, fC7, fC8⟩, zC⟩ := HC.out
      go_wp2_with fail
      go_at_call 18
      refine (HD.out _).mono ?_
      rintro e w2 ⟨rfl, hb⟩
      clear qC0 fC0 qC1 fC1 qC2 fC2 qC3 fC3 qC4 fC4 qC5 fC5 qC6 fC6 qC7 fC7 qC8 fC8 zC
      have HC := Lib.hid (HC.out.below hb)
      have HB := Lib.hid (below_after hb HB.out)
      clear hb
      obtain ⟨⟨qC0, qC1, qC2, qC3, qC4, qC5, qC6, qC7, qC8⟩, ⟨fC0, fC1, fC2, fC3, fC4, fC5, fC6, fC7, fC8⟩, zC⟩ := HC.out
      go_wp2_with fail
      refine bodyPost_ret (v := .bool true) (by simp (maxDischargeDepth := 8) [results, Try.results11, go_sem, *]) rfl ?_
      have hb := HB.out
      exact ⟨by rw [HV.out], by (repeat' (first | (with_reducible exact Below.refl _ _) | (with_reducible refine Below.alloc ?_ ?_ _) | (with_reducible refine Below.setCell ?_ ?_ _) | (with_reducible refine Below.drew ?_) | (with_reducible refine below_drewN ?_ _) | (with_reducible assumption) | (with_reducible refine below_after (by with_reducible assumption) ?_) | go_size))⟩
set_option maxHeartbeats 1600000 in
theorem impl_IsTetra_any (t0 t1 t2 t3 t4 t5 t6 t7 t8 t9 t10 t11 : Int) (w : World) :
    Calls Try.prog 14 #[.agg #[.int .i64 t0, .int .i64 t1, .int .i64 t2, .int .i64 t3, .int .i64 t4, .int .i64 t5, .int .i64 t6, .int .i64 t7, .int .i64 t8, .int .i64 t9, .int .i64 t10, .int .i64 t11]] w fun e w' => e = .returned (.bool (isTe t0 t1 t2 t3 t4 t5 t6 t7 t8 t9 t10 t11)) ∧ Below w.heap.size w w' := by
  cases hk : (isSp t0 t1 t2 && isSp t3 t4 t5 && isSp t6 t7 t8 && isSp t9 t10 t11)
  · have HK := Lib.hid hk
    have HV : Hid (isTe t0 t1 t2 t3 t4 t5 t6 t7 t8 t9 t10 t11 = false) := by show _ = _; unfold isTe; rw [hk]; rfl
    clear hk
    obtain ⟨GT, hG⟩ : ∃ G, w.heap.size = G := ⟨_, rfl⟩
    have HG := Lib.hid hG
    go_enter Try.func14, Try.ntmps14
    go_upto_region 1 with fail
    obtain ⟨w0, hw0⟩ : ∃ w0, w0 = (w.alloc (.cells #[.int .i64 t0, .int .i64 t1, .int .i64 t2, .int .i64 t3, .int .i64 t4, .int .i64 t5, .int .i64 t6, .int .i64 t7, .int .i64 t8, .int .i64 t9, .int .i64 t10, .int .i64 t11] 36)) := ⟨_, rfl⟩
    rw [← hw0]
    have HT : Hid (Bk12 w0 GT t0 t1 t2 t3 t4 t5 t6 t7 t8 t9 t10 t11) := by
      have h := (bk12_new w t0 t1 t2 t3 t4 t5 t6 t7 t8 t9 t10 t11 36).below (W' := (w.alloc (.cells #[.int .i64 t0, .int .i64 t1, .int .i64 t2, .int .i64 t3, .int .i64 t4, .int .i64 t5, .int .i64 t6, .int .i64 t7, .int .i64 t8, .int .i64 t9, .int .i64 t10, .int .i64 t11] 36))) (by (repeat' (first | (with_reducible exact Below.refl _ _) | (with_reducible refine Below.alloc ?_ ?_ _) | (with_reducible refine Below.setCell ?_ ?_ _) | (with_reducible refine Below.drew ?_) | (with_reducible refine below_drewN ?_ _) | (with_reducible assumption) | (with_reducible refine below_after (by with_reducible assumption) ?_) | go_size)))
      (try simp only [World.size_alloc] at h)
      rw [hG] at h
      rw [hw0]; exact h
    have HB : Hid (Below w.heap.size w w0) := by show Below w.heap.size w w0; rw [hw0]; (repeat' (first | (with_reducible exact Below.refl _ _) | (with_reducible refine Below.alloc ?_ ?_ _) | (with_reducible refine Below.setCell ?_ ?_ _) | (with_reducible refine Below.drew ?_) | (with_reducible refine below_drewN ?_ _) | (with_reducible assumption) | (with_reducible refine below_after (by with_reducible assumption) ?_) | go_size))
    clear hw0
    have le_T : w.heap.size ≤ GT := by omega
    obtain ⟨⟨qT0, qT1, qT2, qT3, qT4, qT5, qT6, qT7, qT8, qT9, qT10, qT11⟩, ⟨fT0, fT1, fT2, fT3, fT4, fT5, fT6, fT7, fT8, fT9, fT10, fT11⟩, zT⟩ := HT.out
    go_wp2_with fail
    go_at_call 17
    refine (areSpots_4 t0 t1 t2 t3 t4 t5 t6 t7 t8 t9 t10 t11 false _ _ _ HK.out zT qT0 qT1 qT2 qT3 qT4 qT5 qT6 qT7 qT8 qT9 qT10 qT11).mono ?_
    rintro e w1 ⟨rfl, hb⟩
    clear qT0 fT0 qT1 fT1 qT2 fT2 qT3 fT3 qT4 fT4 qT5 fT5 qT6 fT6 qT7 fT7 qT8 fT8 qT9 fT9 qT10 fT10 qT11 fT11 zT
    have HT := Lib.hid (HT.out.below hb)
    have HB := Lib.hid (below_after hb HB.out)
    clear hb
    obtain ⟨⟨qT0, qT1, qT2, qT3, qT4, qT5, qT6, qT7, qT8, qT9, qT10, qT11⟩, ⟨fT0, fT1, fT2, fT3, fT4, fT5, fT6, fT7, fT8, fT9, fT10, fT11⟩, zT⟩ := HT.out
    go_wp2_with fail
    refine bodyPost_ret (v := .bool false) (by simp (maxDischargeDepth := 8) [results, Try.results14, go_sem, *]) rfl ?_
    have hb := HB.out
    exact ⟨by rw [HV.out], by (repeat' (first | (with_reducible exact Below.refl _ _) | (with_reducible refine Below.alloc ?_ ?_ _) | (with_reducible refine Below.setCell ?_ ?_ _) | (with_reducible refine Below.drew ?_) | (with_reducible refine below_drewN ?_ _) | (with_reducible assumption) | (with_reducible refine below_after (by with_reducible assumption) ?_) | go_size))⟩
  · have HK := Lib.hid hk
    have h := hk
    simp only [Bool.and_eq_true] at h
    have HW0 := Lib.hid (isSp_W3 h.1.1.1)
    have HW1 := Lib.hid (isSp_W3 h.1.1.2)
    have HW2 := Lib.hid (isSp_W3 h.1.2)
    have HW3 := Lib.hid (isSp_W3 h.2)
    clear h
    obtain ⟨S, hS⟩ : ∃ S, voV t0 t1 t2 t3 t4 t5 t6 t7 t8 t9 t10 t11 = S := ⟨_, rfl⟩
    have HD : Hid (∀ w, Calls Try.prog 20 #[.agg #[.int .i64 (t3 - t0), .int .i64 (t4 - t1), .int .i64 (t5 - t2), .int .i64 (t6 - t0), .int .i64 (t7 - t1), .int .i64 (t8 - t2), .int .i64 (t9 - t0), .int .i64 (t10 - t1), .int .i64 (t11 - t2)]] w fun e w' => e = .returned (.int .i64 S) ∧ Below w.heap.size w w') := fun w => by have := sizeOf_any (t3 - t0) (t4 - t1) (t5 - t2) (t6 - t0) (t7 - t1) (t8 - t2) (t9 - t0) (t10 - t1) (t11 - t2) w ((HW1.out.sub HW0.out).up (by omega)) ((HW2.out.sub HW0.out).up (by omega)) ((HW3.out.sub HW0.out).up (by omega)); unfold voV at hS; rwa [hS] at this
    by_cases hz : S = 0
    · subst hz
      have HV : Hid (isTe t0 t1 t2 t3 t4 t5 t6 t7 t8 t9 t10 t11 = false) := by show _ = _; simp [isTe, hS]
      clear hS hk
      obtain ⟨GT, hG⟩ : ∃ G, w.heap.size = G := ⟨_, rfl⟩
      have HG := Lib.hid hG
      go_enter Try.func14, Try.ntmps14
      go_upto_region 1 with fail
      obtain ⟨w0, hw0⟩ : ∃ w0, w0 = (w.alloc (.cells #[.int .i64 t0, .int .i64 t1, .int .i64 t2, .int .i64 t3, .int .i64 t4, .int .i64 t5, .int .i64 t6, .int .i64 t7, .int .i64 t8, .int .i64 t9, .int .i64 t10, .int .i64 t11] 36)) := ⟨_, rfl⟩
      rw [← hw0]
      have HT : Hid (Bk12 w0 GT t0 t1 t2 t3 t4 t5 t6 t7 t8 t9 t10 t11) := by
        have h := (bk12_new w t0 t1 t2 t3 t4 t5 t6 t7 t8 t9 t10 t11 36).below (W' := (w.alloc (.cells #[.int .i64 t0, .int .i64 t1, .int .i64 t2, .int .i64 t3, .int .i64 t4, .int .i64 t5, .int .i64 t6, .int .i64 t7, .int .i64 t8, .int .i64 t9, .int .i64 t10, .int .i64 t11] 36))) (by (repeat' (first | (with_reducible exact Below.refl _ _) | (with_reducible refine Below.alloc ?_ ?_ _) | (with_reducible refine Below.setCell ?_ ?_ _) | (with_reducible refine Below.drew ?_) | (with_reducible refine below_drewN ?_ _) | (with_reducible assumption) | (with_reducible refine below_after (by with_reducible assumption) ?_) | go_size)))
        (try simp only [World.size_alloc] at h)
        rw [hG] at h
        rw [hw0]; exact h
      have HB : Hid (Below w.heap.size w w0) := by show Below w.heap.size w w0; rw [hw0]; (repeat' (first | (with_reducible exact Below.refl _ _) | (with_reducible refine Below.alloc ?_ ?_ _) | (with_reducible refine Below.setCell ?_ ?_ _) | (with_reducible refine Below.drew ?_) | (with_reducible refine below_drewN ?_ _) | (with_reducible assumption) | (with_reducible refine below_after (by with_reducible assumption) ?_) | go_size))
      clear hw0
      have le_T : w.heap.size ≤ GT := by omega
      obtain ⟨⟨qT0, qT1, qT2, qT3, qT4, qT5, qT6, qT7, qT8, qT9, qT10, qT11⟩, ⟨fT0, fT1, fT2, fT3, fT4, fT5, fT6, fT7, fT8, fT9, fT10, fT11⟩, zT⟩ := HT.out
      go_wp2_with fail
      go_at_call 17
      refine (areSpots_4 t0 t1 t2 t3 t4 t5 t6 t7 t8 t9 t10 t11 true _ _ _ HK.out zT qT0 qT1 qT2 qT3 qT4 qT5 qT6 qT7 qT8 qT9 qT10 qT11).mono ?_
      rintro e w1 ⟨rfl, hb⟩
      clear qT0 fT0 qT1 fT1 qT2 fT2 qT3 fT3 qT4 fT4 qT5 fT5 qT6 fT6 qT7 fT7 qT8 fT8 qT9 fT9 qT10 fT10 qT11 fT11 zT
      have HT := Lib.hid (HT.out.below hb)
      have HB := Lib.hid (below_after hb HB.out)
      clear hb
      obtain ⟨⟨qT0, qT1, qT2, qT3, qT4, qT5, qT6, qT7, qT8, qT9, qT10, qT11⟩, ⟨fT0, fT1, fT2, fT3, fT4, fT5, fT6, fT7, fT8, fT9, fT10, fT11⟩, zT⟩ := HT.out
      go_wp2_with fail
      go_at_call 21
      refine (edgesOf_any _ _ _ _ _ _ _ _ _ _ _ _ _ HW0.out HW1.out HW2.out HW3.out).mono ?_
      rintro e w2 ⟨rfl, hb⟩
      clear qT0 fT0 qT1 fT1 qT2 fT2 qT3 fT3 qT4 fT4 qT5 fT5 qT6 fT6 qT7 fT7 qT8 fT8 qT9 fT9 qT10 fT10 qT11 fT11 zT
      have HT := Lib.hid (HT.out.below hb)
      have HB := Lib.hid (below_after hb HB.out)
      clear hb
      obtain ⟨⟨qT0, qT1, qT2, qT3, qT4, qT5, qT6, qT7, qT8, qT9, qT10, qT11⟩, ⟨fT0, fT1, fT2, fT3, fT4, fT5, fT6, fT7, fT8, fT9, fT10, fT11⟩, zT⟩ := HT.out
      go_wp2_with fail
      go_at_call 20
      refine (HD.out _).mono ?_
      rintro e w3 ⟨rfl, hb⟩
      clear qT0 fT0 qT1 fT1 qT2 fT2 qT3 fT3 qT4 fT4 qT5 fT5 qT6 fT6 qT7 fT7 qT8 fT8 qT9 fT9 qT10 fT10 qT11 fT11 zT
      have HT := Lib.hid (HT.out.below hb)
      have HB := Lib.hid (below_after hb HB.out)
      clear hb
      obtain ⟨⟨qT0, qT1, qT2, qT3, qT4, qT5, qT6, qT7, qT8, qT9, qT10, qT11⟩, ⟨fT0, fT1, fT2, fT3, fT4, fT5, fT6, fT7, fT8, fT9, fT10, fT11⟩, zT⟩ := HT.out
      go_wp2_with fail
      refine bodyPost_ret (v := .bool false) (by simp (maxDischargeDepth := 8) [results, Try.results14, go_sem, *]) rfl ?_
      have hb := HB.out
      exact ⟨by rw [HV.out], by (repeat' (first | (with_reducible exact Below.refl _ _) | (with_reducible refine Below.alloc ?_ ?_ _) | (with_reducible refine Below.setCell ?_ ?_ _) | (with_reducible refine Below.drew ?_) | (with_reducible refine below_drewN ?_ _) | (with_reducible assumption) | (with_reducible refine below_after (by with_reducible assumption) ?_) | go_size))⟩
    · have HV : Hid (isTe t0 t1 t2 t3 t4 t5 t6 t7 t8 t9 t10 t11 = true) := by show _ = _; unfold isTe; rw [hk, hS]; simp [hz]
      clear hS hk
      obtain ⟨GT, hG⟩ : ∃ G, w.heap.size = G := ⟨_, rfl⟩
      have HG := Lib.hid hG
      go_enter Try.func14, Try.ntmps14
      go_upto_region 1 with fail
      obtain ⟨w0, hw0⟩ : ∃ w0, w0 = (w.alloc (.cells #[.int .i64 t0, .int .i64 t1, .int .i64 t2, .int .i64 t3, .int .i64 t4, .int .i64 t5, .int .i64 t6, .int .i64 t7, .int .i64 t8, .int .i64 t9, .int .i64 t10, .int .i64 t11] 36)) := ⟨_, rfl⟩
      rw [← hw0]
      have HT : Hid (Bk12 w0 GT t0 t1 t2 t3 t4 t5 t6 t7 t8 t9 t10 t11) := by
        have h := (bk12_new w t0 t1 t2 t3 t4 t5 t6 t7 t8 t9 t10 t11 36).below (W' := (w.alloc (.cells #[.int .i64 t0, .int .i64 t1, .int .i64 t2, .int .i64 t3, .int .i64 t4, .int .i64 t5, .int .i64 t6, .int .i64 t7, .int .i64 t8, .int .i64 t9, .int .i64 t10, .int .i64 t11] 36))) (by (repeat' (first | (with_reducible exact Below.refl _ _) | (with_reducible refine Below.alloc ?_ ?_ _) | (with_reducible refine Below.setCell ?_ ?_ _) | (with_reducible refine Below.drew ?_) | (with_reducible refine below_drewN ?_ _) | (with_reducible assumption) | (with_reducible refine below_after (by with_reducible assumption) ?_) | go_size)))
        (try simp only [World.size_alloc] at h)
        rw [hG] at h
        rw [hw0]; exact h
      have HB : Hid (Below w.heap.size w w0) := by show Below w.heap.size w w0; rw [hw0]; (repeat' (first | (with_reducible exact Below.refl _ _) | (with_reducible refine Below.alloc ?_ ?_ _) | (with_reducible refine Below.setCell ?_ ?_ _) | (with_reducible refine Below.drew ?_) | (with_reducible refine below_drewN ?_ _) | (with_reducible assumption) | (with_reducible refine below_after (by with_reducible assumption) ?_) | go_size))
      clear hw0
      have le_T : w.heap.size ≤ GT := by omega
      obtain ⟨⟨qT0, qT1, qT2, qT3, qT4, qT5, qT6, qT7, qT8, qT9, qT10, qT11⟩, ⟨fT0, fT1, fT2, fT3, fT4, fT5, fT6, fT7, fT8, fT9, fT10, fT11⟩, zT⟩ := HT.out
      go_wp2_with fail
      go_at_call 17
      refine (areSpots_4 t0 t1 t2 t3 t4 t5 t6 t7 t8 t9 t10 t11 true _ _ _ HK.out zT qT0 qT1 qT2 qT3 qT4 qT5 qT6 qT7 qT8 qT9 qT10 qT11).mono ?_
      rintro e w1 ⟨rfl, hb⟩
      clear qT0 fT0 qT1 fT1 qT2 fT2 qT3 fT3 qT4 fT4 qT5 fT5 qT6 fT6 qT7 fT7 qT8 fT8 qT9 fT9 qT10 fT10 qT11 fT11 zT
      have HT := Lib.hid (HT.out.below hb)
      have HB := Lib.hid (below_after hb HB.out)
      clear hb
      obtain ⟨⟨qT0, qT1, qT2, qT3, qT4, qT5, qT6, qT7, qT8, qT9, qT10, qT11⟩, ⟨fT0, fT1, fT2, fT3, fT4, fT5, fT6, fT7, fT8, fT9, fT10, fT11⟩, zT⟩ := HT.out
      go_wp2_with fail
      go_at_call 21
      refine (edgesOf_any _ _ _ _ _ _ _ _ _ _ _ _ _ HW0.out HW1.out HW2.out HW3.out).mono ?_
      rintro e w2 ⟨rfl, hb⟩
      clear qT0 fT0 qT1 fT1 qT2 fT2 qT3 fT3 qT4 fT4 qT5 fT5 qT6 fT6 qT7 fT7 qT8 fT8 qT9 fT9 qT10 fT10 qT11 fT11 zT
      have HT := Lib.hid (HT.out.below hb)
      have HB := Lib.hid (below_after hb HB.out)
      clear hb
      obtain ⟨⟨qT0, qT1, qT2, qT3, qT4, qT5, qT6, qT7, qT8, qT9, qT10, qT11⟩, ⟨fT0, fT1, fT2, fT3, fT4, fT5, fT6, fT7, fT8, fT9, fT10, fT11⟩, zT⟩ := HT.out
      go_wp2_with fail
      go_at_call 20
      refine (HD.out _).mono ?_
      rintro e w3 ⟨rfl, hb⟩
      clear qT0 fT0 qT1 fT1 qT2 fT2 qT3 fT3 qT4 fT4 qT5 fT5 qT6 fT6 qT7 fT7 qT8 fT8 qT9 fT9 qT10 fT10 qT11 fT11 zT
      have HT := Lib.hid (HT.out.below hb)
      have HB := Lib.hid (below_after hb HB.out)
      clear hb
      obtain ⟨⟨qT0, qT1, qT2, qT3, qT4, qT5, qT6, qT7, qT8, qT9, qT10, qT11⟩, ⟨fT0, fT1, fT2, fT3, fT4, fT5, fT6, fT7, fT8, fT9, fT10, fT11⟩, zT⟩ := HT.out
      go_wp2_with fail
      refine bodyPost_ret (v := .bool true) (by simp (maxDischargeDepth := 8) [results, Try.results14, go_sem, *]) rfl ?_
      have hb := HB.out
      exact ⟨by rw [HV.out], by (repeat' (first | (with_reducible exact Below.refl _ _) | (with_reducible refine Below.alloc ?_ ?_ _) | (with_reducible refine Below.setCell ?_ ?_ _) | (with_reducible refine Below.drew ?_) | (with_reducible refine below_drewN ?_ _) | (with_reducible assumption) | (with_reducible refine below_after (by with_reducible assumption) ?_) | go_size))⟩
end Go.Proofs.Ytjjblgmokmalaaa
