/-
  Chapter 5's nodes: the root, left and right of a node, by contract (own work).
-/
import Derived.Test.YtohnmogejidpdabDoorAlg2
import Derived.WalkSmall
import Derived.Deep.DeepCutAuto
namespace Go.Proofs.YtohnmogejidpdabDoor
open Go.ChangeShapes Go.WideShapes Go.ChangeAt Go.RowKit
set_option linter.unusedVariables false
set_option maxRecDepth 100000
set_option linter.unusedSimpArgs false
set_option maxRecDepth 100000

/-- A number that adds up with another one without overflow. -/
def Wn (n : Int) : Prop := 0 ≤ n ∧ n ≤ 2305843009213693952
/-- The fraction of a node. -/
def Fc (W : World) (m : Nat) (x y : Int) : Prop := W.cell? ⟨m, 0, none⟩ = some (.int .i64 x) ∧ W.cell? ⟨m, 1, none⟩ = some (.int .i64 y)
theorem Fc.lt {W : World} {m : Nat} {x y : Int} (h : Fc W m x y) : m < W.heap.size := World.block_lt_of_cell? _ _ h.1
theorem Fc.below {W W' : World} {m : Nat} {x y : Int} (h : Fc W m x y) (hb : Below W.heap.size W W') : Fc W' m x y :=
  ⟨(hb.cell (p := ⟨m, 0, none⟩) h.lt).trans h.1, (hb.cell (p := ⟨m, 1, none⟩) h.lt).trans h.2⟩
theorem Fc.kept {W W' : World} {m : Nat} {x y : Int} {row : Option Nat} (h : Fc W m x y) (hg : W.grownBy W' row) (hk : some m ≠ row) : Fc W' m x y :=
  ⟨(World.cell?_of_block (hg.block m h.lt hk)).trans h.1, (World.cell?_of_block (hg.block m h.lt hk)).trans h.2⟩
/-- A node n: its fraction F, and those of the two nodes l and g between which it stands. -/
def Nx (W : World) (n l g : Nat) (F0 F1 L0 L1 G0 G1 : Int) : Prop := Fc W n F0 F1 ∧ W.cell? ⟨n, 2, none⟩ = some (.pointer (some ⟨l, 0, none⟩)) ∧ W.cell? ⟨n, 3, none⟩ = some (.pointer (some ⟨g, 0, none⟩)) ∧ Fc W l L0 L1 ∧ Fc W g G0 G1
def Nt (W : World) (n : Nat) (F0 F1 L0 L1 G0 G1 : Int) : Prop := ∃ l g : Nat, Nx W n l g F0 F1 L0 L1 G0 G1
theorem Nx.kept {W W' : World} {n l g : Nat} {F0 F1 L0 L1 G0 G1 : Int} {row : Option Nat} (h : Nx W n l g F0 F1 L0 L1 G0 G1) (hg : W.grownBy W' row) (k0 : some n ≠ row) (k1 : some l ≠ row) (k2 : some g ≠ row) : Nx W' n l g F0 F1 L0 L1 G0 G1 := by
  obtain ⟨h1, h2, h3, h4, h5⟩ := h
  exact ⟨h1.kept hg k0, (World.cell?_of_block (a := ⟨n, 2, none⟩) (hg.block n h1.lt k0)).trans h2, (World.cell?_of_block (a := ⟨n, 3, none⟩) (hg.block n h1.lt k0)).trans h3, h4.kept hg k1, h5.kept hg k2⟩
theorem Nx.below {W W' : World} {n l g : Nat} {F0 F1 L0 L1 G0 G1 : Int} (h : Nx W n l g F0 F1 L0 L1 G0 G1) (hb : Below W.heap.size W W') : Nx W' n l g F0 F1 L0 L1 G0 G1 := by
  obtain ⟨h1, h2, h3, h4, h5⟩ := h
  exact ⟨h1.below hb, (hb.cell (p := ⟨n, 2, none⟩) h1.lt).trans h2, (hb.cell (p := ⟨n, 3, none⟩) h1.lt).trans h3, h4.below hb, h5.below hb⟩
theorem Nx.lt {W : World} {n l g : Nat} {F0 F1 L0 L1 G0 G1 : Int} (h : Nx W n l g F0 F1 L0 L1 G0 G1) : n < W.heap.size ∧ l < W.heap.size ∧ g < W.heap.size := ⟨h.1.lt, h.2.2.2.1.lt, h.2.2.2.2.lt⟩
theorem Nt.below {W W' : World} {n : Nat} {F0 F1 L0 L1 G0 G1 : Int} (h : Nt W n F0 F1 L0 L1 G0 G1) (hb : Below W.heap.size W W') : Nt W' n F0 F1 L0 L1 G0 G1 := by
  obtain ⟨l, g, h1, h2, h3, h4, h5⟩ := h
  exact ⟨l, g, h1.below hb, (hb.cell (p := ⟨n, 2, none⟩) h1.lt).trans h2, (hb.cell (p := ⟨n, 3, none⟩) h1.lt).trans h3, h4.below hb, h5.below hb⟩
theorem plusTimes_w (x0 y0 x1 y1 : Int) (w : World) (h0 : Wn x0) (h1 : Wn y0) (h2 : Wn x1) (h3 : Wn y1) :
    Calls Tryd.prog 59 #[.agg #[.int .i64 x0, .int .i64 y0], .agg #[.int .i64 x1, .int .i64 y1], .int .i64 1] w fun e w' => e = .returned (.agg #[.int .i64 (x0 + x1), .int .i64 (y0 + y1)]) ∧ Below w.heap.size w w' := by
  obtain ⟨a1, a2⟩ := h0
  obtain ⟨b1, b2⟩ := h1
  obtain ⟨c1, c2⟩ := h2
  obtain ⟨d1, d2⟩ := h3
  have e1 : IntKind.i64.wrap (1 * x1) = x1 := by rw [IntKind.wrap_i64]; omega
  have e2 : IntKind.i64.wrap (1 * y1) = y1 := by rw [IntKind.wrap_i64]; omega
  have f1 : IntKind.i64.wrap x1 = x1 := by rw [IntKind.wrap_i64]; omega
  have f2 : IntKind.i64.wrap y1 = y1 := by rw [IntKind.wrap_i64]; omega
  have g1 : IntKind.i64.wrap (x0 + x1) = x0 + x1 := by rw [IntKind.wrap_i64]; omega
  have g2 : IntKind.i64.wrap (y0 + y1) = y0 + y1 := by rw [IntKind.wrap_i64]; omega
  have hs20 : w.heap.size < w.heap.size + 1 + 1 := (by omega); have hs30 : w.heap.size < w.heap.size + 1 + 1 + 1 := (by omega); have hs31 : w.heap.size + 1 < w.heap.size + 1 + 1 + 1 := (by omega)
  go_enter Tryd.func59, Tryd.ntmps59
  go_wp2
  go_returns
  exact ⟨rfl, by (repeat' (first | (with_reducible exact Below.refl _ _) | (with_reducible refine Below.alloc ?_ ?_ _) | (with_reducible refine Below.setCell ?_ ?_ _) | (with_reducible refine Below.drew ?_) | (with_reducible refine below_drewN ?_ _) | (with_reducible assumption) | (with_reducible refine below_after (by with_reducible assumption) ?_) | go_size))⟩
theorem sumOf_w (x0 y0 x1 y1 : Int) (w : World) (h0 : Wn x0) (h1 : Wn y0) (h2 : Wn x1) (h3 : Wn y1) :
    Calls Tryd.prog 68 #[.agg #[.int .i64 x0, .int .i64 y0], .agg #[.int .i64 x1, .int .i64 y1]] w fun e w' => e = .returned (.agg #[.int .i64 (x0 + x1), .int .i64 (y0 + y1)]) ∧ Below w.heap.size w w' := by
  have HC := Lib.hid (fun w => plusTimes_w x0 y0 x1 y1 w h0 h1 h2 h3)
  clear h0 h1 h2 h3
  have hs20 : w.heap.size < w.heap.size + 1 + 1 := (by omega); have hs30 : w.heap.size < w.heap.size + 1 + 1 + 1 := (by omega); have hs31 : w.heap.size + 1 < w.heap.size + 1 + 1 + 1 := (by omega); have hs40 : w.heap.size < w.heap.size + 1 + 1 + 1 + 1 := (by omega); have hs41 : w.heap.size + 1 < w.heap.size + 1 + 1 + 1 + 1 := (by omega); have hs42 : w.heap.size + 1 + 1 < w.heap.size + 1 + 1 + 1 + 1 := (by omega)
  go_enter Tryd.func68, Tryd.ntmps68
  go_wp2_with (go_at_call 59; refine (HC.out _).mono ?_; rintro e wn ⟨rfl, hb⟩; first | (have h2 := after_call2 hb hcl hfr hlt (by ((repeat' (first | (with_reducible exact Below.refl _ _) | (with_reducible refine Below.alloc ?_ ?_ _) | (with_reducible refine Below.setCell ?_ ?_ _) | (with_reducible refine Below.drew ?_) | (with_reducible refine below_drewN ?_ _) | (with_reducible assumption) | (with_reducible refine below_after (by with_reducible assumption) ?_) | go_size)); done)); obtain ⟨hclx, hfrx, hltx, hsz⟩ := after_call hb; (try simp only [World.size_alloc, World.size_setCell, World.size_drew] at hclx hfrx hltx hsz); (try (have hszl := Nat.lt_of_succ_le hsz)); obtain ⟨hcl, hfr, hlt⟩ := h2) | (obtain ⟨hcl, hfr, hlt, hsz⟩ := after_call hb; (try simp only [World.size_alloc, World.size_setCell, World.size_drew] at hcl hfr hlt hsz)))
  refine bodyPost_ret (v := .agg #[.int .i64 (x0 + x1), .int .i64 (y0 + y1)]) (by simp (maxDischargeDepth := 8) [results, Tryd.results68, go_sem, *]) rfl ?_
  exact ⟨rfl, by (repeat' (first | (with_reducible exact Below.refl _ _) | (with_reducible refine Below.alloc ?_ ?_ _) | (with_reducible refine Below.setCell ?_ ?_ _) | (with_reducible refine Below.drew ?_) | (with_reducible refine below_drewN ?_ _) | (with_reducible assumption) | (with_reducible refine below_after (by with_reducible assumption) ?_) | go_size))⟩
theorem rootOfTree_x (w : World) : Calls Tryd.prog 18 #[] w fun e w' => ∃ n l g : Nat, e = .returned (.pointer (some ⟨n, 0, none⟩)) ∧ Nx w' n l g 1 1 0 1 1 0 ∧ w.heap.size ≤ n ∧ w.heap.size ≤ l ∧ w.heap.size ≤ g ∧ Below w.heap.size w w' := by
  have hs20 : w.heap.size < w.heap.size + 1 + 1 := (by omega); have hs30 : w.heap.size < w.heap.size + 1 + 1 + 1 := (by omega); have hs31 : w.heap.size + 1 < w.heap.size + 1 + 1 + 1 := (by omega)
  go_enter Tryd.func18, Tryd.ntmps18
  go_wp2
  go_ret
  refine ⟨_, w.heap.size, w.heap.size + 1, rfl, ⟨⟨?_, ?_⟩, ?_, ?_, ⟨?_, ?_⟩, ⟨?_, ?_⟩⟩, ?_, ?_, ?_, by (repeat' (first | (with_reducible exact Below.refl _ _) | (with_reducible refine Below.alloc ?_ ?_ _) | (with_reducible refine Below.setCell ?_ ?_ _) | (with_reducible refine Below.drew ?_) | (with_reducible refine below_drewN ?_ _) | (with_reducible assumption) | (with_reducible refine below_after (by with_reducible assumption) ?_) | go_size))⟩
  all_goals first | (go_cell; done) | omega | (simp; done)
theorem rootOfTree_any (w : World) : Calls Tryd.prog 18 #[] w fun e w' => ∃ n : Nat, e = .returned (.pointer (some ⟨n, 0, none⟩)) ∧ Nt w' n 1 1 0 1 1 0 ∧ w.heap.size ≤ n ∧ Below w.heap.size w w' := by
  refine (rootOfTree_x w).mono ?_
  rintro e w' ⟨n, l, g, h1, h2, h3, _, _, h4⟩
  exact ⟨n, h1, ⟨l, g, h2⟩, h3, h4⟩
set_option maxHeartbeats 3200000 in
theorem left_x (n l g : Nat) (F0 F1 L0 L1 G0 G1 : Int) (w : World) (hn : Nx w n l g F0 F1 L0 L1 G0 G1) (h0 : Wn F0) (h1 : Wn F1) (h2 : Wn L0) (h3 : Wn L1) :
    Calls Tryd.prog 41 #[.pointer (some ⟨n, 0, none⟩)] w fun e w' => ∃ n' : Nat, e = .returned (.pointer (some ⟨n', 0, none⟩)) ∧ Nx w' n' l n (F0 + L0) (F1 + L1) L0 L1 F0 F1 ∧ w.heap.size ≤ n' ∧ Below w.heap.size w w' := by
  have HC := Lib.hid (fun w => sumOf_w F0 F1 L0 L1 w h0 h1 h2 h3)
  obtain ⟨hF, c2, c3, hL, hG⟩ := hn
  have HX : Hid (∀ W, Below w.heap.size w W → W.cell? ⟨n, 0, none⟩ = some (.int .i64 F0) ∧ W.cell? ⟨n, 1, none⟩ = some (.int .i64 F1) ∧ W.cell? ⟨n, 2, none⟩ = some (.pointer (some ⟨l, 0, none⟩)) ∧ W.cell? ⟨n, 3, none⟩ = some (.pointer (some ⟨g, 0, none⟩)) ∧ W.cell? ⟨l, 0, none⟩ = some (.int .i64 L0) ∧ W.cell? ⟨l, 1, none⟩ = some (.int .i64 L1) ∧ W.cell? ⟨g, 0, none⟩ = some (.int .i64 G0) ∧ W.cell? ⟨g, 1, none⟩ = some (.int .i64 G1)) := fun W hW =>
    ⟨(hF.below hW).1, (hF.below hW).2, (hW.cell (p := ⟨n, 2, none⟩) hF.lt).trans c2, (hW.cell (p := ⟨n, 3, none⟩) hF.lt).trans c3, (hL.below hW).1, (hL.below hW).2, (hG.below hW).1, (hG.below hW).2⟩
  clear hF c2 c3 hL hG h0 h1 h2 h3
  go_enter Tryd.func41, Tryd.ntmps41
  go_upto_region 1 with fail
  refine wp_region_held_drew (S := fun W => Below w.heap.size w W) (by kernel_rfl) ?_ (fun hHeld => ?_); focus ((try dsimp only); exact (Below.refl _ _).drew)
  have hHeld : Below w.heap.size w _ := hHeld
  obtain ⟨wD, hwD⟩ : ∃ wD, w.drew = wD := ⟨_, rfl⟩
  rw [hwD] at hHeld ⊢
  clear hwD
  (refine wpAnyH_take (i := 0) (v := ?_) rfl (by kernel_rfl) (by kernel_rfl) (by kernel_rfl) (fun _ _ _ h => h) (Or.inl ⟨rfl, ?_⟩) (by assumption) ?_; rotate_left; focus (intro W hSw; (try dsimp only at hSw); obtain ⟨i0, i1, i2, i3, i4, i5, i6, i7⟩ := HX.out _ hSw; go_simp; try (with_reducible rfl))); (try simp only [Act.put, List.getElem_toArray, List.getElem_cons_succ, List.getElem_cons_zero, List.setIfInBounds_toArray, List.set_cons_zero, List.set_cons_succ])
  (refine wpAnyH_take (i := 1) (v := ?_) rfl (by kernel_rfl) (by kernel_rfl) (by kernel_rfl) (fun _ _ _ h => h) (Or.inl ⟨rfl, ?_⟩) (by assumption) ?_; rotate_left; focus (intro W hSw; (try dsimp only at hSw); obtain ⟨i0, i1, i2, i3, i4, i5, i6, i7⟩ := HX.out _ hSw; go_simp; try (with_reducible rfl))); (try simp only [Act.put, List.getElem_toArray, List.getElem_cons_succ, List.getElem_cons_zero, List.setIfInBounds_toArray, List.set_cons_zero, List.set_cons_succ])
  (refine wpAnyH_take (i := 2) (v := ?_) rfl (by kernel_rfl) (by kernel_rfl) (by kernel_rfl) (fun _ _ _ h => h) (Or.inl ⟨rfl, ?_⟩) (by assumption) ?_; rotate_left; focus (intro W hSw; (try dsimp only at hSw); obtain ⟨i0, i1, i2, i3, i4, i5, i6, i7⟩ := HX.out _ hSw; go_simp; try (with_reducible rfl))); (try simp only [Act.put, List.getElem_toArray, List.getElem_cons_succ, List.getElem_cons_zero, List.setIfInBounds_toArray, List.set_cons_zero, List.set_cons_succ])
  (refine wpAnyH_take (i := 3) (v := ?_) rfl (by kernel_rfl) (by kernel_rfl) (by kernel_rfl) (fun _ _ _ h => h) (Or.inl ⟨rfl, ?_⟩) (by assumption) ?_; rotate_left; focus (intro W hSw; (try dsimp only at hSw); obtain ⟨i0, i1, i2, i3, i4, i5, i6, i7⟩ := HX.out _ hSw; go_simp; try (with_reducible rfl))); (try simp only [Act.put, List.getElem_toArray, List.getElem_cons_succ, List.getElem_cons_zero, List.setIfInBounds_toArray, List.set_cons_zero, List.set_cons_succ])
  (refine wpAnyH_take (i := 4) (v := ?_) rfl (by kernel_rfl) (by kernel_rfl) (by kernel_rfl) (fun _ _ _ h => h) (Or.inl ⟨rfl, ?_⟩) (by assumption) ?_; rotate_left; focus (intro W hSw; (try dsimp only at hSw); obtain ⟨i0, i1, i2, i3, i4, i5, i6, i7⟩ := HX.out _ hSw; go_simp; try (with_reducible rfl))); (try simp only [Act.put, List.getElem_toArray, List.getElem_cons_succ, List.getElem_cons_zero, List.setIfInBounds_toArray, List.set_cons_zero, List.set_cons_succ])
  (refine wpAnyH_take (i := 5) (v := ?_) rfl (by kernel_rfl) (by kernel_rfl) (by kernel_rfl) (fun _ _ _ h => h) (Or.inl ⟨rfl, ?_⟩) (by assumption) ?_; rotate_left; focus (intro W hSw; (try dsimp only at hSw); obtain ⟨i0, i1, i2, i3, i4, i5, i6, i7⟩ := HX.out _ hSw; go_simp; try (with_reducible rfl))); (try simp only [Act.put, List.getElem_toArray, List.getElem_cons_succ, List.getElem_cons_zero, List.setIfInBounds_toArray, List.set_cons_zero, List.set_cons_succ])
  (refine wpAnyH_take (i := 6) (v := ?_) rfl (by kernel_rfl) (by kernel_rfl) (by kernel_rfl) (fun _ _ _ h => h) (Or.inl ⟨rfl, ?_⟩) (by assumption) ?_; rotate_left; focus (intro W hSw; (try dsimp only at hSw); obtain ⟨i0, i1, i2, i3, i4, i5, i6, i7⟩ := HX.out _ hSw; go_simp; try (with_reducible rfl))); (try simp only [Act.put, List.getElem_toArray, List.getElem_cons_succ, List.getElem_cons_zero, List.setIfInBounds_toArray, List.set_cons_zero, List.set_cons_succ])
  (refine wpAnyH_take (i := 7) (v := ?_) rfl (by kernel_rfl) (by kernel_rfl) (by kernel_rfl) (fun _ _ _ h => h) (Or.inl ⟨rfl, ?_⟩) (by assumption) ?_; rotate_left; focus (intro W hSw; (try dsimp only at hSw); obtain ⟨i0, i1, i2, i3, i4, i5, i6, i7⟩ := HX.out _ hSw; go_simp; try (with_reducible rfl))); (try simp only [Act.put, List.getElem_toArray, List.getElem_cons_succ, List.getElem_cons_zero, List.setIfInBounds_toArray, List.set_cons_zero, List.set_cons_succ])
  (refine wpAnyH_take (i := 8) (v := ?_) rfl (by kernel_rfl) (by kernel_rfl) (by kernel_rfl) (fun _ _ _ h => h) (Or.inl ⟨rfl, ?_⟩) (by assumption) ?_; rotate_left; focus (intro W hSw; (try dsimp only at hSw); obtain ⟨i0, i1, i2, i3, i4, i5, i6, i7⟩ := HX.out _ hSw; go_simp; try (with_reducible rfl))); (try simp only [Act.put, List.getElem_toArray, List.getElem_cons_succ, List.getElem_cons_zero, List.setIfInBounds_toArray, List.set_cons_zero, List.set_cons_succ])
  (refine wpAnyH_take (i := 9) (v := ?_) rfl (by kernel_rfl) (by kernel_rfl) (by kernel_rfl) (fun _ _ _ h => h) (Or.inl ⟨rfl, ?_⟩) (by assumption) ?_; rotate_left; focus (intro W hSw; (try dsimp only at hSw); obtain ⟨i0, i1, i2, i3, i4, i5, i6, i7⟩ := HX.out _ hSw; go_simp; try (with_reducible rfl))); (try simp only [Act.put, List.getElem_toArray, List.getElem_cons_succ, List.getElem_cons_zero, List.setIfInBounds_toArray, List.set_cons_zero, List.set_cons_succ])
  (refine wpAnyH_take (i := 10) (v := ?_) rfl (by kernel_rfl) (by kernel_rfl) (by kernel_rfl) (fun _ _ _ h => h) (Or.inl ⟨rfl, ?_⟩) (by assumption) ?_; rotate_left; focus (intro W hSw; (try dsimp only at hSw); obtain ⟨i0, i1, i2, i3, i4, i5, i6, i7⟩ := HX.out _ hSw; go_simp; try (with_reducible rfl))); (try simp only [Act.put, List.getElem_toArray, List.getElem_cons_succ, List.getElem_cons_zero, List.setIfInBounds_toArray, List.set_cons_zero, List.set_cons_succ])
  (refine wpAnyH_take (i := 12) (v := ?_) rfl (by kernel_rfl) (by kernel_rfl) (by kernel_rfl) (fun _ _ _ h => h) (Or.inl ⟨rfl, ?_⟩) (by assumption) ?_; rotate_left; focus (intro W hSw; (try dsimp only at hSw); obtain ⟨i0, i1, i2, i3, i4, i5, i6, i7⟩ := HX.out _ hSw; go_simp; try (with_reducible rfl))); (try simp only [Act.put, List.getElem_toArray, List.getElem_cons_succ, List.getElem_cons_zero, List.setIfInBounds_toArray, List.set_cons_zero, List.set_cons_succ])
  (refine wpAnyH_take (i := 13) (v := ?_) rfl (by kernel_rfl) (by kernel_rfl) (by kernel_rfl) (fun _ _ _ h => h) (Or.inl ⟨rfl, ?_⟩) (by assumption) ?_; rotate_left; focus (intro W hSw; (try dsimp only at hSw); obtain ⟨i0, i1, i2, i3, i4, i5, i6, i7⟩ := HX.out _ hSw; go_simp; try (with_reducible rfl))); (try simp only [Act.put, List.getElem_toArray, List.getElem_cons_succ, List.getElem_cons_zero, List.setIfInBounds_toArray, List.set_cons_zero, List.set_cons_succ])
  (refine wpAnyH_take (i := 14) (v := ?_) rfl (by kernel_rfl) (by kernel_rfl) (by kernel_rfl) (fun _ _ _ h => h) (Or.inl ⟨rfl, ?_⟩) (by assumption) ?_; rotate_left; focus (intro W hSw; (try dsimp only at hSw); obtain ⟨i0, i1, i2, i3, i4, i5, i6, i7⟩ := HX.out _ hSw; go_simp; try (with_reducible rfl))); (try simp only [Act.put, List.getElem_toArray, List.getElem_cons_succ, List.getElem_cons_zero, List.setIfInBounds_toArray, List.set_cons_zero, List.set_cons_succ])
  (refine wpAnyH_take (i := 15) (v := ?_) rfl (by kernel_rfl) (by kernel_rfl) (by kernel_rfl) (fun _ _ _ h => h) (Or.inl ⟨rfl, ?_⟩) (by assumption) ?_; rotate_left; focus (intro W hSw; (try dsimp only at hSw); obtain ⟨i0, i1, i2, i3, i4, i5, i6, i7⟩ := HX.out _ hSw; go_simp; try (with_reducible rfl))); (try simp only [Act.put, List.getElem_toArray, List.getElem_cons_succ, List.getElem_cons_zero, List.setIfInBounds_toArray, List.set_cons_zero, List.set_cons_succ])
  (refine wpAnyH_take (i := 16) (v := ?_) rfl (by kernel_rfl) (by kernel_rfl) (by kernel_rfl) (fun _ _ _ h => h) (Or.inl ⟨rfl, ?_⟩) (by assumption) ?_; rotate_left; focus (intro W hSw; (try dsimp only at hSw); obtain ⟨i0, i1, i2, i3, i4, i5, i6, i7⟩ := HX.out _ hSw; go_simp; try (with_reducible rfl))); (try simp only [Act.put, List.getElem_toArray, List.getElem_cons_succ, List.getElem_cons_zero, List.setIfInBounds_toArray, List.set_cons_zero, List.set_cons_succ])
  refine wpAnyH_ready (rs := [11]) (by kernel_rfl) (by simp) ?_; refine AllReadyH.cons rfl (fun K hK => ?_) AllReadyH.nil
  go_simp; (go_at_call 68; refine (HC.out _).mono ?_; rintro en yw ⟨rfl, hb2⟩); refine hK.out _ _ (below_after hb2 hHeld) (fun hHeld2 => ?_); clear hb2; (clear hHeld; rename _ => hHeld; clear hK K; have hHeld : Below w.heap.size w _ := hHeld); (try simp only [Act.put, List.getElem_toArray, List.getElem_cons_succ, List.getElem_cons_zero, List.setIfInBounds_toArray, List.set_cons_zero, List.set_cons_succ])
  (refine wpAnyH_take (i := 17) (v := ?_) rfl (by kernel_rfl) (by kernel_rfl) (by kernel_rfl) (fun _ _ _ h => h) (Or.inl ⟨rfl, ?_⟩) (by assumption) ?_; rotate_left; focus (intro W hSw; (try dsimp only at hSw); obtain ⟨i0, i1, i2, i3, i4, i5, i6, i7⟩ := HX.out _ hSw; go_simp; try (with_reducible rfl))); (try simp only [Act.put, List.getElem_toArray, List.getElem_cons_succ, List.getElem_cons_zero, List.setIfInBounds_toArray, List.set_cons_zero, List.set_cons_succ])
  refine wpAnyH_ready (rs := [18]) (by kernel_rfl) (by simp) ?_; refine AllReadyH.cons rfl (fun K hK => ?_) AllReadyH.nil
  go_simp; have hOld := hHeld; refine hK.out _ _ (Below.alloc hHeld (Below.size hHeld) _) (fun hHeld2 => ?_); (clear hHeld; rename _ => hHeld; clear hK K; have hHeld : Below w.heap.size w _ := hHeld); (try simp only [Act.put, List.getElem_toArray, List.getElem_cons_succ, List.getElem_cons_zero, List.setIfInBounds_toArray, List.set_cons_zero, List.set_cons_succ])
  (refine wpAnyH_take (i := 19) (v := ?_) rfl (by kernel_rfl) (by kernel_rfl) (by kernel_rfl) (fun _ _ _ h => h) (Or.inl ⟨rfl, ?_⟩) (by assumption) ?_; rotate_left; focus (intro W hSw; (try dsimp only at hSw); obtain ⟨i0, i1, i2, i3, i4, i5, i6, i7⟩ := HX.out _ hSw; go_simp; try (with_reducible rfl))); (try simp only [Act.put, List.getElem_toArray, List.getElem_cons_succ, List.getElem_cons_zero, List.setIfInBounds_toArray, List.set_cons_zero, List.set_cons_succ])
  refine wpAnyH_done (by kernel_rfl) ?_ _
  obtain ⟨j0, j1, j2, j3, j4, j5, j6, j7⟩ := HX.out _ hHeld
  have hle := Below.size hOld
  have hFin := hHeld
  clear hHeld hOld
  go_wp2
  go_ret
  refine ⟨_, rfl, ⟨⟨?_, ?_⟩, ?_, ?_, ⟨j4, j5⟩, ⟨j0, j1⟩⟩, hle, hFin⟩
  all_goals first | (go_cell; done) | (simp; done)
theorem left_any (n : Nat) (F0 F1 L0 L1 G0 G1 : Int) (w : World) (hn : Nt w n F0 F1 L0 L1 G0 G1) (h0 : Wn F0) (h1 : Wn F1) (h2 : Wn L0) (h3 : Wn L1) :
    Calls Tryd.prog 41 #[.pointer (some ⟨n, 0, none⟩)] w fun e w' => ∃ n' : Nat, e = .returned (.pointer (some ⟨n', 0, none⟩)) ∧ Nt w' n' (F0 + L0) (F1 + L1) L0 L1 F0 F1 ∧ w.heap.size ≤ n' ∧ Below w.heap.size w w' := by
  obtain ⟨l, g, hx⟩ := hn
  refine (left_x n l g F0 F1 L0 L1 G0 G1 w hx h0 h1 h2 h3).mono ?_
  rintro e w' ⟨n', h1, h2, h3⟩
  exact ⟨n', h1, ⟨_, _, h2⟩, h3⟩
set_option maxHeartbeats 3200000 in
theorem right_x (n l g : Nat) (F0 F1 L0 L1 G0 G1 : Int) (w : World) (hn : Nx w n l g F0 F1 L0 L1 G0 G1) (h0 : Wn F0) (h1 : Wn F1) (h2 : Wn G0) (h3 : Wn G1) :
    Calls Tryd.prog 42 #[.pointer (some ⟨n, 0, none⟩)] w fun e w' => ∃ n' : Nat, e = .returned (.pointer (some ⟨n', 0, none⟩)) ∧ Nx w' n' n g (F0 + G0) (F1 + G1) F0 F1 G0 G1 ∧ w.heap.size ≤ n' ∧ Below w.heap.size w w' := by
  have HC := Lib.hid (fun w => sumOf_w F0 F1 G0 G1 w h0 h1 h2 h3)
  obtain ⟨hF, c2, c3, hL, hG⟩ := hn
  have HX : Hid (∀ W, Below w.heap.size w W → W.cell? ⟨n, 0, none⟩ = some (.int .i64 F0) ∧ W.cell? ⟨n, 1, none⟩ = some (.int .i64 F1) ∧ W.cell? ⟨n, 2, none⟩ = some (.pointer (some ⟨l, 0, none⟩)) ∧ W.cell? ⟨n, 3, none⟩ = some (.pointer (some ⟨g, 0, none⟩)) ∧ W.cell? ⟨l, 0, none⟩ = some (.int .i64 L0) ∧ W.cell? ⟨l, 1, none⟩ = some (.int .i64 L1) ∧ W.cell? ⟨g, 0, none⟩ = some (.int .i64 G0) ∧ W.cell? ⟨g, 1, none⟩ = some (.int .i64 G1)) := fun W hW =>
    ⟨(hF.below hW).1, (hF.below hW).2, (hW.cell (p := ⟨n, 2, none⟩) hF.lt).trans c2, (hW.cell (p := ⟨n, 3, none⟩) hF.lt).trans c3, (hL.below hW).1, (hL.below hW).2, (hG.below hW).1, (hG.below hW).2⟩
  clear hF c2 c3 hL hG h0 h1 h2 h3
  go_enter Tryd.func42, Tryd.ntmps42
  go_upto_region 1 with fail
  refine wp_region_held_drew (S := fun W => Below w.heap.size w W) (by kernel_rfl) ?_ (fun hHeld => ?_); focus ((try dsimp only); exact (Below.refl _ _).drew)
  have hHeld : Below w.heap.size w _ := hHeld
  obtain ⟨wD, hwD⟩ : ∃ wD, w.drew = wD := ⟨_, rfl⟩
  rw [hwD] at hHeld ⊢
  clear hwD
  (refine wpAnyH_take (i := 0) (v := ?_) rfl (by kernel_rfl) (by kernel_rfl) (by kernel_rfl) (fun _ _ _ h => h) (Or.inl ⟨rfl, ?_⟩) (by assumption) ?_; rotate_left; focus (intro W hSw; (try dsimp only at hSw); obtain ⟨i0, i1, i2, i3, i4, i5, i6, i7⟩ := HX.out _ hSw; go_simp; try (with_reducible rfl))); (try simp only [Act.put, List.getElem_toArray, List.getElem_cons_succ, List.getElem_cons_zero, List.setIfInBounds_toArray, List.set_cons_zero, List.set_cons_succ])
  (refine wpAnyH_take (i := 1) (v := ?_) rfl (by kernel_rfl) (by kernel_rfl) (by kernel_rfl) (fun _ _ _ h => h) (Or.inl ⟨rfl, ?_⟩) (by assumption) ?_; rotate_left; focus (intro W hSw; (try dsimp only at hSw); obtain ⟨i0, i1, i2, i3, i4, i5, i6, i7⟩ := HX.out _ hSw; go_simp; try (with_reducible rfl))); (try simp only [Act.put, List.getElem_toArray, List.getElem_cons_succ, List.getElem_cons_zero, List.setIfInBounds_toArray, List.set_cons_zero, List.set_cons_succ])
  (refine wpAnyH_take (i := 2) (v := ?_) rfl (by kernel_rfl) (by kernel_rfl) (by kernel_rfl) (fun _ _ _ h => h) (Or.inl ⟨rfl, ?_⟩) (by assumption) ?_; rotate_left; focus (intro W hSw; (try dsimp only at hSw); obtain ⟨i0, i1, i2, i3, i4, i5, i6, i7⟩ := HX.out _ hSw; go_simp; try (with_reducible rfl))); (try simp only [Act.put, List.getElem_toArray, List.getElem_cons_succ, List.getElem_cons_zero, List.setIfInBounds_toArray, List.set_cons_zero, List.set_cons_succ])
  (refine wpAnyH_take (i := 3) (v := ?_) rfl (by kernel_rfl) (by kernel_rfl) (by kernel_rfl) (fun _ _ _ h => h) (Or.inl ⟨rfl, ?_⟩) (by assumption) ?_; rotate_left; focus (intro W hSw; (try dsimp only at hSw); obtain ⟨i0, i1, i2, i3, i4, i5, i6, i7⟩ := HX.out _ hSw; go_simp; try (with_reducible rfl))); (try simp only [Act.put, List.getElem_toArray, List.getElem_cons_succ, List.getElem_cons_zero, List.setIfInBounds_toArray, List.set_cons_zero, List.set_cons_succ])
  (refine wpAnyH_take (i := 4) (v := ?_) rfl (by kernel_rfl) (by kernel_rfl) (by kernel_rfl) (fun _ _ _ h => h) (Or.inl ⟨rfl, ?_⟩) (by assumption) ?_; rotate_left; focus (intro W hSw; (try dsimp only at hSw); obtain ⟨i0, i1, i2, i3, i4, i5, i6, i7⟩ := HX.out _ hSw; go_simp; try (with_reducible rfl))); (try simp only [Act.put, List.getElem_toArray, List.getElem_cons_succ, List.getElem_cons_zero, List.setIfInBounds_toArray, List.set_cons_zero, List.set_cons_succ])
  (refine wpAnyH_take (i := 5) (v := ?_) rfl (by kernel_rfl) (by kernel_rfl) (by kernel_rfl) (fun _ _ _ h => h) (Or.inl ⟨rfl, ?_⟩) (by assumption) ?_; rotate_left; focus (intro W hSw; (try dsimp only at hSw); obtain ⟨i0, i1, i2, i3, i4, i5, i6, i7⟩ := HX.out _ hSw; go_simp; try (with_reducible rfl))); (try simp only [Act.put, List.getElem_toArray, List.getElem_cons_succ, List.getElem_cons_zero, List.setIfInBounds_toArray, List.set_cons_zero, List.set_cons_succ])
  (refine wpAnyH_take (i := 6) (v := ?_) rfl (by kernel_rfl) (by kernel_rfl) (by kernel_rfl) (fun _ _ _ h => h) (Or.inl ⟨rfl, ?_⟩) (by assumption) ?_; rotate_left; focus (intro W hSw; (try dsimp only at hSw); obtain ⟨i0, i1, i2, i3, i4, i5, i6, i7⟩ := HX.out _ hSw; go_simp; try (with_reducible rfl))); (try simp only [Act.put, List.getElem_toArray, List.getElem_cons_succ, List.getElem_cons_zero, List.setIfInBounds_toArray, List.set_cons_zero, List.set_cons_succ])
  (refine wpAnyH_take (i := 7) (v := ?_) rfl (by kernel_rfl) (by kernel_rfl) (by kernel_rfl) (fun _ _ _ h => h) (Or.inl ⟨rfl, ?_⟩) (by assumption) ?_; rotate_left; focus (intro W hSw; (try dsimp only at hSw); obtain ⟨i0, i1, i2, i3, i4, i5, i6, i7⟩ := HX.out _ hSw; go_simp; try (with_reducible rfl))); (try simp only [Act.put, List.getElem_toArray, List.getElem_cons_succ, List.getElem_cons_zero, List.setIfInBounds_toArray, List.set_cons_zero, List.set_cons_succ])
  (refine wpAnyH_take (i := 8) (v := ?_) rfl (by kernel_rfl) (by kernel_rfl) (by kernel_rfl) (fun _ _ _ h => h) (Or.inl ⟨rfl, ?_⟩) (by assumption) ?_; rotate_left; focus (intro W hSw; (try dsimp only at hSw); obtain ⟨i0, i1, i2, i3, i4, i5, i6, i7⟩ := HX.out _ hSw; go_simp; try (with_reducible rfl))); (try simp only [Act.put, List.getElem_toArray, List.getElem_cons_succ, List.getElem_cons_zero, List.setIfInBounds_toArray, List.set_cons_zero, List.set_cons_succ])
  (refine wpAnyH_take (i := 9) (v := ?_) rfl (by kernel_rfl) (by kernel_rfl) (by kernel_rfl) (fun _ _ _ h => h) (Or.inl ⟨rfl, ?_⟩) (by assumption) ?_; rotate_left; focus (intro W hSw; (try dsimp only at hSw); obtain ⟨i0, i1, i2, i3, i4, i5, i6, i7⟩ := HX.out _ hSw; go_simp; try (with_reducible rfl))); (try simp only [Act.put, List.getElem_toArray, List.getElem_cons_succ, List.getElem_cons_zero, List.setIfInBounds_toArray, List.set_cons_zero, List.set_cons_succ])
  (refine wpAnyH_take (i := 10) (v := ?_) rfl (by kernel_rfl) (by kernel_rfl) (by kernel_rfl) (fun _ _ _ h => h) (Or.inl ⟨rfl, ?_⟩) (by assumption) ?_; rotate_left; focus (intro W hSw; (try dsimp only at hSw); obtain ⟨i0, i1, i2, i3, i4, i5, i6, i7⟩ := HX.out _ hSw; go_simp; try (with_reducible rfl))); (try simp only [Act.put, List.getElem_toArray, List.getElem_cons_succ, List.getElem_cons_zero, List.setIfInBounds_toArray, List.set_cons_zero, List.set_cons_succ])
  (refine wpAnyH_take (i := 12) (v := ?_) rfl (by kernel_rfl) (by kernel_rfl) (by kernel_rfl) (fun _ _ _ h => h) (Or.inl ⟨rfl, ?_⟩) (by assumption) ?_; rotate_left; focus (intro W hSw; (try dsimp only at hSw); obtain ⟨i0, i1, i2, i3, i4, i5, i6, i7⟩ := HX.out _ hSw; go_simp; try (with_reducible rfl))); (try simp only [Act.put, List.getElem_toArray, List.getElem_cons_succ, List.getElem_cons_zero, List.setIfInBounds_toArray, List.set_cons_zero, List.set_cons_succ])
  (refine wpAnyH_take (i := 13) (v := ?_) rfl (by kernel_rfl) (by kernel_rfl) (by kernel_rfl) (fun _ _ _ h => h) (Or.inl ⟨rfl, ?_⟩) (by assumption) ?_; rotate_left; focus (intro W hSw; (try dsimp only at hSw); obtain ⟨i0, i1, i2, i3, i4, i5, i6, i7⟩ := HX.out _ hSw; go_simp; try (with_reducible rfl))); (try simp only [Act.put, List.getElem_toArray, List.getElem_cons_succ, List.getElem_cons_zero, List.setIfInBounds_toArray, List.set_cons_zero, List.set_cons_succ])
  (refine wpAnyH_take (i := 14) (v := ?_) rfl (by kernel_rfl) (by kernel_rfl) (by kernel_rfl) (fun _ _ _ h => h) (Or.inl ⟨rfl, ?_⟩) (by assumption) ?_; rotate_left; focus (intro W hSw; (try dsimp only at hSw); obtain ⟨i0, i1, i2, i3, i4, i5, i6, i7⟩ := HX.out _ hSw; go_simp; try (with_reducible rfl))); (try simp only [Act.put, List.getElem_toArray, List.getElem_cons_succ, List.getElem_cons_zero, List.setIfInBounds_toArray, List.set_cons_zero, List.set_cons_succ])
  (refine wpAnyH_take (i := 15) (v := ?_) rfl (by kernel_rfl) (by kernel_rfl) (by kernel_rfl) (fun _ _ _ h => h) (Or.inl ⟨rfl, ?_⟩) (by assumption) ?_; rotate_left; focus (intro W hSw; (try dsimp only at hSw); obtain ⟨i0, i1, i2, i3, i4, i5, i6, i7⟩ := HX.out _ hSw; go_simp; try (with_reducible rfl))); (try simp only [Act.put, List.getElem_toArray, List.getElem_cons_succ, List.getElem_cons_zero, List.setIfInBounds_toArray, List.set_cons_zero, List.set_cons_succ])
  (refine wpAnyH_take (i := 16) (v := ?_) rfl (by kernel_rfl) (by kernel_rfl) (by kernel_rfl) (fun _ _ _ h => h) (Or.inl ⟨rfl, ?_⟩) (by assumption) ?_; rotate_left; focus (intro W hSw; (try dsimp only at hSw); obtain ⟨i0, i1, i2, i3, i4, i5, i6, i7⟩ := HX.out _ hSw; go_simp; try (with_reducible rfl))); (try simp only [Act.put, List.getElem_toArray, List.getElem_cons_succ, List.getElem_cons_zero, List.setIfInBounds_toArray, List.set_cons_zero, List.set_cons_succ])
  refine wpAnyH_ready (rs := [11]) (by kernel_rfl) (by simp) ?_; refine AllReadyH.cons rfl (fun K hK => ?_) AllReadyH.nil
  go_simp; (go_at_call 68; refine (HC.out _).mono ?_; rintro en yw ⟨rfl, hb2⟩); refine hK.out _ _ (below_after hb2 hHeld) (fun hHeld2 => ?_); clear hb2; (clear hHeld; rename _ => hHeld; clear hK K; have hHeld : Below w.heap.size w _ := hHeld); (try simp only [Act.put, List.getElem_toArray, List.getElem_cons_succ, List.getElem_cons_zero, List.setIfInBounds_toArray, List.set_cons_zero, List.set_cons_succ])
  (refine wpAnyH_take (i := 17) (v := ?_) rfl (by kernel_rfl) (by kernel_rfl) (by kernel_rfl) (fun _ _ _ h => h) (Or.inl ⟨rfl, ?_⟩) (by assumption) ?_; rotate_left; focus (intro W hSw; (try dsimp only at hSw); obtain ⟨i0, i1, i2, i3, i4, i5, i6, i7⟩ := HX.out _ hSw; go_simp; try (with_reducible rfl))); (try simp only [Act.put, List.getElem_toArray, List.getElem_cons_succ, List.getElem_cons_zero, List.setIfInBounds_toArray, List.set_cons_zero, List.set_cons_succ])
  refine wpAnyH_ready (rs := [18]) (by kernel_rfl) (by simp) ?_; refine AllReadyH.cons rfl (fun K hK => ?_) AllReadyH.nil
  go_simp; have hOld := hHeld; refine hK.out _ _ (Below.alloc hHeld (Below.size hHeld) _) (fun hHeld2 => ?_); (clear hHeld; rename _ => hHeld; clear hK K; have hHeld : Below w.heap.size w _ := hHeld); (try simp only [Act.put, List.getElem_toArray, List.getElem_cons_succ, List.getElem_cons_zero, List.setIfInBounds_toArray, List.set_cons_zero, List.set_cons_succ])
  (refine wpAnyH_take (i := 19) (v := ?_) rfl (by kernel_rfl) (by kernel_rfl) (by kernel_rfl) (fun _ _ _ h => h) (Or.inl ⟨rfl, ?_⟩) (by assumption) ?_; rotate_left; focus (intro W hSw; (try dsimp only at hSw); obtain ⟨i0, i1, i2, i3, i4, i5, i6, i7⟩ := HX.out _ hSw; go_simp; try (with_reducible rfl))); (try simp only [Act.put, List.getElem_toArray, List.getElem_cons_succ, List.getElem_cons_zero, List.setIfInBounds_toArray, List.set_cons_zero, List.set_cons_succ])
  refine wpAnyH_done (by kernel_rfl) ?_ _
  obtain ⟨j0, j1, j2, j3, j4, j5, j6, j7⟩ := HX.out _ hHeld
  have hle := Below.size hOld
  have hFin := hHeld
  clear hHeld hOld
  go_wp2
  go_ret
  refine ⟨_, rfl, ⟨⟨?_, ?_⟩, ?_, ?_, ⟨j0, j1⟩, ⟨j6, j7⟩⟩, hle, hFin⟩
  all_goals first | (go_cell; done) | (simp; done)
theorem right_any (n : Nat) (F0 F1 L0 L1 G0 G1 : Int) (w : World) (hn : Nt w n F0 F1 L0 L1 G0 G1) (h0 : Wn F0) (h1 : Wn F1) (h2 : Wn G0) (h3 : Wn G1) :
    Calls Tryd.prog 42 #[.pointer (some ⟨n, 0, none⟩)] w fun e w' => ∃ n' : Nat, e = .returned (.pointer (some ⟨n', 0, none⟩)) ∧ Nt w' n' (F0 + G0) (F1 + G1) F0 F1 G0 G1 ∧ w.heap.size ≤ n' ∧ Below w.heap.size w w' := by
  obtain ⟨l, g, hx⟩ := hn
  refine (right_x n l g F0 F1 L0 L1 G0 G1 w hx h0 h1 h2 h3).mono ?_
  rintro e w' ⟨n', h1, h2, h3⟩
  exact ⟨n', h1, ⟨_, _, h2⟩, h3⟩
end Go.Proofs.YtohnmogejidpdabDoor
