/-
  The program's iterator over the points of a sail, by its contract (own work).
-/
import Derived.Test.YtjiaokcbhpmodaaRng
import Derived.Test.YtjiaokcbhpmodaaSlC
import Derived.Test.YtjiaokcbhpmodaaAng
import Derived.Test.YtjiaokcbhpmodaaMtc
import Derived.Deep.DeepCutAuto
import Derived.Deep.RegionWith
namespace Go.Proofs.Ytjiaokcbhpmodaa
open Go.ChangeShapes Go.WideShapes Go.ChangeAt Go.RowKit Go.Shelf
set_option linter.unusedVariables false
set_option linter.unusedSimpArgs false
attribute [local go_sem] Oper.semAt_some

/-- A block whose first two cells hold a point. -/
def Pc (W : World) (g : Nat) (p : Int × Int) : Prop :=
  W.cell? ⟨g, 0, none⟩ = some (.int .i64 p.1) ∧ W.cell? ⟨g, 1, none⟩ = some (.int .i64 p.2) ∧ W.frozen? ⟨g, 0, none⟩ = false ∧ W.frozen? ⟨g, 1, none⟩ = false ∧ g < W.heap.size
theorem Pc.of {W : World} {g : Nat} {p : Int × Int} (h : Pb W g p) : Pc W g p := ⟨h.c0, h.c1, h.f0, h.f1, h.lt⟩
theorem Pc.same {W W' : World} {g : Nat} {p : Int × Int} (h : Pc W g p) (he : W'.heap[g]? = W.heap[g]?) : Pc W' g p :=
  ⟨(World.cell?_of_block (a := ⟨g, 0, none⟩) he).trans h.1, (World.cell?_of_block (a := ⟨g, 1, none⟩) he).trans h.2.1, (World.frozen?_of_block (a := ⟨g, 0, none⟩) he).trans h.2.2.1, (World.frozen?_of_block (a := ⟨g, 1, none⟩) he).trans h.2.2.2.1, by
    have hl := h.2.2.2.2
    rw [Array.getElem?_eq_getElem hl] at he
    exact (Array.getElem?_eq_some_iff.1 he).1⟩
theorem Pc.below {W W' : World} {g : Nat} {p : Int × Int} (h : Pc W g p) (hb : Below W.heap.size W W') : Pc W' g p := h.same (hb.block g h.2.2.2.2)
theorem Pc.set {W : World} {g : Nat} {p : Int × Int} (h : Pc W g p) (x y : Int) : Pc ((W.setCell ⟨g, 0, none⟩ (.int .i64 x)).setCell ⟨g, 1, none⟩ (.int .i64 y)) g (x, y) := by
  obtain ⟨h0, h1, h2, h3, h4⟩ := h
  refine ⟨?_, ?_, ?_, ?_, ?_⟩
  all_goals first | (go_cell; done) | (simp [*]; done)
theorem Pc.far {W : World} {g : Nat} {p : Int × Int} (h : Pc W g p) (a : Addr) (v : Value) (hne : g ≠ a.block) : Pc (W.setCell a v) g p := h.same (Below.heap_setCell W a v g hne)
/-- The point that a block's first two cells hold. -/
def ptAt (w : World) (g : Nat) : Int × Int :=
  (match w.cell? ⟨g, 0, none⟩ with | some (.int _ x) => x | _ => 0, match w.cell? ⟨g, 1, none⟩ with | some (.int _ x) => x | _ => 0)
theorem ptAt_of {w : World} {g : Nat} {p : Int × Int} (h : Pc w g p) : ptAt w g = p := by
  unfold ptAt
  rw [h.1, h.2.1]
theorem below_heap {W W' : World} (hs : ∀ k, k < W.heap.size → W'.heap[k]? = W.heap[k]?) {k : Nat} (hk : k < W.heap.size) : k < W'.heap.size := by
  have := hs k hk
  rw [Array.getElem?_eq_getElem hk] at this
  exact (Array.getElem?_eq_some_iff.1 this).1

/-- One point handed to yield. -/
def ep (p : Int × Int) : Array Value := #[.agg #[.int .i64 p.1, .int .i64 p.2]]
set_option maxHeartbeats 2000000 in
theorem sail1_any (l Ba Bb : Nat) (a0 a1 b0 b1 : Int) (ha : isAn (a0, a1) (b0, b1) = true) (J : (Nat → Prop) → List (Int × Int) → World → Prop) (Jx : List (Int × Int) → World → Prop) (W : World)
    (hA : Pc W Ba (a0, a1)) (hB : Pc W Bb (b0, b1))
    (hJ : ∀ G G' pre W1 W2, J G pre W1 → Turn G W1 W2 → (∀ k, G' k → G k ∨ (W1.heap.size ≤ k ∧ k < W2.heap.size)) → J G' pre W2)
    (hY : ∀ G pre x W1, J G pre W1 → pre.length < (slI (a0, a1) (b0, b1)).length → YieldAt Fence.wide 4 Try.prog l (ep x) W1 fun e W' =>
      (e = .returned (.bool true) ∧ J G (pre ++ [x]) W' ∧ ∀ k, G k → W'.heap[k]? = W1.heap[k]?) ∨ (e = .returned (.bool false) ∧ Jx (pre ++ [x]) W'))
    (h0 : J (fun k => k = Ba ∨ k = Bb) [] W) :
    Calls Try.prog 63 #[.func (.yield l) #[] #[], .pointer (some ⟨Ba, 0, none⟩), .pointer (some ⟨Bb, 0, none⟩)] W fun e W' => (∃ v, e = .returned v) ∧
      ((∃ G, J G (slI (a0, a1) (b0, b1)) W') ∨ (∃ pre, pre.length ≤ (slI (a0, a1) (b0, b1)).length ∧ Jx pre W')) := by
  obtain ⟨p1, p2, g1, g2, d1, d2⟩ := isAn_parts ha
  have HP1 := Lib.hid p1
  have HP2 := Lib.hid p2
  have HG1 := Lib.hid g1
  have HA := Lib.hid hA
  have HB := Lib.hid hB
  obtain ⟨ca0, ca1, _, _, ltA⟩ := hA
  have ltB := hB.2.2.2.2
  have HF := Lib.hid (sl_first ha)
  have HM := Lib.hid (mateI_ok (a := a0) (b := a1) p1 g1).2
  obtain ⟨full, hfull⟩ : ∃ l, slI (a0, a1) (b0, b1) = l := ⟨_, rfl⟩
  have HFL := Lib.hid hfull
  rw [hfull] at hY ⊢
  have HAN := Lib.hid ha
  clear hB p1 p2 g1 g2 hfull ha
  have HJ := Lib.hid hJ
  have HY := Lib.hid hY
  have H0 := Lib.hid h0
  clear hJ hY h0
  have HPS : Hid (preS (a0, a1) = (-(mateI a0 a1).1, -(mateI a0 a1).2)) := rfl
  obtain ⟨⟨m0, m1⟩, hm⟩ : ∃ m, mateI a0 a1 = m := ⟨_, rfl⟩
  have HMB : Hid (Bn m0 ∧ Bn m1) := by
    have := HM.out
    rw [hm] at this
    exact ⟨isPt_bn1 this, isPt_bn2 this⟩
  rw [hm] at HPS
  have HMI := Lib.hid hm
  clear HM hm
  go_enter Try.func63, Try.ntmps63
  go_upto_region 1 with (first | (go_at_call 64; refine (MateOf_mate _ _ _ HP1.out HG1.out).mono ?_; rw [HMI.out]; rintro e wn ⟨rfl, hb⟩; have hwn := hb.size; have c0 := (hb.cell (p := ⟨Ba, 0, none⟩) ltA).trans ca0; have c1 := (hb.cell (p := ⟨Ba, 1, none⟩) ltA).trans ca1))
  obtain ⟨wB, hwB⟩ : ∃ wB, wB = wn.alloc (.cells #[.int .i64 m0, .int .i64 m1] 24) := ⟨_, rfl⟩
  rw [← hwB]
  have hbs : wB.heap.size = wn.heap.size + 1 := by rw [hwB]; simp
  have HBW : Hid (Below W.heap.size W wB) := by
    show Below W.heap.size W wB
    rw [hwB]; exact hb.alloc hwn _
  have HK : Hid (∀ W', Below wB.heap.size wB W' → W'.cell? ⟨Ba, 0, none⟩ = some (.int .i64 a0) ∧ W'.cell? ⟨Ba, 1, none⟩ = some (.int .i64 a1) ∧ W'.cell? ⟨wn.heap.size, 0, none⟩ = some (.int .i64 m0) ∧ W'.cell? ⟨wn.heap.size, 1, none⟩ = some (.int .i64 m1) ∧ wn.heap.size < W'.heap.size) := by
    intro W' hB
    have hz := hB.size
    have q0 := (HBW.out.cell (p := ⟨Ba, 0, none⟩) ltA).trans ca0
    have q1 := (HBW.out.cell (p := ⟨Ba, 1, none⟩) ltA).trans ca1
    refine ⟨?_, ?_, ?_, ?_, by omega⟩
    · rw [(bcell hB).1 _ _ (by omega)]; exact q0
    · rw [(bcell hB).1 _ _ (by omega)]; exact q1
    · rw [(bcell hB).1 _ _ (by omega), hwB]; go_cell
    · rw [(bcell hB).1 _ _ (by omega), hwB]; go_cell
  have hbs2 : wn.heap.size + 1 ≤ wB.heap.size := by omega
  clear hwB hbs c0 c1 hb
  go_cut [6, 7] (fun v6 v7 wx => ∃ Gu Gv : Nat, v6 = .pointer (some ⟨Gu, 0, none⟩) ∧ v7 = .pointer (some ⟨Gv, 0, none⟩) ∧ Gu ≠ Gv ∧ wB.heap.size ≤ Gu ∧ wB.heap.size ≤ Gv ∧ Pc wx Gu (-m0, -m1) ∧ Pc wx Gv (a0, a1) ∧ Below wB.heap.size wB wx)
  case first =>
    refine wp_region_held_drew (S := fun W => Below wB.heap.size wB W) (by kernel_rfl) ?_ (fun hHeld => ?_); focus ((try dsimp only); (repeat' (first | (with_reducible exact Below.refl _ _) | (with_reducible refine Below.alloc ?_ ?_ _) | (with_reducible refine Below.setCell ?_ ?_ _) | (with_reducible refine Below.drew ?_) | (with_reducible refine below_drewN ?_ _) | (with_reducible assumption) | (with_reducible refine below_after (by with_reducible assumption) ?_) | go_size)))
    have hHeld : Below wB.heap.size wB _ := hHeld
    obtain ⟨wD, hwD⟩ : ∃ wD, wB.drew = wD := ⟨_, rfl⟩
    rw [hwD] at hHeld ⊢; clear hwD
    (refine wpAnyH_take (i := 0) (v := ?_) rfl (by kernel_rfl) (by kernel_rfl) (by kernel_rfl) (fun _ _ _ h => h) (Or.inl ⟨rfl, ?_⟩) (by assumption) ?_; rotate_left; focus (intro W hSw; (try dsimp only at hSw); obtain ⟨x0, x1, y0, y1, xz⟩ := HK.out _ hSw; go_simp; try (with_reducible rfl))); (try simp only [Act.put, List.getElem_toArray, List.getElem_cons_succ, List.getElem_cons_zero, List.setIfInBounds_toArray, List.set_cons_zero, List.set_cons_succ])
    (refine wpAnyH_take (i := 1) (v := ?_) rfl (by kernel_rfl) (by kernel_rfl) (by kernel_rfl) (fun _ _ _ h => h) (Or.inl ⟨rfl, ?_⟩) (by assumption) ?_; rotate_left; focus (intro W hSw; (try dsimp only at hSw); obtain ⟨x0, x1, y0, y1, xz⟩ := HK.out _ hSw; go_simp; try (with_reducible rfl))); (try simp only [Act.put, List.getElem_toArray, List.getElem_cons_succ, List.getElem_cons_zero, List.setIfInBounds_toArray, List.set_cons_zero, List.set_cons_succ])
    (refine wpAnyH_take (i := 3) (v := ?_) rfl (by kernel_rfl) (by kernel_rfl) (by kernel_rfl) (fun _ _ _ h => h) (Or.inl ⟨rfl, ?_⟩) (by assumption) ?_; rotate_left; focus (intro W hSw; (try dsimp only at hSw); obtain ⟨x0, x1, y0, y1, xz⟩ := HK.out _ hSw; go_simp; try (with_reducible rfl))); (try simp only [Act.put, List.getElem_toArray, List.getElem_cons_succ, List.getElem_cons_zero, List.setIfInBounds_toArray, List.set_cons_zero, List.set_cons_succ])
    refine wpAnyH_ready (rs := [2, 4, 5]) (by kernel_rfl) (by simp) ?_; refine AllReadyH.cons rfl (fun K hK => ?_) (AllReadyH.cons rfl (fun K hK => ?_) (AllReadyH.cons rfl (fun K hK => ?_) AllReadyH.nil))
    · go_simp; (go_at_call 53; refine (plusTimes_any _ _ _ _ _ _ ⟨by omega, by omega⟩ ⟨by omega, by omega⟩ HMB.out.1 HMB.out.2 ⟨by omega, by omega⟩).mono ?_; rintro en w2 ⟨rfl, hb2⟩; have hz2 := hb2.size)
      refine hK.out _ _ (below_after hb2 hHeld) (fun hHeld2 => ?_); clear hb2; (clear hHeld; rename _ => hHeld; clear hK K; have hHeld : Below wB.heap.size wB _ := hHeld); (try simp only [Act.put, List.getElem_toArray, List.getElem_cons_succ, List.getElem_cons_zero, List.setIfInBounds_toArray, List.set_cons_zero, List.set_cons_succ])
      refine wpAnyH_ready (rs := [4, 5]) (by kernel_rfl) (by simp) ?_; refine AllReadyH.cons rfl (fun K hK => ?_) (AllReadyH.cons rfl (fun K hK => ?_) AllReadyH.nil)
      · go_simp
        have le_u : wB.heap.size ≤ w2.heap.size := Below.size hHeld
        have HU := Lib.hid (Pc.of (Pb.new w2 0 0))
        refine hK.out _ _ (Below.alloc hHeld (Below.size hHeld) _) (fun hHeld2 => ?_); (clear hHeld; rename _ => hHeld; clear hK K; have hHeld : Below wB.heap.size wB _ := hHeld); (try simp only [Act.put, List.getElem_toArray, List.getElem_cons_succ, List.getElem_cons_zero, List.setIfInBounds_toArray, List.set_cons_zero, List.set_cons_succ])
        obtain ⟨wu, hwx⟩ : ∃ wx, w2.alloc (.cells #[.int .i64 0, .int .i64 0] 24) = wx := ⟨_, rfl⟩
        rw [hwx] at HU hHeld ⊢; clear hwx
        refine wpAnyH_ready (rs := [5]) (by kernel_rfl) (by simp) ?_; refine AllReadyH.cons rfl (fun K hK => ?_) AllReadyH.nil
        go_simp
        have le_v : wB.heap.size ≤ wu.heap.size := Below.size hHeld
        have hne : w2.heap.size ≠ wu.heap.size := by have := HU.out.2.2.2.2; omega
        have HU := Lib.hid (HU.out.below ((Below.refl _ _).alloc (Nat.le_refl _) (.cells #[.int .i64 0, .int .i64 0] 24)))
        have HV := Lib.hid (Pc.of (Pb.new wu 0 0))
        refine hK.out _ _ (Below.alloc hHeld (Below.size hHeld) _) (fun hHeld2 => ?_); (clear hHeld; rename _ => hHeld; clear hK K; have hHeld : Below wB.heap.size wB _ := hHeld); (try simp only [Act.put, List.getElem_toArray, List.getElem_cons_succ, List.getElem_cons_zero, List.setIfInBounds_toArray, List.set_cons_zero, List.set_cons_succ])
        obtain ⟨wv, hwx⟩ : ∃ wx, wu.alloc (.cells #[.int .i64 0, .int .i64 0] 24) = wx := ⟨_, rfl⟩
        rw [hwx] at HU HV hHeld ⊢; clear hwx
        refine wpAnyH_ready (rs := [6]) (by kernel_rfl) (by simp) ?_; refine AllReadyH.cons rfl (fun K hK => ?_) AllReadyH.nil
        obtain ⟨u0, u1, u2, u3, u4⟩ := HU.out
        obtain ⟨v0, v1, v2, v3, v4⟩ := HV.out
        go_simp
        clear u0 u1 u2 u3 v0 v1 v2 v3
        have HV := Lib.hid ((HV.out.far ⟨w2.heap.size, 0, none⟩ (.int .i64 (-m0)) (by show wu.heap.size ≠ w2.heap.size; omega)).far ⟨w2.heap.size, 1, none⟩ (.int .i64 (-m1)) (by show wu.heap.size ≠ w2.heap.size; omega))
        have HU := Lib.hid (HU.out.set (-m0) (-m1))
        refine hK.out _ _ (Below.setCell (Below.setCell hHeld (p := ⟨w2.heap.size, 0, none⟩) le_u _) (p := ⟨w2.heap.size, 1, none⟩) le_u _) (fun hHeld2 => ?_)
        clear u4 v4
        (clear hHeld; rename _ => hHeld; clear hK K; have hHeld : Below wB.heap.size wB _ := hHeld); (try simp only [Act.put, List.getElem_toArray, List.getElem_cons_succ, List.getElem_cons_zero, List.setIfInBounds_toArray, List.set_cons_zero, List.set_cons_succ])
        refine wpAnyH_ready (rs := [7]) (by kernel_rfl) (by simp) ?_; refine AllReadyH.cons rfl (fun K hK => ?_) AllReadyH.nil
        obtain ⟨u0, u1, u2, u3, u4⟩ := HU.out
        obtain ⟨v0, v1, v2, v3, v4⟩ := HV.out
        go_simp
        clear u0 u1 u2 u3 v0 v1 v2 v3
        have HU := Lib.hid ((HU.out.far ⟨wu.heap.size, 0, none⟩ (.int .i64 a0) (by show w2.heap.size ≠ wu.heap.size; omega)).far ⟨wu.heap.size, 1, none⟩ (.int .i64 a1) (by show w2.heap.size ≠ wu.heap.size; omega))
        have HV := Lib.hid (HV.out.set a0 a1)
        refine hK.out _ _ (Below.setCell (Below.setCell hHeld (p := ⟨wu.heap.size, 0, none⟩) le_v _) (p := ⟨wu.heap.size, 1, none⟩) le_v _) (fun hHeld2 => ?_)
        clear u4 v4
        (clear hHeld; rename _ => hHeld; clear hK K; have hHeld : Below wB.heap.size wB _ := hHeld); (try simp only [Act.put, List.getElem_toArray, List.getElem_cons_succ, List.getElem_cons_zero, List.setIfInBounds_toArray, List.set_cons_zero, List.set_cons_succ])
        refine wpAnyH_done (by kernel_rfl) ?_ _
        go_wp2_with fail
        go_meet
        exact ⟨_, _, rfl, rfl, hne, le_u, le_v, HU.out, HV.out, hHeld⟩
      · go_simp
        have le_v : wB.heap.size ≤ w2.heap.size := Below.size hHeld
        have HV := Lib.hid (Pc.of (Pb.new w2 0 0))
        refine hK.out _ _ (Below.alloc hHeld (Below.size hHeld) _) (fun hHeld2 => ?_); (clear hHeld; rename _ => hHeld; clear hK K; have hHeld : Below wB.heap.size wB _ := hHeld); (try simp only [Act.put, List.getElem_toArray, List.getElem_cons_succ, List.getElem_cons_zero, List.setIfInBounds_toArray, List.set_cons_zero, List.set_cons_succ])
        obtain ⟨wv, hwx⟩ : ∃ wx, w2.alloc (.cells #[.int .i64 0, .int .i64 0] 24) = wx := ⟨_, rfl⟩
        rw [hwx] at HV hHeld ⊢; clear hwx
        refine wpAnyH_ready (rs := [4]) (by kernel_rfl) (by simp) ?_; refine AllReadyH.cons rfl (fun K hK => ?_) AllReadyH.nil
        go_simp
        have le_u : wB.heap.size ≤ wv.heap.size := Below.size hHeld
        have hne : wv.heap.size ≠ w2.heap.size := by have := HV.out.2.2.2.2; omega
        have HV := Lib.hid (HV.out.below ((Below.refl _ _).alloc (Nat.le_refl _) (.cells #[.int .i64 0, .int .i64 0] 24)))
        have HU := Lib.hid (Pc.of (Pb.new wv 0 0))
        refine hK.out _ _ (Below.alloc hHeld (Below.size hHeld) _) (fun hHeld2 => ?_); (clear hHeld; rename _ => hHeld; clear hK K; have hHeld : Below wB.heap.size wB _ := hHeld); (try simp only [Act.put, List.getElem_toArray, List.getElem_cons_succ, List.getElem_cons_zero, List.setIfInBounds_toArray, List.set_cons_zero, List.set_cons_succ])
        obtain ⟨wu, hwx⟩ : ∃ wx, wv.alloc (.cells #[.int .i64 0, .int .i64 0] 24) = wx := ⟨_, rfl⟩
        rw [hwx] at HU HV hHeld ⊢; clear hwx
        refine wpAnyH_ready (rs := [6]) (by kernel_rfl) (by simp) ?_; refine AllReadyH.cons rfl (fun K hK => ?_) AllReadyH.nil
        obtain ⟨u0, u1, u2, u3, u4⟩ := HU.out
        obtain ⟨v0, v1, v2, v3, v4⟩ := HV.out
        go_simp
        clear u0 u1 u2 u3 v0 v1 v2 v3
        have HV := Lib.hid ((HV.out.far ⟨wv.heap.size, 0, none⟩ (.int .i64 (-m0)) (by show w2.heap.size ≠ wv.heap.size; omega)).far ⟨wv.heap.size, 1, none⟩ (.int .i64 (-m1)) (by show w2.heap.size ≠ wv.heap.size; omega))
        have HU := Lib.hid (HU.out.set (-m0) (-m1))
        refine hK.out _ _ (Below.setCell (Below.setCell hHeld (p := ⟨wv.heap.size, 0, none⟩) le_u _) (p := ⟨wv.heap.size, 1, none⟩) le_u _) (fun hHeld2 => ?_)
        clear u4 v4
        (clear hHeld; rename _ => hHeld; clear hK K; have hHeld : Below wB.heap.size wB _ := hHeld); (try simp only [Act.put, List.getElem_toArray, List.getElem_cons_succ, List.getElem_cons_zero, List.setIfInBounds_toArray, List.set_cons_zero, List.set_cons_succ])
        refine wpAnyH_ready (rs := [7]) (by kernel_rfl) (by simp) ?_; refine AllReadyH.cons rfl (fun K hK => ?_) AllReadyH.nil
        obtain ⟨u0, u1, u2, u3, u4⟩ := HU.out
        obtain ⟨v0, v1, v2, v3, v4⟩ := HV.out
        go_simp
        clear u0 u1 u2 u3 v0 v1 v2 v3
        have HU := Lib.hid ((HU.out.far ⟨w2.heap.size, 0, none⟩ (.int .i64 a0) (by show wv.heap.size ≠ w2.heap.size; omega)).far ⟨w2.heap.size, 1, none⟩ (.int .i64 a1) (by show wv.heap.size ≠ w2.heap.size; omega))
        have HV := Lib.hid (HV.out.set a0 a1)
        refine hK.out _ _ (Below.setCell (Below.setCell hHeld (p := ⟨w2.heap.size, 0, none⟩) le_v _) (p := ⟨w2.heap.size, 1, none⟩) le_v _) (fun hHeld2 => ?_)
        clear u4 v4
        (clear hHeld; rename _ => hHeld; clear hK K; have hHeld : Below wB.heap.size wB _ := hHeld); (try simp only [Act.put, List.getElem_toArray, List.getElem_cons_succ, List.getElem_cons_zero, List.setIfInBounds_toArray, List.set_cons_zero, List.set_cons_succ])
        refine wpAnyH_done (by kernel_rfl) ?_ _
        go_wp2_with fail
        go_meet
        exact ⟨_, _, rfl, rfl, hne, le_u, le_v, HU.out, HV.out, hHeld⟩
    · go_simp
      have le_u : wB.heap.size ≤ wD.heap.size := Below.size hHeld
      have HU := Lib.hid (Pc.of (Pb.new wD 0 0))
      refine hK.out _ _ (Below.alloc hHeld (Below.size hHeld) _) (fun hHeld2 => ?_); (clear hHeld; rename _ => hHeld; clear hK K; have hHeld : Below wB.heap.size wB _ := hHeld); (try simp only [Act.put, List.getElem_toArray, List.getElem_cons_succ, List.getElem_cons_zero, List.setIfInBounds_toArray, List.set_cons_zero, List.set_cons_succ])
      obtain ⟨wu, hwx⟩ : ∃ wx, wD.alloc (.cells #[.int .i64 0, .int .i64 0] 24) = wx := ⟨_, rfl⟩
      rw [hwx] at HU hHeld ⊢; clear hwx
      refine wpAnyH_ready (rs := [2, 5]) (by kernel_rfl) (by simp) ?_; refine AllReadyH.cons rfl (fun K hK => ?_) (AllReadyH.cons rfl (fun K hK => ?_) AllReadyH.nil)
      · go_simp; (go_at_call 53; refine (plusTimes_any _ _ _ _ _ _ ⟨by omega, by omega⟩ ⟨by omega, by omega⟩ HMB.out.1 HMB.out.2 ⟨by omega, by omega⟩).mono ?_; rintro en w2 ⟨rfl, hb2⟩; have hz2 := hb2.size)
        have HU := Lib.hid (HU.out.below hb2)
        refine hK.out _ _ (below_after hb2 hHeld) (fun hHeld2 => ?_); clear hb2; (clear hHeld; rename _ => hHeld; clear hK K; have hHeld : Below wB.heap.size wB _ := hHeld); (try simp only [Act.put, List.getElem_toArray, List.getElem_cons_succ, List.getElem_cons_zero, List.setIfInBounds_toArray, List.set_cons_zero, List.set_cons_succ])
        refine wpAnyH_ready (rs := [5]) (by kernel_rfl) (by simp) ?_; refine AllReadyH.cons rfl (fun K hK => ?_) AllReadyH.nil
        go_simp
        have le_v : wB.heap.size ≤ w2.heap.size := Below.size hHeld
        have hne : wD.heap.size ≠ w2.heap.size := by have := HU.out.2.2.2.2; omega
        have HU := Lib.hid (HU.out.below ((Below.refl _ _).alloc (Nat.le_refl _) (.cells #[.int .i64 0, .int .i64 0] 24)))
        have HV := Lib.hid (Pc.of (Pb.new w2 0 0))
        refine hK.out _ _ (Below.alloc hHeld (Below.size hHeld) _) (fun hHeld2 => ?_); (clear hHeld; rename _ => hHeld; clear hK K; have hHeld : Below wB.heap.size wB _ := hHeld); (try simp only [Act.put, List.getElem_toArray, List.getElem_cons_succ, List.getElem_cons_zero, List.setIfInBounds_toArray, List.set_cons_zero, List.set_cons_succ])
        obtain ⟨wv, hwx⟩ : ∃ wx, w2.alloc (.cells #[.int .i64 0, .int .i64 0] 24) = wx := ⟨_, rfl⟩
        rw [hwx] at HU HV hHeld ⊢; clear hwx
        refine wpAnyH_ready (rs := [6]) (by kernel_rfl) (by simp) ?_; refine AllReadyH.cons rfl (fun K hK => ?_) AllReadyH.nil
        obtain ⟨u0, u1, u2, u3, u4⟩ := HU.out
        obtain ⟨v0, v1, v2, v3, v4⟩ := HV.out
        go_simp
        clear u0 u1 u2 u3 v0 v1 v2 v3
        have HV := Lib.hid ((HV.out.far ⟨wD.heap.size, 0, none⟩ (.int .i64 (-m0)) (by show w2.heap.size ≠ wD.heap.size; omega)).far ⟨wD.heap.size, 1, none⟩ (.int .i64 (-m1)) (by show w2.heap.size ≠ wD.heap.size; omega))
        have HU := Lib.hid (HU.out.set (-m0) (-m1))
        refine hK.out _ _ (Below.setCell (Below.setCell hHeld (p := ⟨wD.heap.size, 0, none⟩) le_u _) (p := ⟨wD.heap.size, 1, none⟩) le_u _) (fun hHeld2 => ?_)
        clear u4 v4
        (clear hHeld; rename _ => hHeld; clear hK K; have hHeld : Below wB.heap.size wB _ := hHeld); (try simp only [Act.put, List.getElem_toArray, List.getElem_cons_succ, List.getElem_cons_zero, List.setIfInBounds_toArray, List.set_cons_zero, List.set_cons_succ])
        refine wpAnyH_ready (rs := [7]) (by kernel_rfl) (by simp) ?_; refine AllReadyH.cons rfl (fun K hK => ?_) AllReadyH.nil
        obtain ⟨u0, u1, u2, u3, u4⟩ := HU.out
        obtain ⟨v0, v1, v2, v3, v4⟩ := HV.out
        go_simp
        clear u0 u1 u2 u3 v0 v1 v2 v3
        have HU := Lib.hid ((HU.out.far ⟨w2.heap.size, 0, none⟩ (.int .i64 a0) (by show wD.heap.size ≠ w2.heap.size; omega)).far ⟨w2.heap.size, 1, none⟩ (.int .i64 a1) (by show wD.heap.size ≠ w2.heap.size; omega))
        have HV := Lib.hid (HV.out.set a0 a1)
        refine hK.out _ _ (Below.setCell (Below.setCell hHeld (p := ⟨w2.heap.size, 0, none⟩) le_v _) (p := ⟨w2.heap.size, 1, none⟩) le_v _) (fun hHeld2 => ?_)
        clear u4 v4
        (clear hHeld; rename _ => hHeld; clear hK K; have hHeld : Below wB.heap.size wB _ := hHeld); (try simp only [Act.put, List.getElem_toArray, List.getElem_cons_succ, List.getElem_cons_zero, List.setIfInBounds_toArray, List.set_cons_zero, List.set_cons_succ])
        refine wpAnyH_done (by kernel_rfl) ?_ _
        go_wp2_with fail
        go_meet
        exact ⟨_, _, rfl, rfl, hne, le_u, le_v, HU.out, HV.out, hHeld⟩
      · go_simp
        have le_v : wB.heap.size ≤ wu.heap.size := Below.size hHeld
        have hne : wD.heap.size ≠ wu.heap.size := by have := HU.out.2.2.2.2; omega
        have HU := Lib.hid (HU.out.below ((Below.refl _ _).alloc (Nat.le_refl _) (.cells #[.int .i64 0, .int .i64 0] 24)))
        have HV := Lib.hid (Pc.of (Pb.new wu 0 0))
        refine hK.out _ _ (Below.alloc hHeld (Below.size hHeld) _) (fun hHeld2 => ?_); (clear hHeld; rename _ => hHeld; clear hK K; have hHeld : Below wB.heap.size wB _ := hHeld); (try simp only [Act.put, List.getElem_toArray, List.getElem_cons_succ, List.getElem_cons_zero, List.setIfInBounds_toArray, List.set_cons_zero, List.set_cons_succ])
        obtain ⟨wv, hwx⟩ : ∃ wx, wu.alloc (.cells #[.int .i64 0, .int .i64 0] 24) = wx := ⟨_, rfl⟩
        rw [hwx] at HU HV hHeld ⊢; clear hwx
        refine wpAnyH_ready (rs := [2]) (by kernel_rfl) (by simp) ?_; refine AllReadyH.cons rfl (fun K hK => ?_) AllReadyH.nil
        go_simp; (go_at_call 53; refine (plusTimes_any _ _ _ _ _ _ ⟨by omega, by omega⟩ ⟨by omega, by omega⟩ HMB.out.1 HMB.out.2 ⟨by omega, by omega⟩).mono ?_; rintro en w2 ⟨rfl, hb2⟩; have hz2 := hb2.size)
        have HU := Lib.hid (HU.out.below hb2)
        have HV := Lib.hid (HV.out.below hb2)
        refine hK.out _ _ (below_after hb2 hHeld) (fun hHeld2 => ?_); clear hb2; (clear hHeld; rename _ => hHeld; clear hK K; have hHeld : Below wB.heap.size wB _ := hHeld); (try simp only [Act.put, List.getElem_toArray, List.getElem_cons_succ, List.getElem_cons_zero, List.setIfInBounds_toArray, List.set_cons_zero, List.set_cons_succ])
        refine wpAnyH_ready (rs := [6]) (by kernel_rfl) (by simp) ?_; refine AllReadyH.cons rfl (fun K hK => ?_) AllReadyH.nil
        obtain ⟨u0, u1, u2, u3, u4⟩ := HU.out
        obtain ⟨v0, v1, v2, v3, v4⟩ := HV.out
        go_simp
        clear u0 u1 u2 u3 v0 v1 v2 v3
        have HV := Lib.hid ((HV.out.far ⟨wD.heap.size, 0, none⟩ (.int .i64 (-m0)) (by show wu.heap.size ≠ wD.heap.size; omega)).far ⟨wD.heap.size, 1, none⟩ (.int .i64 (-m1)) (by show wu.heap.size ≠ wD.heap.size; omega))
        have HU := Lib.hid (HU.out.set (-m0) (-m1))
        refine hK.out _ _ (Below.setCell (Below.setCell hHeld (p := ⟨wD.heap.size, 0, none⟩) le_u _) (p := ⟨wD.heap.size, 1, none⟩) le_u _) (fun hHeld2 => ?_)
        clear u4 v4
        (clear hHeld; rename _ => hHeld; clear hK K; have hHeld : Below wB.heap.size wB _ := hHeld); (try simp only [Act.put, List.getElem_toArray, List.getElem_cons_succ, List.getElem_cons_zero, List.setIfInBounds_toArray, List.set_cons_zero, List.set_cons_succ])
        refine wpAnyH_ready (rs := [7]) (by kernel_rfl) (by simp) ?_; refine AllReadyH.cons rfl (fun K hK => ?_) AllReadyH.nil
        obtain ⟨u0, u1, u2, u3, u4⟩ := HU.out
        obtain ⟨v0, v1, v2, v3, v4⟩ := HV.out
        go_simp
        clear u0 u1 u2 u3 v0 v1 v2 v3
        have HU := Lib.hid ((HU.out.far ⟨wu.heap.size, 0, none⟩ (.int .i64 a0) (by show wD.heap.size ≠ wu.heap.size; omega)).far ⟨wu.heap.size, 1, none⟩ (.int .i64 a1) (by show wD.heap.size ≠ wu.heap.size; omega))
        have HV := Lib.hid (HV.out.set a0 a1)
        refine hK.out _ _ (Below.setCell (Below.setCell hHeld (p := ⟨wu.heap.size, 0, none⟩) le_v _) (p := ⟨wu.heap.size, 1, none⟩) le_v _) (fun hHeld2 => ?_)
        clear u4 v4
        (clear hHeld; rename _ => hHeld; clear hK K; have hHeld : Below wB.heap.size wB _ := hHeld); (try simp only [Act.put, List.getElem_toArray, List.getElem_cons_succ, List.getElem_cons_zero, List.setIfInBounds_toArray, List.set_cons_zero, List.set_cons_succ])
        refine wpAnyH_done (by kernel_rfl) ?_ _
        go_wp2_with fail
        go_meet
        exact ⟨_, _, rfl, rfl, hne, le_u, le_v, HU.out, HV.out, hHeld⟩
    · go_simp
      have le_v : wB.heap.size ≤ wD.heap.size := Below.size hHeld
      have HV := Lib.hid (Pc.of (Pb.new wD 0 0))
      refine hK.out _ _ (Below.alloc hHeld (Below.size hHeld) _) (fun hHeld2 => ?_); (clear hHeld; rename _ => hHeld; clear hK K; have hHeld : Below wB.heap.size wB _ := hHeld); (try simp only [Act.put, List.getElem_toArray, List.getElem_cons_succ, List.getElem_cons_zero, List.setIfInBounds_toArray, List.set_cons_zero, List.set_cons_succ])
      obtain ⟨wv, hwx⟩ : ∃ wx, wD.alloc (.cells #[.int .i64 0, .int .i64 0] 24) = wx := ⟨_, rfl⟩
      rw [hwx] at HV hHeld ⊢; clear hwx
      refine wpAnyH_ready (rs := [2, 4]) (by kernel_rfl) (by simp) ?_; refine AllReadyH.cons rfl (fun K hK => ?_) (AllReadyH.cons rfl (fun K hK => ?_) AllReadyH.nil)
      · go_simp; (go_at_call 53; refine (plusTimes_any _ _ _ _ _ _ ⟨by omega, by omega⟩ ⟨by omega, by omega⟩ HMB.out.1 HMB.out.2 ⟨by omega, by omega⟩).mono ?_; rintro en w2 ⟨rfl, hb2⟩; have hz2 := hb2.size)
        have HV := Lib.hid (HV.out.below hb2)
        refine hK.out _ _ (below_after hb2 hHeld) (fun hHeld2 => ?_); clear hb2; (clear hHeld; rename _ => hHeld; clear hK K; have hHeld : Below wB.heap.size wB _ := hHeld); (try simp only [Act.put, List.getElem_toArray, List.getElem_cons_succ, List.getElem_cons_zero, List.setIfInBounds_toArray, List.set_cons_zero, List.set_cons_succ])
        refine wpAnyH_ready (rs := [4]) (by kernel_rfl) (by simp) ?_; refine AllReadyH.cons rfl (fun K hK => ?_) AllReadyH.nil
        go_simp
        have le_u : wB.heap.size ≤ w2.heap.size := Below.size hHeld
        have hne : w2.heap.size ≠ wD.heap.size := by have := HV.out.2.2.2.2; omega
        have HV := Lib.hid (HV.out.below ((Below.refl _ _).alloc (Nat.le_refl _) (.cells #[.int .i64 0, .int .i64 0] 24)))
        have HU := Lib.hid (Pc.of (Pb.new w2 0 0))
        refine hK.out _ _ (Below.alloc hHeld (Below.size hHeld) _) (fun hHeld2 => ?_); (clear hHeld; rename _ => hHeld; clear hK K; have hHeld : Below wB.heap.size wB _ := hHeld); (try simp only [Act.put, List.getElem_toArray, List.getElem_cons_succ, List.getElem_cons_zero, List.setIfInBounds_toArray, List.set_cons_zero, List.set_cons_succ])
        obtain ⟨wu, hwx⟩ : ∃ wx, w2.alloc (.cells #[.int .i64 0, .int .i64 0] 24) = wx := ⟨_, rfl⟩
        rw [hwx] at HU HV hHeld ⊢; clear hwx
        refine wpAnyH_ready (rs := [6]) (by kernel_rfl) (by simp) ?_; refine AllReadyH.cons rfl (fun K hK => ?_) AllReadyH.nil
        obtain ⟨u0, u1, u2, u3, u4⟩ := HU.out
        obtain ⟨v0, v1, v2, v3, v4⟩ := HV.out
        go_simp
        clear u0 u1 u2 u3 v0 v1 v2 v3
        have HV := Lib.hid ((HV.out.far ⟨w2.heap.size, 0, none⟩ (.int .i64 (-m0)) (by show wD.heap.size ≠ w2.heap.size; omega)).far ⟨w2.heap.size, 1, none⟩ (.int .i64 (-m1)) (by show wD.heap.size ≠ w2.heap.size; omega))
        have HU := Lib.hid (HU.out.set (-m0) (-m1))
        refine hK.out _ _ (Below.setCell (Below.setCell hHeld (p := ⟨w2.heap.size, 0, none⟩) le_u _) (p := ⟨w2.heap.size, 1, none⟩) le_u _) (fun hHeld2 => ?_)
        clear u4 v4
        (clear hHeld; rename _ => hHeld; clear hK K; have hHeld : Below wB.heap.size wB _ := hHeld); (try simp only [Act.put, List.getElem_toArray, List.getElem_cons_succ, List.getElem_cons_zero, List.setIfInBounds_toArray, List.set_cons_zero, List.set_cons_succ])
        refine wpAnyH_ready (rs := [7]) (by kernel_rfl) (by simp) ?_; refine AllReadyH.cons rfl (fun K hK => ?_) AllReadyH.nil
        obtain ⟨u0, u1, u2, u3, u4⟩ := HU.out
        obtain ⟨v0, v1, v2, v3, v4⟩ := HV.out
        go_simp
        clear u0 u1 u2 u3 v0 v1 v2 v3
        have HU := Lib.hid ((HU.out.far ⟨wD.heap.size, 0, none⟩ (.int .i64 a0) (by show w2.heap.size ≠ wD.heap.size; omega)).far ⟨wD.heap.size, 1, none⟩ (.int .i64 a1) (by show w2.heap.size ≠ wD.heap.size; omega))
        have HV := Lib.hid (HV.out.set a0 a1)
        refine hK.out _ _ (Below.setCell (Below.setCell hHeld (p := ⟨wD.heap.size, 0, none⟩) le_v _) (p := ⟨wD.heap.size, 1, none⟩) le_v _) (fun hHeld2 => ?_)
        clear u4 v4
        (clear hHeld; rename _ => hHeld; clear hK K; have hHeld : Below wB.heap.size wB _ := hHeld); (try simp only [Act.put, List.getElem_toArray, List.getElem_cons_succ, List.getElem_cons_zero, List.setIfInBounds_toArray, List.set_cons_zero, List.set_cons_succ])
        refine wpAnyH_done (by kernel_rfl) ?_ _
        go_wp2_with fail
        go_meet
        exact ⟨_, _, rfl, rfl, hne, le_u, le_v, HU.out, HV.out, hHeld⟩
      · go_simp
        have le_u : wB.heap.size ≤ wv.heap.size := Below.size hHeld
        have hne : wv.heap.size ≠ wD.heap.size := by have := HV.out.2.2.2.2; omega
        have HV := Lib.hid (HV.out.below ((Below.refl _ _).alloc (Nat.le_refl _) (.cells #[.int .i64 0, .int .i64 0] 24)))
        have HU := Lib.hid (Pc.of (Pb.new wv 0 0))
        refine hK.out _ _ (Below.alloc hHeld (Below.size hHeld) _) (fun hHeld2 => ?_); (clear hHeld; rename _ => hHeld; clear hK K; have hHeld : Below wB.heap.size wB _ := hHeld); (try simp only [Act.put, List.getElem_toArray, List.getElem_cons_succ, List.getElem_cons_zero, List.setIfInBounds_toArray, List.set_cons_zero, List.set_cons_succ])
        obtain ⟨wu, hwx⟩ : ∃ wx, wv.alloc (.cells #[.int .i64 0, .int .i64 0] 24) = wx := ⟨_, rfl⟩
        rw [hwx] at HU HV hHeld ⊢; clear hwx
        refine wpAnyH_ready (rs := [2]) (by kernel_rfl) (by simp) ?_; refine AllReadyH.cons rfl (fun K hK => ?_) AllReadyH.nil
        go_simp; (go_at_call 53; refine (plusTimes_any _ _ _ _ _ _ ⟨by omega, by omega⟩ ⟨by omega, by omega⟩ HMB.out.1 HMB.out.2 ⟨by omega, by omega⟩).mono ?_; rintro en w2 ⟨rfl, hb2⟩; have hz2 := hb2.size)
        have HU := Lib.hid (HU.out.below hb2)
        have HV := Lib.hid (HV.out.below hb2)
        refine hK.out _ _ (below_after hb2 hHeld) (fun hHeld2 => ?_); clear hb2; (clear hHeld; rename _ => hHeld; clear hK K; have hHeld : Below wB.heap.size wB _ := hHeld); (try simp only [Act.put, List.getElem_toArray, List.getElem_cons_succ, List.getElem_cons_zero, List.setIfInBounds_toArray, List.set_cons_zero, List.set_cons_succ])
        refine wpAnyH_ready (rs := [6]) (by kernel_rfl) (by simp) ?_; refine AllReadyH.cons rfl (fun K hK => ?_) AllReadyH.nil
        obtain ⟨u0, u1, u2, u3, u4⟩ := HU.out
        obtain ⟨v0, v1, v2, v3, v4⟩ := HV.out
        go_simp
        clear u0 u1 u2 u3 v0 v1 v2 v3
        have HV := Lib.hid ((HV.out.far ⟨wv.heap.size, 0, none⟩ (.int .i64 (-m0)) (by show wD.heap.size ≠ wv.heap.size; omega)).far ⟨wv.heap.size, 1, none⟩ (.int .i64 (-m1)) (by show wD.heap.size ≠ wv.heap.size; omega))
        have HU := Lib.hid (HU.out.set (-m0) (-m1))
        refine hK.out _ _ (Below.setCell (Below.setCell hHeld (p := ⟨wv.heap.size, 0, none⟩) le_u _) (p := ⟨wv.heap.size, 1, none⟩) le_u _) (fun hHeld2 => ?_)
        clear u4 v4
        (clear hHeld; rename _ => hHeld; clear hK K; have hHeld : Below wB.heap.size wB _ := hHeld); (try simp only [Act.put, List.getElem_toArray, List.getElem_cons_succ, List.getElem_cons_zero, List.setIfInBounds_toArray, List.set_cons_zero, List.set_cons_succ])
        refine wpAnyH_ready (rs := [7]) (by kernel_rfl) (by simp) ?_; refine AllReadyH.cons rfl (fun K hK => ?_) AllReadyH.nil
        obtain ⟨u0, u1, u2, u3, u4⟩ := HU.out
        obtain ⟨v0, v1, v2, v3, v4⟩ := HV.out
        go_simp
        clear u0 u1 u2 u3 v0 v1 v2 v3
        have HU := Lib.hid ((HU.out.far ⟨wD.heap.size, 0, none⟩ (.int .i64 a0) (by show wv.heap.size ≠ wD.heap.size; omega)).far ⟨wD.heap.size, 1, none⟩ (.int .i64 a1) (by show wv.heap.size ≠ wD.heap.size; omega))
        have HV := Lib.hid (HV.out.set a0 a1)
        refine hK.out _ _ (Below.setCell (Below.setCell hHeld (p := ⟨wD.heap.size, 0, none⟩) le_v _) (p := ⟨wD.heap.size, 1, none⟩) le_v _) (fun hHeld2 => ?_)
        clear u4 v4
        (clear hHeld; rename _ => hHeld; clear hK K; have hHeld : Below wB.heap.size wB _ := hHeld); (try simp only [Act.put, List.getElem_toArray, List.getElem_cons_succ, List.getElem_cons_zero, List.setIfInBounds_toArray, List.set_cons_zero, List.set_cons_succ])
        refine wpAnyH_done (by kernel_rfl) ?_ _
        go_wp2_with fail
        go_meet
        exact ⟨_, _, rfl, rfl, hne, le_u, le_v, HU.out, HV.out, hHeld⟩
  case rest =>
    obtain ⟨Gu, Gv, rfl, rfl, hne, le_u, le_v, hU, hV, hBx⟩ := hcut
    obtain ⟨w1, rfl⟩ : ∃ w1, w1 = wc := ⟨_, rfl⟩
    have HU := Lib.hid hU
    have HV := Lib.hid hV
    have HB1 : Hid (Below W.heap.size W w1) := below_after hBx HBW.out
    have hWB : W.heap.size ≤ wB.heap.size := HBW.out.size
    have HA1 := Lib.hid (HA.out.below HB1.out)
    have HB1b := Lib.hid (HB.out.below HB1.out)
    have ltU : Gu < w1.heap.size := hU.2.2.2.2
    have ltV : Gv < w1.heap.size := hV.2.2.2.2
    have HJ1 : Hid (J (fun k => (k = Ba ∨ k = Bb) ∨ k = Gu ∨ k = Gv) [] w1) := by
      refine HJ.out _ _ _ _ _ H0.out (Turn.below HB1.out) ?_
      rintro k (h | rfl | rfl)
      · exact .inl h
      · right; omega
      · right; omega
    have HB2 : Hid (isPt (b0, b1) = true) := HP2
    rw [← HPS.out] at HU
    clear hU hV hBx HBW HK H0 HMB HMI HPS HP1 HG1 HA HB HP2 ca0 ca1 ltA
    go_wp2
    go_loopw [8] (fun c wr => ∃ (f : Nat) (ux uy vx vy : Int) (pre : List (Int × Int)), SlI (a0, a1) (b0, b1) (ux, uy) (vx, vy) ∧ (detP (vx, vy) (b0, b1)).toNat < f ∧ pre ++ slN (b0, b1) f (ux, uy) (vx, vy) = full ∧ J (fun k => (k = Ba ∨ k = Bb) ∨ k = Gu ∨ k = Gv) pre wr ∧ Pc wr Bb (b0, b1) ∧ Pc wr Gu (ux, uy) ∧ Pc wr Gv (vx, vy)) (fun _ wr => (detP (ptAt wr Gv) (b0, b1)).toNat)
    case atStart => exact ⟨(detP (a0, a1) (b0, b1)).toNat + 1, (preS (a0, a1)).1, (preS (a0, a1)).2, a0, a1, [], HF.out, by omega, HFL.out, HJ1.out, HB1b.out, HU.out, HV.out⟩
    case round =>
      obtain ⟨f, ux, uy, vx, vy, pre, hI, hf, htot, hj, hb, hu, hv⟩ := hrel
      obtain ⟨g, rfl⟩ : ∃ g, f = g + 1 := ⟨f - 1, by omega⟩
      have hmeas : (detP (ptAt wr Gv) (b0, b1)).toNat = (detP (vx, vy) (b0, b1)).toNat := by rw [ptAt_of hv]
      have hlen : pre.length < full.length := by
        have := slN_len1 (b := (b0, b1)) (u := (ux, uy)) (v := (vx, vy)) (n := g)
        rw [← htot, List.length_append]; omega
      obtain ⟨fn, tmps, assign, body, hy, hR⟩ := HY.out _ pre (vx, vy) wr hj hlen
      dsimp only [ep] at hy
      have HI := Lib.hid hI
      have HT := Lib.hid htot
      have HPb := Lib.hid hb
      have HPu := Lib.hid hu
      have HPv := Lib.hid hv
      have HME := Lib.hid hmeas
      have HLN := Lib.hid hlen
      obtain ⟨v0, v1, v2, v3, v4⟩ := hv
      clear hI htot hb hu hmeas hlen hj v2 v3 v4
      have heq := eq_pt
      go_upto_region 2 with fail
      refine (wpIn_wide (n := 5)).1 ?_
      gi_wp2
      refine hR.mono ?_
      clear hy hR
      rintro e W3 (⟨rfl, hJ3, hk3⟩ | ⟨rfl, hJx3⟩)
      · have HU3 := Lib.hid (HPu.out.same (hk3 Gu (.inr (.inl rfl))))
        have HV3 := Lib.hid (HPv.out.same (hk3 Gv (.inr (.inr rfl))))
        have HB3 := Lib.hid (HPb.out.same (hk3 Bb (.inl (.inr rfl))))
        have HJ3 := Lib.hid hJ3
        obtain ⟨r0, r1, _, _, ltV3⟩ := HV3.out
        obtain ⟨s0, s1, _, _, _⟩ := HB3.out
        clear hk3 hJ3
        by_cases hvb : (vx, vy) = (b0, b1)
        · have hx : vx = b0 := congrArg Prod.fst hvb
          have hy : vy = b1 := congrArg Prod.snd hvb
          have htr : (vx == b0 && vy == b1) = true := by simp [hx, hy]
          have HTF : Hid (pre ++ [(vx, vy)] = full) := by
            show pre ++ [(vx, vy)] = full
            rw [← HT.out, hvb, slN_end]
          clear hx hy hvb
          gi_wp2
          go_wp2
          go_end0
          exact ⟨⟨_, rfl⟩, .inl ⟨_, by rw [← HTF.out]; exact HJ3.out⟩⟩
        · have htr : (vx == b0 && vy == b1) = false := by
            cases hq : (vx == b0 && vy == b1)
            · rfl
            · exfalso
              simp only [Bool.and_eq_true, beq_iff_eq] at hq
              exact hvb (by rw [hq.1, hq.2])
          have hq1 := sl_pos HAN.out HI.out hvb
          have HTF : Hid ((pre ++ [(vx, vy)]) ++ slN (b0, b1) g (vx, vy) (nxS (b0, b1) (ux, uy) (vx, vy)) = full) := by
            show (pre ++ [(vx, vy)]) ++ slN (b0, b1) g (vx, vy) (nxS (b0, b1) (ux, uy) (vx, vy)) = full
            rw [← HT.out, slN_go hvb]; simp
          clear hvb
          obtain ⟨hn1, hn2, _, hn4, hn5⟩ := sl_next HAN.out HI.out hq1
          obtain ⟨_, i2, i3, _, _, iu, iv, i8, i9⟩ := HI.out
          have HSU := Lib.hid iu
          have HSV := Lib.hid iv
          have HBN : Hid (Bn b0 ∧ Bn b1) := ⟨isPt_bn1 HB2.out, isPt_bn2 HB2.out⟩
          obtain ⟨C, hC⟩ : ∃ C, cS (b0, b1) (ux, uy) (vx, vy) = C := ⟨_, rfl⟩
          have HC : Hid (upI (detP (ux, uy) (b0, b1)) (detP (vx, vy) (b0, b1)) = C) := hC
          have HNX : Hid (nxS (b0, b1) (ux, uy) (vx, vy) = (C * vx - ux, C * vy - uy)) := by
            show nxS (b0, b1) (ux, uy) (vx, vy) = (C * vx - ux, C * vy - uy)
            unfold nxS; rw [hC]
          rw [hC] at hn4 hn5
          rw [HNX.out] at hn1 hn2 HTF
          have HN1 := Lib.hid hn1
          have HN2 := Lib.hid hn2
          have hNS := fun w => nextOnSail_any (ux, uy) (vx, vy) C w HSU.out HSV.out hn4 hn5
          dsimp only at hNS
          have HNS := Lib.hid hNS
          have HK3 : Hid (∀ W', Below W3.heap.size W3 W' → W'.cell? ⟨Gu, 0, none⟩ = some (.int .i64 ux) ∧ W'.cell? ⟨Gu, 1, none⟩ = some (.int .i64 uy) ∧ W'.cell? ⟨Gv, 0, none⟩ = some (.int .i64 vx) ∧ W'.cell? ⟨Gv, 1, none⟩ = some (.int .i64 vy) ∧ W'.cell? ⟨Bb, 0, none⟩ = some (.int .i64 b0) ∧ W'.cell? ⟨Bb, 1, none⟩ = some (.int .i64 b1) ∧ Gu < W'.heap.size ∧ Gv < W'.heap.size ∧ Bb < W'.heap.size) := by
            intro W' hB
            obtain ⟨q0, q1, _, _, q4⟩ := HU3.out.below hB
            obtain ⟨q5, q6, _, _, q9⟩ := HV3.out.below hB
            obtain ⟨t0, t1, _, _, t4⟩ := HB3.out.below hB
            exact ⟨q0, q1, q5, q6, t0, t1, q4, q9, t4⟩
          clear hn1 hn2 hNS hC iu iv
          gi_wp2
          go_upto_region 3 with fail
          clear r0 r1 s0 s1
          go_cut [8] (fun v8 wx => v8 = .int .i64 C ∧ Below W3.heap.size W3 wx)
          case first =>
            go_region_held3 (fun W' => W'.cell? ⟨Gu, 0, none⟩ = some (.int .i64 ux) ∧ W'.cell? ⟨Gu, 1, none⟩ = some (.int .i64 uy) ∧ W'.cell? ⟨Gv, 0, none⟩ = some (.int .i64 vx) ∧ W'.cell? ⟨Gv, 1, none⟩ = some (.int .i64 vy) ∧ W'.cell? ⟨Bb, 0, none⟩ = some (.int .i64 b0) ∧ W'.cell? ⟨Bb, 1, none⟩ = some (.int .i64 b1) ∧ Gu < W'.heap.size ∧ Gv < W'.heap.size ∧ Bb < W'.heap.size) ((refine (HK3.out _ ?_); repeat' (first | (with_reducible refine Below.alloc ?_ ?_ _) | (with_reducible refine Below.setCell ?_ ?_ _) | (with_reducible refine Below.drew ?_) | (with_reducible exact Below.refl _ _) | (with_reducible refine below_after (by with_reducible assumption) ?_) | (first | omega | (simp only [World.size_alloc, World.size_drew, World.size_setCell]; omega))))) (first | (go_at_call 45; refine (determinant_any _ _ _ _ _ (by first | exact (sm_bn HSU.out).1 | exact (sm_bn HSV.out).1) (by first | exact (sm_bn HSU.out).2 | exact (sm_bn HSV.out).2) HBN.out.1 HBN.out.2).mono ?_; rintro e wn ⟨rfl, hb⟩; have hsz := hb.size; (try simp only [World.size_alloc, World.size_setCell, World.size_drew] at hsz); first | (revert hb; with_reducible change Below (World.heap (World.alloc _ _)).size (World.alloc _ _) _ → _; intro hb; have hnw := after_new hb; (try simp only [World.size_alloc, World.size_drew] at hnw)) | (revert hb; with_reducible change Below (World.heap (World.drew (World.alloc _ _))).size (World.drew (World.alloc _ _)) _ → _; intro hb; have hnw := after_newd hb; (try simp only [World.size_alloc, World.size_drew] at hnw)) | (revert hnw; with_reducible change (World.cell? _ _ = some _ ∧ World.cell? _ _ = some _ ∧ World.frozen? _ _ = false ∧ World.frozen? _ _ = false ∧ (_ : Nat) < _) → _; intro hnw; have hnw := after_old hb hnw) | skip) | (go_at_call 65; refine (divideUp_any _ _ _ hq1 (by omega) (by omega) (by omega)).mono ?_; rintro e wn ⟨rfl, hb⟩; have hsz := hb.size; (try simp only [World.size_alloc, World.size_setCell, World.size_drew] at hsz); first | (revert hb; with_reducible change Below (World.heap (World.alloc _ _)).size (World.alloc _ _) _ → _; intro hb; have hnw := after_new hb; (try simp only [World.size_alloc, World.size_drew] at hnw)) | (revert hb; with_reducible change Below (World.heap (World.drew (World.alloc _ _))).size (World.drew (World.alloc _ _)) _ → _; intro hb; have hnw := after_newd hb; (try simp only [World.size_alloc, World.size_drew] at hnw)) | (revert hnw; with_reducible change (World.cell? _ _ = some _ ∧ World.cell? _ _ = some _ ∧ World.frozen? _ _ = false ∧ World.frozen? _ _ = false ∧ (_ : Nat) < _) → _; intro hnw; have hnw := after_old hb hnw) | skip))
            all_goals
              go_wp2_with fail
              go_meet
              exact ⟨by rw [HC.out], by (repeat' (first | (with_reducible exact Below.refl _ _) | (with_reducible refine Below.alloc ?_ ?_ _) | (with_reducible refine Below.setCell ?_ ?_ _) | (with_reducible refine Below.drew ?_) | (with_reducible refine below_drewN ?_ _) | (with_reducible assumption) | (with_reducible refine below_after (by with_reducible assumption) ?_) | go_size))⟩
          case rest =>
            obtain ⟨rfl, hBy⟩ := hcut
            obtain ⟨w4, rfl⟩ : ∃ w4, w4 = wc := ⟨_, rfl⟩
            have HB4 := Lib.hid hBy
            have HK4 : Hid (∀ W', Below w4.heap.size w4 W' → Pc W' Gu (ux, uy) ∧ Pc W' Gv (vx, vy) ∧ Pc W' Bb (b0, b1)) := by
              intro W' hB
              have h5 := below_after hB HB4.out
              exact ⟨HU3.out.below h5, HV3.out.below h5, HB3.out.below h5⟩
            obtain ⟨⟨x0, x1, x2, x3, x4⟩, ⟨y0, y1, y2, y3, y4⟩, _⟩ := HK4.out w4 (Below.refl _ _)
            clear hBy
            go_wp2_with fail
            go_region_with (go_at_call 66; refine (HNS.out _).mono ?_; rintro e w5 ⟨rfl, hb5⟩; have hb6 : Below w4.heap.size w4 w5 := ⟨hb5.os, hb5.tape, hb5.output, hb5.size, hb5.block⟩; clear hb5; obtain ⟨⟨z0, z1, z2, z3, z4⟩, ⟨t0, t1, t2, t3, t4⟩, _⟩ := HK4.out w5 hb6)
            all_goals
              obtain ⟨hu5, hv5, hb5⟩ := HK4.out w5 hb6
              have hBW := below_after hb6 HB4.out
              have PU : Hid (Pc ((((w5.setCell ⟨Gu, 0, none⟩ (.int .i64 vx)).setCell ⟨Gu, 1, none⟩ (.int .i64 vy)).setCell ⟨Gv, 0, none⟩ (.int .i64 (C * vx - ux))).setCell ⟨Gv, 1, none⟩ (.int .i64 (C * vy - uy))) Gu (vx, vy)) := ((hu5.set vx vy).far ⟨Gv, 0, none⟩ _ hne).far ⟨Gv, 1, none⟩ _ hne
              have PV : Hid (Pc ((((w5.setCell ⟨Gu, 0, none⟩ (.int .i64 vx)).setCell ⟨Gu, 1, none⟩ (.int .i64 vy)).setCell ⟨Gv, 0, none⟩ (.int .i64 (C * vx - ux))).setCell ⟨Gv, 1, none⟩ (.int .i64 (C * vy - uy))) Gv (C * vx - ux, C * vy - uy)) := ((hv5.far ⟨Gu, 0, none⟩ _ (Ne.symm hne)).far ⟨Gu, 1, none⟩ _ (Ne.symm hne)).set _ _
              have hBu : Bb ≠ Gu := by omega
              have hBv : Bb ≠ Gv := by omega
              have PB : Hid (Pc ((((w5.setCell ⟨Gu, 0, none⟩ (.int .i64 vx)).setCell ⟨Gu, 1, none⟩ (.int .i64 vy)).setCell ⟨Gv, 0, none⟩ (.int .i64 (C * vx - ux))).setCell ⟨Gv, 1, none⟩ (.int .i64 (C * vy - uy))) Bb (b0, b1)) := (((hb5.far ⟨Gu, 0, none⟩ _ hBu).far ⟨Gu, 1, none⟩ _ hBu).far ⟨Gv, 0, none⟩ _ hBv).far ⟨Gv, 1, none⟩ _ hBv
              have PJ : Hid (J (fun k => (k = Ba ∨ k = Bb) ∨ k = Gu ∨ k = Gv) (pre ++ [(vx, vy)]) ((((w5.setCell ⟨Gu, 0, none⟩ (.int .i64 vx)).setCell ⟨Gu, 1, none⟩ (.int .i64 vy)).setCell ⟨Gv, 0, none⟩ (.int .i64 (C * vx - ux))).setCell ⟨Gv, 1, none⟩ (.int .i64 (C * vy - uy)))) :=
                HJ.out _ _ _ _ _ HJ3.out ((((Turn.below hBW).trans (Turn.set _ ⟨Gu, 0, none⟩ _ (.inr (.inl rfl)))).trans (Turn.set _ ⟨Gu, 1, none⟩ _ (.inr (.inl rfl)))).trans (Turn.set _ ⟨Gv, 0, none⟩ _ (.inr (.inr rfl))) |>.trans (Turn.set _ ⟨Gv, 1, none⟩ _ (.inr (.inr rfl)))) (fun k h => .inl h)
              obtain ⟨wz, hwz⟩ : ∃ wz, ((((w5.setCell ⟨Gu, 0, none⟩ (.int .i64 vx)).setCell ⟨Gu, 1, none⟩ (.int .i64 vy)).setCell ⟨Gv, 0, none⟩ (.int .i64 (C * vx - ux))).setCell ⟨Gv, 1, none⟩ (.int .i64 (C * vy - uy))) = wz := ⟨_, rfl⟩
              rw [hwz] at PU PV PB PJ ⊢
              clear hwz hu5 hv5 hb5 hBW hb6 x0 x1 x2 x3 x4 y0 y1 y2 y3 y4 z0 z1 z2 z3 z4 t0 t1 t2 t3 t4
              go_wp2
              go_roundw
              case rel => exact ⟨g, vx, vy, C * vx - ux, C * vy - uy, pre ++ [(vx, vy)], HN1.out, by have := HN2.out; omega, HTF.out, PJ.out, PB.out, PU.out, PV.out⟩
              case measure =>
                rw [HME.out, ptAt_of PV.out]
                have := HN2.out
                omega
      · gi_wp2
        go_wp2
        go_end0
        refine ⟨⟨_, rfl⟩, .inr ⟨_, ?_, hJx3⟩⟩
        have := HLN.out
        simp; omega
end Go.Proofs.Ytjiaokcbhpmodaa
