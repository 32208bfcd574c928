/-
  WordOfMatrix in the program (own work).
-/
import Derived.Test.YtohnmogejidpdaaWoS
namespace Go.Proofs.Ytohnmogejidpdaa
open Go.ChangeShapes Go.WideShapes Go.ChangeAt Go.RowKit
set_option linter.unusedVariables false
set_option linter.unusedSimpArgs false
set_option maxRecDepth 100000

theorem unitMatrix_any (w : World) : Calls Try.prog 89 #[] w fun e w' => e = .returned (.agg #[.int .i64 1, .int .i64 0, .int .i64 0, .int .i64 1]) ∧ Below w.heap.size w w' := by
  go_enter Try.func89, Try.ntmps89
  go_wp2
  refine bodyPost_ret (v := .agg #[.int .i64 1, .int .i64 0, .int .i64 0, .int .i64 1]) (by simp (maxDischargeDepth := 8) [results, Try.results89, go_sem, *]) rfl ?_
  exact ⟨rfl, by (repeat' (first | (with_reducible exact Below.refl _ _) | (with_reducible refine Below.alloc ?_ ?_ _) | (with_reducible refine Below.setCell ?_ ?_ _) | (with_reducible refine Below.drew ?_) | (with_reducible refine below_drewN ?_ _) | (with_reducible assumption) | (with_reducible refine below_after (by with_reducible assumption) ?_) | go_size))⟩
theorem set_own {B : Nat} {w : World} {v : Value} {l : List UInt8} {g : Nat} (h : OwnY B w v l) (j : Nat) (x : Value) (hne : ∀ k, v.ownBlock = some k → k ≠ g) : OwnY B (w.setCell ⟨g, j, none⟩ x) v l := by
  refine h.kept (g := g) ⟨rfl, rfl, rfl, by simp, fun i hi hr => ?_⟩ hne
  exact Below.heap_setCell w ⟨g, j, none⟩ x i (by simpa using hr)
set_option maxHeartbeats 6400000 in
theorem wordTo_any (a b c d : Int) (w : World) (hwx : Wx a b c d) : Calls Try.prog 57 #[.agg #[.int .i64 a, .int .i64 b, .int .i64 c, .int .i64 d]] w fun e w' => e = .returned (.tuple #[.string ⟨(woB (wo 200 a b c d)).toArray⟩, .int .i64 (woK (wo 200 a b c d))]) ∧ Below w.heap.size w w' := by
  have HX0 := Lib.hid hwx
  obtain ⟨R, hR⟩ : ∃ R, wo 200 a b c d = R := ⟨_, rfl⟩
  have HR0 := Lib.hid hR
  rw [hR]
  clear hwx hR
  obtain ⟨GM, hG⟩ : ∃ G, w.heap.size = G := ⟨_, rfl⟩
  have HG := Lib.hid hG
  go_enter Try.func57, Try.ntmps57
  go_upto_region 1 with fail
  obtain ⟨w0, hw0⟩ : ∃ w0, w0 = (w.alloc (.cells #[.int .i64 a, .int .i64 b, .int .i64 c, .int .i64 d] 26)) := ⟨_, rfl⟩
  rw [← hw0]
  have HM : Hid (Bk4 w0 GM a b c d) := by
    have h := (bk4_new w a b c d 26).below (W' := (w.alloc (.cells #[.int .i64 a, .int .i64 b, .int .i64 c, .int .i64 d] 26))) (by (repeat' (first | (with_reducible exact Below.refl _ _) | (with_reducible refine Below.alloc ?_ ?_ _) | (with_reducible refine Below.setCell ?_ ?_ _) | (with_reducible refine Below.drew ?_) | (with_reducible refine below_drewN ?_ _) | (with_reducible assumption) | (with_reducible refine below_after (by with_reducible assumption) ?_) | go_size)))
    (try simp only [World.size_alloc] at h)
    rw [hG] at h
    rw [hw0]; exact h
  have HB : Hid (Below w.heap.size w w0) := by show Below w.heap.size w w0; rw [hw0]; (repeat' (first | (with_reducible exact Below.refl _ _) | (with_reducible refine Below.alloc ?_ ?_ _) | (with_reducible refine Below.setCell ?_ ?_ _) | (with_reducible refine Below.drew ?_) | (with_reducible refine below_drewN ?_ _) | (with_reducible assumption) | (with_reducible refine below_after (by with_reducible assumption) ?_) | go_size))
  clear hw0
  have le_M : w.heap.size ≤ GM := by omega
  obtain ⟨⟨qM0, qM1, qM2, qM3⟩, ⟨fM0, fM1, fM2, fM3⟩, zM⟩ := HM.out
  go_wp2_with fail
  clear qM0 fM0 qM1 fM1 qM2 fM2 qM3 fM3 zM
  go_loopw [4] (fun s wr => ∃ (n m : Nat) (pa : Option Addr) (cap : Nat) (a b c d : Int) (xs : List UInt8), s = .slice pa m cap ∧ m = xs.length ∧ Wx a b c d ∧ n + m = 200 ∧ (wo n a b c d).map (xs ++ ·) = R ∧ OwnY (GM + 1) wr (.slice pa m cap) xs ∧ Bk4 wr GM a b c d ∧ Below w.heap.size w wr) (fun s _ => 300 - lenS s)
  case atStart => exact ⟨200, 0, none, 0, a, b, c, d, [], rfl, rfl, HX0.out, by simp, by rw [← HR0.out]; cases wo 200 a b c d <;> simp, World.ownsRow_nil _ _ _ _, HM.out, HB.out⟩
  case round =>
    obtain ⟨n, m, pa, cap, a, b, c, d, xs, rfl, hml0, hwx, hnl, hwo, hY, hM, hbel⟩ := hrel
    clear HM HB
    have HM := Lib.hid hM
    have HB := Lib.hid hbel
    have HY := Lib.hid hY
    have HWX := Lib.hid hwx
    have HWO := Lib.hid hwo
    have hml := hml0.symm
    clear hM hbel hwx hwo hY hml0
    have heq := eq_mI a b c d
    obtain ⟨a0, a1, b0, b1, c0, c1, d0, d1, hdt⟩ := HWX.out
    clear hdt
    cases hI : isI a b c d
    · rw [hI] at heq
      have HI := Lib.hid hI
      clear hI
      rcases Nat.eq_zero_or_pos n with hn0 | hn0
      · have HE : Hid (R = none) := by
          show _ = _
          rw [← HWO.out, hn0, wo_none HI.out]; rfl
        have h200 : ((m : Int) == 200) = true := by simp; omega
        have HXX : Hid (∀ W, Below wr.heap.size wr W → Bk4 W GM a b c d) := fun W hW => HM.out.below hW
        go_wp2_with fail
        refine wp_region_held_drew (S := fun W => Below wr.heap.size wr W) (by kernel_rfl) ?_ (fun hHeld => ?_); focus ((try dsimp only); exact (Below.refl _ _).drew)
        have HM := Lib.hid (HM.out.below (Below.drew (Below.refl _ _)))
        have HY := Lib.hid (HY.out.below (Below.drew (Below.refl _ _)))
        have hHeld : Below wr.heap.size wr _ := hHeld
        obtain ⟨wD20, hwD20⟩ : ∃ wD, wr.drew = wD := ⟨_, rfl⟩
        rw [hwD20] at hHeld HM HY ⊢
        clear hwD20
        (refine wpAnyH_take (i := 0) (v := ?_) rfl (by kernel_rfl) (by kernel_rfl) (by kernel_rfl) (fun _ _ _ h => h) (Or.inl ⟨rfl, ?_⟩) (by assumption) ?_; rotate_left; focus (intro W hSw; (try dsimp only at hSw); have hxx := HXX.out _ hSw; have hxM := hxx; obtain ⟨⟨iM0, iM1, iM2, iM3⟩, _, _⟩ := hxM; go_simp; try (with_reducible rfl))); (try simp only [Act.put, List.getElem_toArray, List.getElem_cons_succ, List.getElem_cons_zero, List.setIfInBounds_toArray, List.set_cons_zero, List.set_cons_succ])
        refine wpAnyH_ready (rs := [1]) (by kernel_rfl) (by simp) ?_; refine AllReadyH.cons rfl (fun K hK => ?_) AllReadyH.nil
        go_simp; (go_at_call 89; refine (unitMatrix_any _).mono ?_; rintro en ywr20x0 ⟨rfl, hb2⟩); have HM := Lib.hid (HM.out.below hb2); have HY := Lib.hid (HY.out.below hb2); refine hK.out _ _ (below_after hb2 hHeld) (fun hHeld2 => ?_); clear hb2; (clear hHeld; rename _ => hHeld; clear hK K; have hHeld : Below wr.heap.size wr _ := hHeld); (try simp only [Act.put, List.getElem_toArray, List.getElem_cons_succ, List.getElem_cons_zero, List.setIfInBounds_toArray, List.set_cons_zero, List.set_cons_succ])
        (refine wpAnyH_take (i := 2) (v := ?_) rfl (by kernel_rfl) (by kernel_rfl) (by kernel_rfl) (fun _ _ _ h => h) (Or.inl ⟨rfl, ?_⟩) (by assumption) ?_; rotate_left; focus (intro W hSw; (try dsimp only at hSw); have hxx := HXX.out _ hSw; have hxM := hxx; obtain ⟨⟨iM0, iM1, iM2, iM3⟩, _, _⟩ := hxM; go_simp; try (with_reducible rfl))); (try simp only [Act.put, List.getElem_toArray, List.getElem_cons_succ, List.getElem_cons_zero, List.setIfInBounds_toArray, List.set_cons_zero, List.set_cons_succ])
        refine wpAnyH_done (by kernel_rfl) ?_ _
        have HB := Lib.hid (HB.out.trans (hHeld.mono HB.out.size))
        clear hHeld HXX
        obtain ⟨⟨qM0, qM1, qM2, qM3⟩, ⟨fM0, fM1, fM2, fM3⟩, zM⟩ := HM.out
        go_wp2_with fail
        refine bodyPost_ret (v := .tuple #[.string ⟨#[]⟩, .int .i64 3]) (by simp (maxDischargeDepth := 8) [results, Try.results57, go_sem, *]) rfl ?_
        have hb := HB.out
        exact ⟨by rw [HE.out]; rfl, by (repeat' (first | (with_reducible exact Below.refl _ _) | (with_reducible refine Below.alloc ?_ ?_ _) | (with_reducible refine Below.setCell ?_ ?_ _) | (with_reducible refine Below.drew ?_) | (with_reducible refine below_drewN ?_ _) | (with_reducible assumption) | (with_reducible refine below_after (by with_reducible assumption) ?_) | go_size))⟩
      · obtain ⟨n, rfl⟩ : ∃ k, n = k + 1 := ⟨n - 1, by omega⟩
        have h200 : ((m : Int) == 200) = false := by simp; omega
        rcases wx_rows HWX.out HI.out with ⟨r1, r2, r3⟩ | ⟨r1, r2, r3, r4⟩
        · have HW2 := Lib.hid (wx_R HWX.out r1 r2)
          have HM2 : Hid ((wo n (a - c) (b - d) c d).map ((xs ++ [82]) ++ ·) = R) := map_prep xs 82 _ (by rw [← wo_R HI.out r3]; exact HWO.out)
          have HT : Hid (∀ w, Calls Try.prog 90 #[.agg #[.int .i64 a, .int .i64 b], .agg #[.int .i64 c, .int .i64 d], .int .i64 (-1)] w fun e w' => e = .returned (.agg #[.int .i64 (a - c), .int .i64 (b - d)]) ∧ Below w.heap.size w w') := fun w => plusTimes_minus a b c d w ⟨by omega, by omega⟩ ⟨by omega, by omega⟩ ⟨by omega, by omega⟩ ⟨by omega, by omega⟩
          have HXX : Hid (∀ W, Below wr.heap.size wr W → Bk4 W GM a b c d) := fun W hW => HM.out.below hW
          go_wp2_with fail
          refine wp_region_held_drew (S := fun W => Below wr.heap.size wr W) (by kernel_rfl) ?_ (fun hHeld => ?_); focus ((try dsimp only); exact (Below.refl _ _).drew)
          have HM := Lib.hid (HM.out.below (Below.drew (Below.refl _ _)))
          have HY := Lib.hid (HY.out.below (Below.drew (Below.refl _ _)))
          have hHeld : Below wr.heap.size wr _ := hHeld
          obtain ⟨wD20, hwD20⟩ : ∃ wD, wr.drew = wD := ⟨_, rfl⟩
          rw [hwD20] at hHeld HM HY ⊢
          clear hwD20
          (refine wpAnyH_take (i := 0) (v := ?_) rfl (by kernel_rfl) (by kernel_rfl) (by kernel_rfl) (fun _ _ _ h => h) (Or.inl ⟨rfl, ?_⟩) (by assumption) ?_; rotate_left; focus (intro W hSw; (try dsimp only at hSw); have hxx := HXX.out _ hSw; have hxM := hxx; obtain ⟨⟨iM0, iM1, iM2, iM3⟩, _, _⟩ := hxM; go_simp; try (with_reducible rfl))); (try simp only [Act.put, List.getElem_toArray, List.getElem_cons_succ, List.getElem_cons_zero, List.setIfInBounds_toArray, List.set_cons_zero, List.set_cons_succ])
          refine wpAnyH_ready (rs := [1]) (by kernel_rfl) (by simp) ?_; refine AllReadyH.cons rfl (fun K hK => ?_) AllReadyH.nil
          go_simp; (go_at_call 89; refine (unitMatrix_any _).mono ?_; rintro en ywr20x0 ⟨rfl, hb2⟩); have HM := Lib.hid (HM.out.below hb2); have HY := Lib.hid (HY.out.below hb2); refine hK.out _ _ (below_after hb2 hHeld) (fun hHeld2 => ?_); clear hb2; (clear hHeld; rename _ => hHeld; clear hK K; have hHeld : Below wr.heap.size wr _ := hHeld); (try simp only [Act.put, List.getElem_toArray, List.getElem_cons_succ, List.getElem_cons_zero, List.setIfInBounds_toArray, List.set_cons_zero, List.set_cons_succ])
          (refine wpAnyH_take (i := 2) (v := ?_) rfl (by kernel_rfl) (by kernel_rfl) (by kernel_rfl) (fun _ _ _ h => h) (Or.inl ⟨rfl, ?_⟩) (by assumption) ?_; rotate_left; focus (intro W hSw; (try dsimp only at hSw); have hxx := HXX.out _ hSw; have hxM := hxx; obtain ⟨⟨iM0, iM1, iM2, iM3⟩, _, _⟩ := hxM; go_simp; try (with_reducible rfl))); (try simp only [Act.put, List.getElem_toArray, List.getElem_cons_succ, List.getElem_cons_zero, List.setIfInBounds_toArray, List.set_cons_zero, List.set_cons_succ])
          refine wpAnyH_done (by kernel_rfl) ?_ _
          have HB := Lib.hid (HB.out.trans (hHeld.mono HB.out.size))
          clear hHeld HXX
          obtain ⟨⟨qM0, qM1, qM2, qM3⟩, ⟨fM0, fM1, fM2, fM3⟩, zM⟩ := HM.out
          have HYq := Lib.hid (HY.out.below ((Below.refl _ _).alloc (Nat.le_refl _) (.cells #[.int .u8 82] 5)))
          have HMq := Lib.hid (HM.out.below ((Below.refl _ _).alloc (Nat.le_refl _) (.cells #[.int .u8 82] 5)))
          have HBq := Lib.hid (Below.alloc HB.out HB.out.size (.cells #[.int .u8 82] 5))
          have HGB : Hid (GM + 1 ≤ (ywr20x0.alloc (.cells #[.int .u8 82] 5)).heap.size) := by show _ ≤ _; rw [World.size_alloc]; have := HM.out.2.2; omega
          go_wp2_with (at_builtin; refine wpList_app_Y (B := GM + 1) rfl _ _ rfl HYq.out (b := 82) ?c0 HGB.out rfl rfl (by omega) ?_)
          case c0 => exact (show _ = some (Value.int .u8 82) by go_cell)
          intro v5 w5 ho hgrow
          clear qM0 fM0 qM1 fM1 qM2 fM2 qM3 fM3 zM
          have hno : ∀ k, (Value.slice pa m cap).ownBlock = some k → GM + 1 ≤ k := fun k hk => (World.ownsRow.lt HYq.out k hk).1
          have HM := Lib.hid (HMq.out.grown hgrow (fun e => by have := hno GM e; omega))
          have HB := Lib.hid (Below.grown HBq.out hgrow HBq.out.size (fun k hk => by have := hno k hk; omega))
          obtain ⟨pa5, cap5, rfl⟩ := ho.form
          obtain ⟨m5, hm5⟩ : ∃ m5, (xs ++ [82]).length = m5 := ⟨_, rfl⟩
          rw [hm5] at ho ⊢
          have HY := Lib.hid ho
          have HL5 : Hid ((xs ++ [82]).length = m5 ∧ m5 = m + 1) := ⟨hm5, by rw [← hm5, List.length_append, hml]; rfl⟩
          clear ho hgrow hno hm5 HYq HMq HBq HGB
          obtain ⟨⟨qM0, qM1, qM2, qM3⟩, ⟨fM0, fM1, fM2, fM3⟩, zM⟩ := HM.out
          go_wp2_with fail
          go_at_call 90
          refine (HT.out _).mono ?_
          rintro e w61 ⟨rfl, hb⟩
          clear qM0 fM0 qM1 fM1 qM2 fM2 qM3 fM3 zM
          have HM := Lib.hid (HM.out.below hb)
          have HY := Lib.hid (HY.out.below hb)
          have HB := Lib.hid (below_after hb HB.out)
          clear hb
          obtain ⟨⟨qM0, qM1, qM2, qM3⟩, ⟨fM0, fM1, fM2, fM3⟩, zM⟩ := HM.out
          go_wp2_with fail
          clear qM0 fM0 qM1 fM1 qM2 fM2 qM3 fM3 zM
          have hno6 : ∀ k, (Value.slice pa5 m5 cap5).ownBlock = some k → k ≠ GM := fun k hk => by have := (World.ownsRow.lt HY.out k hk).1; omega
          have HY := Lib.hid (set_own (set_own HY.out (g := GM) 0 (.int .i64 (a - c)) hno6) (g := GM) 1 (.int .i64 (b - d)) hno6)
          have HM := Lib.hid ((HM.out.set0 (a - c)).set1 (b - d))
          have HB := Lib.hid (Below.setCell (Below.setCell HB.out (p := ⟨GM, 0, none⟩) le_M (.int .i64 (a - c))) (p := ⟨GM, 1, none⟩) le_M (.int .i64 (b - d)))
          clear hno6
          go_roundw
          case rel => exact ⟨n, m5, pa5, cap5, a - c, b - d, c, d, xs ++ [82], rfl, HL5.out.1.symm, HW2.out, by have := HL5.out.2; omega, HM2.out, HY.out, HM.out, HB.out⟩
          case measure => simp only [lenS]; have := HL5.out.2; omega
        · have HW2 := Lib.hid (wx_L HWX.out r1 r2)
          have HM2 : Hid ((wo n a b (c - a) (d - b)).map ((xs ++ [76]) ++ ·) = R) := map_prep xs 76 _ (by rw [← wo_L HI.out (by omega)]; exact HWO.out)
          have r5 : ¬ c + d < a + b := by omega
          clear r4
          have HT : Hid (∀ w, Calls Try.prog 90 #[.agg #[.int .i64 c, .int .i64 d], .agg #[.int .i64 a, .int .i64 b], .int .i64 (-1)] w fun e w' => e = .returned (.agg #[.int .i64 (c - a), .int .i64 (d - b)]) ∧ Below w.heap.size w w') := fun w => plusTimes_minus c d a b w ⟨by omega, by omega⟩ ⟨by omega, by omega⟩ ⟨by omega, by omega⟩ ⟨by omega, by omega⟩
          have HXX : Hid (∀ W, Below wr.heap.size wr W → Bk4 W GM a b c d) := fun W hW => HM.out.below hW
          go_wp2_with fail
          refine wp_region_held_drew (S := fun W => Below wr.heap.size wr W) (by kernel_rfl) ?_ (fun hHeld => ?_); focus ((try dsimp only); exact (Below.refl _ _).drew)
          have HM := Lib.hid (HM.out.below (Below.drew (Below.refl _ _)))
          have HY := Lib.hid (HY.out.below (Below.drew (Below.refl _ _)))
          have hHeld : Below wr.heap.size wr _ := hHeld
          obtain ⟨wD20, hwD20⟩ : ∃ wD, wr.drew = wD := ⟨_, rfl⟩
          rw [hwD20] at hHeld HM HY ⊢
          clear hwD20
          (refine wpAnyH_take (i := 0) (v := ?_) rfl (by kernel_rfl) (by kernel_rfl) (by kernel_rfl) (fun _ _ _ h => h) (Or.inl ⟨rfl, ?_⟩) (by assumption) ?_; rotate_left; focus (intro W hSw; (try dsimp only at hSw); have hxx := HXX.out _ hSw; have hxM := hxx; obtain ⟨⟨iM0, iM1, iM2, iM3⟩, _, _⟩ := hxM; go_simp; try (with_reducible rfl))); (try simp only [Act.put, List.getElem_toArray, List.getElem_cons_succ, List.getElem_cons_zero, List.setIfInBounds_toArray, List.set_cons_zero, List.set_cons_succ])
          refine wpAnyH_ready (rs := [1]) (by kernel_rfl) (by simp) ?_; refine AllReadyH.cons rfl (fun K hK => ?_) AllReadyH.nil
          go_simp; (go_at_call 89; refine (unitMatrix_any _).mono ?_; rintro en ywr20x0 ⟨rfl, hb2⟩); have HM := Lib.hid (HM.out.below hb2); have HY := Lib.hid (HY.out.below hb2); refine hK.out _ _ (below_after hb2 hHeld) (fun hHeld2 => ?_); clear hb2; (clear hHeld; rename _ => hHeld; clear hK K; have hHeld : Below wr.heap.size wr _ := hHeld); (try simp only [Act.put, List.getElem_toArray, List.getElem_cons_succ, List.getElem_cons_zero, List.setIfInBounds_toArray, List.set_cons_zero, List.set_cons_succ])
          (refine wpAnyH_take (i := 2) (v := ?_) rfl (by kernel_rfl) (by kernel_rfl) (by kernel_rfl) (fun _ _ _ h => h) (Or.inl ⟨rfl, ?_⟩) (by assumption) ?_; rotate_left; focus (intro W hSw; (try dsimp only at hSw); have hxx := HXX.out _ hSw; have hxM := hxx; obtain ⟨⟨iM0, iM1, iM2, iM3⟩, _, _⟩ := hxM; go_simp; try (with_reducible rfl))); (try simp only [Act.put, List.getElem_toArray, List.getElem_cons_succ, List.getElem_cons_zero, List.setIfInBounds_toArray, List.set_cons_zero, List.set_cons_succ])
          refine wpAnyH_done (by kernel_rfl) ?_ _
          have HB := Lib.hid (HB.out.trans (hHeld.mono HB.out.size))
          clear hHeld HXX
          obtain ⟨⟨qM0, qM1, qM2, qM3⟩, ⟨fM0, fM1, fM2, fM3⟩, zM⟩ := HM.out
          have HYq := Lib.hid (HY.out.below ((Below.refl _ _).alloc (Nat.le_refl _) (.cells #[.int .u8 76] 5)))
          have HMq := Lib.hid (HM.out.below ((Below.refl _ _).alloc (Nat.le_refl _) (.cells #[.int .u8 76] 5)))
          have HBq := Lib.hid (Below.alloc HB.out HB.out.size (.cells #[.int .u8 76] 5))
          have HGB : Hid (GM + 1 ≤ (ywr20x0.alloc (.cells #[.int .u8 76] 5)).heap.size) := by show _ ≤ _; rw [World.size_alloc]; have := HM.out.2.2; omega
          go_wp2_with (at_builtin; refine wpList_app_Y (B := GM + 1) rfl _ _ rfl HYq.out (b := 76) ?c0 HGB.out rfl rfl (by omega) ?_)
          case c0 => exact (show _ = some (Value.int .u8 76) by go_cell)
          intro v5 w5 ho hgrow
          clear qM0 fM0 qM1 fM1 qM2 fM2 qM3 fM3 zM
          have hno : ∀ k, (Value.slice pa m cap).ownBlock = some k → GM + 1 ≤ k := fun k hk => (World.ownsRow.lt HYq.out k hk).1
          have HM := Lib.hid (HMq.out.grown hgrow (fun e => by have := hno GM e; omega))
          have HB := Lib.hid (Below.grown HBq.out hgrow HBq.out.size (fun k hk => by have := hno k hk; omega))
          obtain ⟨pa5, cap5, rfl⟩ := ho.form
          obtain ⟨m5, hm5⟩ : ∃ m5, (xs ++ [76]).length = m5 := ⟨_, rfl⟩
          rw [hm5] at ho ⊢
          have HY := Lib.hid ho
          have HL5 : Hid ((xs ++ [76]).length = m5 ∧ m5 = m + 1) := ⟨hm5, by rw [← hm5, List.length_append, hml]; rfl⟩
          clear ho hgrow hno hm5 HYq HMq HBq HGB
          obtain ⟨⟨qM0, qM1, qM2, qM3⟩, ⟨fM0, fM1, fM2, fM3⟩, zM⟩ := HM.out
          go_wp2_with fail
          go_at_call 90
          refine (HT.out _).mono ?_
          rintro e w61 ⟨rfl, hb⟩
          clear qM0 fM0 qM1 fM1 qM2 fM2 qM3 fM3 zM
          have HM := Lib.hid (HM.out.below hb)
          have HY := Lib.hid (HY.out.below hb)
          have HB := Lib.hid (below_after hb HB.out)
          clear hb
          obtain ⟨⟨qM0, qM1, qM2, qM3⟩, ⟨fM0, fM1, fM2, fM3⟩, zM⟩ := HM.out
          go_wp2_with fail
          clear qM0 fM0 qM1 fM1 qM2 fM2 qM3 fM3 zM
          have hno6 : ∀ k, (Value.slice pa5 m5 cap5).ownBlock = some k → k ≠ GM := fun k hk => by have := (World.ownsRow.lt HY.out k hk).1; omega
          have HY := Lib.hid (set_own (set_own HY.out (g := GM) 2 (.int .i64 (c - a)) hno6) (g := GM) 3 (.int .i64 (d - b)) hno6)
          have HM := Lib.hid ((HM.out.set2 (c - a)).set3 (d - b))
          have HB := Lib.hid (Below.setCell (Below.setCell HB.out (p := ⟨GM, 2, none⟩) le_M (.int .i64 (c - a))) (p := ⟨GM, 3, none⟩) le_M (.int .i64 (d - b)))
          clear hno6
          go_roundw
          case rel => exact ⟨n, m5, pa5, cap5, a, b, c - a, d - b, xs ++ [76], rfl, HL5.out.1.symm, HW2.out, by have := HL5.out.2; omega, HM2.out, HY.out, HM.out, HB.out⟩
          case measure => simp only [lenS]; have := HL5.out.2; omega
    · rw [hI] at heq
      have HE : Hid (R = some xs) := by
        show _ = _
        rw [← HWO.out, wo_end hI]; simp
      clear hI
      have HXX : Hid (∀ W, Below wr.heap.size wr W → Bk4 W GM a b c d) := fun W hW => HM.out.below hW
      go_wp2_with fail
      refine wp_region_held_drew (S := fun W => Below wr.heap.size wr W) (by kernel_rfl) ?_ (fun hHeld => ?_); focus ((try dsimp only); exact (Below.refl _ _).drew)
      have HM := Lib.hid (HM.out.below (Below.drew (Below.refl _ _)))
      have HY := Lib.hid (HY.out.below (Below.drew (Below.refl _ _)))
      have hHeld : Below wr.heap.size wr _ := hHeld
      obtain ⟨wD20, hwD20⟩ : ∃ wD, wr.drew = wD := ⟨_, rfl⟩
      rw [hwD20] at hHeld HM HY ⊢
      clear hwD20
      (refine wpAnyH_take (i := 0) (v := ?_) rfl (by kernel_rfl) (by kernel_rfl) (by kernel_rfl) (fun _ _ _ h => h) (Or.inl ⟨rfl, ?_⟩) (by assumption) ?_; rotate_left; focus (intro W hSw; (try dsimp only at hSw); have hxx := HXX.out _ hSw; have hxM := hxx; obtain ⟨⟨iM0, iM1, iM2, iM3⟩, _, _⟩ := hxM; go_simp; try (with_reducible rfl))); (try simp only [Act.put, List.getElem_toArray, List.getElem_cons_succ, List.getElem_cons_zero, List.setIfInBounds_toArray, List.set_cons_zero, List.set_cons_succ])
      refine wpAnyH_ready (rs := [1]) (by kernel_rfl) (by simp) ?_; refine AllReadyH.cons rfl (fun K hK => ?_) AllReadyH.nil
      go_simp; (go_at_call 89; refine (unitMatrix_any _).mono ?_; rintro en ywr20x0 ⟨rfl, hb2⟩); have HM := Lib.hid (HM.out.below hb2); have HY := Lib.hid (HY.out.below hb2); refine hK.out _ _ (below_after hb2 hHeld) (fun hHeld2 => ?_); clear hb2; (clear hHeld; rename _ => hHeld; clear hK K; have hHeld : Below wr.heap.size wr _ := hHeld); (try simp only [Act.put, List.getElem_toArray, List.getElem_cons_succ, List.getElem_cons_zero, List.setIfInBounds_toArray, List.set_cons_zero, List.set_cons_succ])
      (refine wpAnyH_take (i := 2) (v := ?_) rfl (by kernel_rfl) (by kernel_rfl) (by kernel_rfl) (fun _ _ _ h => h) (Or.inl ⟨rfl, ?_⟩) (by assumption) ?_; rotate_left; focus (intro W hSw; (try dsimp only at hSw); have hxx := HXX.out _ hSw; have hxM := hxx; obtain ⟨⟨iM0, iM1, iM2, iM3⟩, _, _⟩ := hxM; go_simp; try (with_reducible rfl))); (try simp only [Act.put, List.getElem_toArray, List.getElem_cons_succ, List.getElem_cons_zero, List.setIfInBounds_toArray, List.set_cons_zero, List.set_cons_succ])
      refine wpAnyH_done (by kernel_rfl) ?_ _
      have HB := Lib.hid (HB.out.trans (hHeld.mono HB.out.size))
      clear hHeld HXX
      have hst := string_of HY.out
      obtain ⟨⟨qM0, qM1, qM2, qM3⟩, ⟨fM0, fM1, fM2, fM3⟩, zM⟩ := HM.out
      go_wp2_with fail
      refine bodyPost_ret (v := .tuple #[.string ⟨xs.toArray⟩, .int .i64 0]) (by simp (maxDischargeDepth := 8) [results, Try.results57, go_sem, *]) rfl ?_
      have hb := HB.out
      exact ⟨by rw [HE.out]; rfl, by (repeat' (first | (with_reducible exact Below.refl _ _) | (with_reducible refine Below.alloc ?_ ?_ _) | (with_reducible refine Below.setCell ?_ ?_ _) | (with_reducible refine Below.drew ?_) | (with_reducible refine below_drewN ?_ _) | (with_reducible assumption) | (with_reducible refine below_after (by with_reducible assumption) ?_) | go_size))⟩

set_option maxHeartbeats 1600000 in
theorem impl_Word_ok (a b c d : Int) (w : World) (hw : woW a b c d = true) : Calls Try.prog 20 #[.agg #[.int .i64 a, .int .i64 b, .int .i64 c, .int .i64 d]] w fun e w' => e = .returned (.tuple #[.string ⟨(woB (wo 200 a b c d)).toArray⟩, .int .i64 (woK (wo 200 a b c d))]) ∧ Below w.heap.size w w' := by
  obtain ⟨hmx, hdt, hwx⟩ := woW_wx hw
  obtain ⟨k0, k1⟩ := isMx_parts hmx
  have HMX : Hid (∀ w, Calls Try.prog 54 #[.agg #[.int .i64 a, .int .i64 b, .int .i64 c, .int .i64 d]] w fun e w' => e = .returned (.bool true) ∧ Below w.heap.size w w') := fun w => by
    have := impl_IsMatrix_any a b c d w
    rwa [hmx] at this
  have HDT : Hid (∀ w, Calls Try.prog 55 #[.agg #[.int .i64 a, .int .i64 b], .agg #[.int .i64 c, .int .i64 d]] w fun e w' => e = .returned (.int .i64 1) ∧ Below w.heap.size w w') := fun w => by
    have := determinant_any a b c d w (isPt_bn1 k0) (isPt_bn2 k0) (isPt_bn1 k1) (isPt_bn2 k1)
    rwa [hdt] at this
  have HWT := Lib.hid (fun w => wordTo_any a b c d w hwx)
  generalize woB (wo 200 a b c d) = B at *
  generalize woK (wo 200 a b c d) = K at *
  obtain ⟨p0, _, p1, _, p2, _, p3, _⟩ := hwx
  have hmin := fun (W : World) (ts : Array TypeId) (t : TypeId) => run_min4 Try.prog W ts t a b c d _ rfl
  have hlt : ¬ min (min (min a b) c) d < 0 := by omega
  obtain ⟨mn, hmn⟩ : ∃ mn, min (min (min a b) c) d = mn := ⟨_, rfl⟩
  rw [hmn] at hmin hlt
  clear hw hmx hdt k0 k1 hmn p0 p1 p2 p3
  obtain ⟨GM, hG⟩ : ∃ G, w.heap.size = G := ⟨_, rfl⟩
  have HG := Lib.hid hG
  go_enter Try.func20, Try.ntmps20
  go_upto_region 1 with fail
  obtain ⟨w0, hw0⟩ : ∃ w0, w0 = (w.alloc (.cells #[.int .i64 a, .int .i64 b, .int .i64 c, .int .i64 d] 26)) := ⟨_, rfl⟩
  rw [← hw0]
  have HM : Hid (Bk4 w0 GM a b c d) := by
    have h := (bk4_new w a b c d 26).below (W' := (w.alloc (.cells #[.int .i64 a, .int .i64 b, .int .i64 c, .int .i64 d] 26))) (by (repeat' (first | (with_reducible exact Below.refl _ _) | (with_reducible refine Below.alloc ?_ ?_ _) | (with_reducible refine Below.setCell ?_ ?_ _) | (with_reducible refine Below.drew ?_) | (with_reducible refine below_drewN ?_ _) | (with_reducible assumption) | (with_reducible refine below_after (by with_reducible assumption) ?_) | go_size)))
    (try simp only [World.size_alloc] at h)
    rw [hG] at h
    rw [hw0]; exact h
  have HB : Hid (Below w.heap.size w w0) := by show Below w.heap.size w w0; rw [hw0]; (repeat' (first | (with_reducible exact Below.refl _ _) | (with_reducible refine Below.alloc ?_ ?_ _) | (with_reducible refine Below.setCell ?_ ?_ _) | (with_reducible refine Below.drew ?_) | (with_reducible refine below_drewN ?_ _) | (with_reducible assumption) | (with_reducible refine below_after (by with_reducible assumption) ?_) | go_size))
  clear hw0
  have le_M : w.heap.size ≤ GM := by omega
  obtain ⟨⟨qM0, qM1, qM2, qM3⟩, ⟨fM0, fM1, fM2, fM3⟩, zM⟩ := HM.out
  go_wp2_with fail
  go_at_call 54
  refine (HMX.out _).mono ?_
  rintro e w1 ⟨rfl, hb⟩
  clear qM0 fM0 qM1 fM1 qM2 fM2 qM3 fM3 zM
  have HM := Lib.hid (HM.out.below hb)
  have HB := Lib.hid (below_after hb HB.out)
  clear hb
  obtain ⟨⟨qM0, qM1, qM2, qM3⟩, ⟨fM0, fM1, fM2, fM3⟩, zM⟩ := HM.out
  go_wp2_with fail
  go_at_call 55
  refine (HDT.out _).mono ?_
  rintro e w2 ⟨rfl, hb⟩
  clear qM0 fM0 qM1 fM1 qM2 fM2 qM3 fM3 zM
  have HM := Lib.hid (HM.out.below hb)
  have HB := Lib.hid (below_after hb HB.out)
  clear hb
  obtain ⟨⟨qM0, qM1, qM2, qM3⟩, ⟨fM0, fM1, fM2, fM3⟩, zM⟩ := HM.out
  go_wp2_with fail
  go_at_call 57
  refine (HWT.out _).mono ?_
  rintro e w3 ⟨rfl, hb⟩
  clear qM0 fM0 qM1 fM1 qM2 fM2 qM3 fM3 zM
  have HM := Lib.hid (HM.out.below hb)
  have HB := Lib.hid (below_after hb HB.out)
  clear hb
  obtain ⟨⟨qM0, qM1, qM2, qM3⟩, ⟨fM0, fM1, fM2, fM3⟩, zM⟩ := HM.out
  go_wp2_with fail
  refine bodyPost_ret (v := .tuple #[.string ⟨B.toArray⟩, .int .i64 K]) (by simp (maxDischargeDepth := 8) [results, Try.results20, go_sem, *]) rfl ?_
  have hb := HB.out
  exact ⟨rfl, by (repeat' (first | (with_reducible exact Below.refl _ _) | (with_reducible refine Below.alloc ?_ ?_ _) | (with_reducible refine Below.setCell ?_ ?_ _) | (with_reducible refine Below.drew ?_) | (with_reducible refine below_drewN ?_ _) | (with_reducible assumption) | (with_reducible refine below_after (by with_reducible assumption) ?_) | go_size))⟩
set_option maxHeartbeats 1600000 in
theorem impl_WordOfMatrix_any (a b c d : Int) (w : World) : Calls Try.prog 20 #[.agg #[.int .i64 a, .int .i64 b, .int .i64 c, .int .i64 d]] w fun e w' => e = .returned (.tuple #[.string ⟨(wmB a b c d).toArray⟩, .int .i64 (wmK a b c d)]) ∧ Below w.heap.size w w' := by
  cases hmx : isMx a b c d
  · have hw : woW a b c d = false := by unfold woW; rw [hmx]; rfl
    rw [show wmB a b c d = [] from by unfold wmB; rw [if_neg (by rw [hw]; decide)], show wmK a b c d = 1 from by unfold wmK; rw [if_neg (by rw [hw]; decide), if_neg (by rw [hmx]; decide)]]
    have HMX : Hid (∀ w, Calls Try.prog 54 #[.agg #[.int .i64 a, .int .i64 b, .int .i64 c, .int .i64 d]] w fun e w' => e = .returned (.bool false) ∧ Below w.heap.size w w') := fun w => by
      have := impl_IsMatrix_any a b c d w
      rwa [hmx] at this
    clear hmx hw
    obtain ⟨GM, hG⟩ : ∃ G, w.heap.size = G := ⟨_, rfl⟩
    have HG := Lib.hid hG
    go_enter Try.func20, Try.ntmps20
    go_upto_region 1 with fail
    obtain ⟨w0, hw0⟩ : ∃ w0, w0 = (w.alloc (.cells #[.int .i64 a, .int .i64 b, .int .i64 c, .int .i64 d] 26)) := ⟨_, rfl⟩
    rw [← hw0]
    have HM : Hid (Bk4 w0 GM a b c d) := by
      have h := (bk4_new w a b c d 26).below (W' := (w.alloc (.cells #[.int .i64 a, .int .i64 b, .int .i64 c, .int .i64 d] 26))) (by (repeat' (first | (with_reducible exact Below.refl _ _) | (with_reducible refine Below.alloc ?_ ?_ _) | (with_reducible refine Below.setCell ?_ ?_ _) | (with_reducible refine Below.drew ?_) | (with_reducible refine below_drewN ?_ _) | (with_reducible assumption) | (with_reducible refine below_after (by with_reducible assumption) ?_) | go_size)))
      (try simp only [World.size_alloc] at h)
      rw [hG] at h
      rw [hw0]; exact h
    have HB : Hid (Below w.heap.size w w0) := by show Below w.heap.size w w0; rw [hw0]; (repeat' (first | (with_reducible exact Below.refl _ _) | (with_reducible refine Below.alloc ?_ ?_ _) | (with_reducible refine Below.setCell ?_ ?_ _) | (with_reducible refine Below.drew ?_) | (with_reducible refine below_drewN ?_ _) | (with_reducible assumption) | (with_reducible refine below_after (by with_reducible assumption) ?_) | go_size))
    clear hw0
    have le_M : w.heap.size ≤ GM := by omega
    obtain ⟨⟨qM0, qM1, qM2, qM3⟩, ⟨fM0, fM1, fM2, fM3⟩, zM⟩ := HM.out
    go_wp2_with fail
    go_at_call 54
    refine (HMX.out _).mono ?_
    rintro e w1 ⟨rfl, hb⟩
    clear qM0 fM0 qM1 fM1 qM2 fM2 qM3 fM3 zM
    have HM := Lib.hid (HM.out.below hb)
    have HB := Lib.hid (below_after hb HB.out)
    clear hb
    obtain ⟨⟨qM0, qM1, qM2, qM3⟩, ⟨fM0, fM1, fM2, fM3⟩, zM⟩ := HM.out
    go_wp2_with fail
    refine bodyPost_ret (v := .tuple #[.string ⟨#[]⟩, .int .i64 1]) (by simp (maxDischargeDepth := 8) [results, Try.results20, go_sem, *]) rfl ?_
    have hb := HB.out
    exact ⟨rfl, by (repeat' (first | (with_reducible exact Below.refl _ _) | (with_reducible refine Below.alloc ?_ ?_ _) | (with_reducible refine Below.setCell ?_ ?_ _) | (with_reducible refine Below.drew ?_) | (with_reducible refine below_drewN ?_ _) | (with_reducible assumption) | (with_reducible refine below_after (by with_reducible assumption) ?_) | go_size))⟩
  · have HMX : Hid (∀ w, Calls Try.prog 54 #[.agg #[.int .i64 a, .int .i64 b, .int .i64 c, .int .i64 d]] w fun e w' => e = .returned (.bool true) ∧ Below w.heap.size w w') := fun w => by
      have := impl_IsMatrix_any a b c d w
      rwa [hmx] at this
    obtain ⟨k0, k1⟩ := isMx_parts hmx
    have HDT : Hid (∀ w, Calls Try.prog 55 #[.agg #[.int .i64 a, .int .i64 b], .agg #[.int .i64 c, .int .i64 d]] w fun e w' => e = .returned (.int .i64 (detP (a, b) (c, d))) ∧ Below w.heap.size w w') := fun w => determinant_any a b c d w (isPt_bn1 k0) (isPt_bn2 k0) (isPt_bn1 k1) (isPt_bn2 k1)
    cases hw : woW a b c d
    · rw [show wmB a b c d = [] from by unfold wmB; rw [if_neg (by rw [hw]; decide)], show wmK a b c d = 5 from by unfold wmK; rw [if_neg (by rw [hw]; decide), if_pos hmx]]
      by_cases hd : detP (a, b) (c, d) = 1
      · rw [hd] at HDT
        have hneg : ¬ (0 ≤ a ∧ 0 ≤ b ∧ 0 ≤ c ∧ 0 ≤ d) := by
          rintro ⟨h1, h2, h3, h4⟩
          have : woW a b c d = true := by simp [woW, hmx, hd, h1, h2, h3, h4]
          rw [hw] at this; cases this
        clear hw hmx hd k0 k1
        have hmin := fun (W : World) (ts : Array TypeId) (t : TypeId) => run_min4 Try.prog W ts t a b c d _ rfl
        have hlt : min (min (min a b) c) d < 0 := by omega
        obtain ⟨mn, hmn⟩ : ∃ mn, min (min (min a b) c) d = mn := ⟨_, rfl⟩
        rw [hmn] at hmin hlt
        clear hneg hmn
        obtain ⟨GM, hG⟩ : ∃ G, w.heap.size = G := ⟨_, rfl⟩
        have HG := Lib.hid hG
        go_enter Try.func20, Try.ntmps20
        go_upto_region 1 with fail
        obtain ⟨w0, hw0⟩ : ∃ w0, w0 = (w.alloc (.cells #[.int .i64 a, .int .i64 b, .int .i64 c, .int .i64 d] 26)) := ⟨_, rfl⟩
        rw [← hw0]
        have HM : Hid (Bk4 w0 GM a b c d) := by
          have h := (bk4_new w a b c d 26).below (W' := (w.alloc (.cells #[.int .i64 a, .int .i64 b, .int .i64 c, .int .i64 d] 26))) (by (repeat' (first | (with_reducible exact Below.refl _ _) | (with_reducible refine Below.alloc ?_ ?_ _) | (with_reducible refine Below.setCell ?_ ?_ _) | (with_reducible refine Below.drew ?_) | (with_reducible refine below_drewN ?_ _) | (with_reducible assumption) | (with_reducible refine below_after (by with_reducible assumption) ?_) | go_size)))
          (try simp only [World.size_alloc] at h)
          rw [hG] at h
          rw [hw0]; exact h
        have HB : Hid (Below w.heap.size w w0) := by show Below w.heap.size w w0; rw [hw0]; (repeat' (first | (with_reducible exact Below.refl _ _) | (with_reducible refine Below.alloc ?_ ?_ _) | (with_reducible refine Below.setCell ?_ ?_ _) | (with_reducible refine Below.drew ?_) | (with_reducible refine below_drewN ?_ _) | (with_reducible assumption) | (with_reducible refine below_after (by with_reducible assumption) ?_) | go_size))
        clear hw0
        have le_M : w.heap.size ≤ GM := by omega
        obtain ⟨⟨qM0, qM1, qM2, qM3⟩, ⟨fM0, fM1, fM2, fM3⟩, zM⟩ := HM.out
        go_wp2_with fail
        go_at_call 54
        refine (HMX.out _).mono ?_
        rintro e w1 ⟨rfl, hb⟩
        clear qM0 fM0 qM1 fM1 qM2 fM2 qM3 fM3 zM
        have HM := Lib.hid (HM.out.below hb)
        have HB := Lib.hid (below_after hb HB.out)
        clear hb
        obtain ⟨⟨qM0, qM1, qM2, qM3⟩, ⟨fM0, fM1, fM2, fM3⟩, zM⟩ := HM.out
        go_wp2_with fail
        go_at_call 55
        refine (HDT.out _).mono ?_
        rintro e w2 ⟨rfl, hb⟩
        clear qM0 fM0 qM1 fM1 qM2 fM2 qM3 fM3 zM
        have HM := Lib.hid (HM.out.below hb)
        have HB := Lib.hid (below_after hb HB.out)
        clear hb
        obtain ⟨⟨qM0, qM1, qM2, qM3⟩, ⟨fM0, fM1, fM2, fM3⟩, zM⟩ := HM.out
        go_wp2_with fail
        refine bodyPost_ret (v := .tuple #[.string ⟨#[]⟩, .int .i64 5]) (by simp (maxDischargeDepth := 8) [results, Try.results20, go_sem, *]) rfl ?_
        have hb := HB.out
        exact ⟨rfl, by (repeat' (first | (with_reducible exact Below.refl _ _) | (with_reducible refine Below.alloc ?_ ?_ _) | (with_reducible refine Below.setCell ?_ ?_ _) | (with_reducible refine Below.drew ?_) | (with_reducible refine below_drewN ?_ _) | (with_reducible assumption) | (with_reducible refine below_after (by with_reducible assumption) ?_) | go_size))⟩
      · obtain ⟨D, hD⟩ : ∃ D, detP (a, b) (c, d) = D := ⟨_, rfl⟩
        rw [hD] at HDT hd
        have hd1 : (D == 1) = false := by simpa using hd
        have hd2 : (D != 1) = true := by simpa using hd
        clear hw hmx hD k0 k1
        obtain ⟨GM, hG⟩ : ∃ G, w.heap.size = G := ⟨_, rfl⟩
        have HG := Lib.hid hG
        go_enter Try.func20, Try.ntmps20
        go_upto_region 1 with fail
        obtain ⟨w0, hw0⟩ : ∃ w0, w0 = (w.alloc (.cells #[.int .i64 a, .int .i64 b, .int .i64 c, .int .i64 d] 26)) := ⟨_, rfl⟩
        rw [← hw0]
        have HM : Hid (Bk4 w0 GM a b c d) := by
          have h := (bk4_new w a b c d 26).below (W' := (w.alloc (.cells #[.int .i64 a, .int .i64 b, .int .i64 c, .int .i64 d] 26))) (by (repeat' (first | (with_reducible exact Below.refl _ _) | (with_reducible refine Below.alloc ?_ ?_ _) | (with_reducible refine Below.setCell ?_ ?_ _) | (with_reducible refine Below.drew ?_) | (with_reducible refine below_drewN ?_ _) | (with_reducible assumption) | (with_reducible refine below_after (by with_reducible assumption) ?_) | go_size)))
          (try simp only [World.size_alloc] at h)
          rw [hG] at h
          rw [hw0]; exact h
        have HB : Hid (Below w.heap.size w w0) := by show Below w.heap.size w w0; rw [hw0]; (repeat' (first | (with_reducible exact Below.refl _ _) | (with_reducible refine Below.alloc ?_ ?_ _) | (with_reducible refine Below.setCell ?_ ?_ _) | (with_reducible refine Below.drew ?_) | (with_reducible refine below_drewN ?_ _) | (with_reducible assumption) | (with_reducible refine below_after (by with_reducible assumption) ?_) | go_size))
        clear hw0
        have le_M : w.heap.size ≤ GM := by omega
        obtain ⟨⟨qM0, qM1, qM2, qM3⟩, ⟨fM0, fM1, fM2, fM3⟩, zM⟩ := HM.out
        go_wp2_with fail
        go_at_call 54
        refine (HMX.out _).mono ?_
        rintro e w1 ⟨rfl, hb⟩
        clear qM0 fM0 qM1 fM1 qM2 fM2 qM3 fM3 zM
        have HM := Lib.hid (HM.out.below hb)
        have HB := Lib.hid (below_after hb HB.out)
        clear hb
        obtain ⟨⟨qM0, qM1, qM2, qM3⟩, ⟨fM0, fM1, fM2, fM3⟩, zM⟩ := HM.out
        go_wp2_with fail
        go_at_call 55
        refine (HDT.out _).mono ?_
        rintro e w2 ⟨rfl, hb⟩
        clear qM0 fM0 qM1 fM1 qM2 fM2 qM3 fM3 zM
        have HM := Lib.hid (HM.out.below hb)
        have HB := Lib.hid (below_after hb HB.out)
        clear hb
        obtain ⟨⟨qM0, qM1, qM2, qM3⟩, ⟨fM0, fM1, fM2, fM3⟩, zM⟩ := HM.out
        go_wp2_with fail
        refine bodyPost_ret (v := .tuple #[.string ⟨#[]⟩, .int .i64 5]) (by simp (maxDischargeDepth := 8) [results, Try.results20, go_sem, *]) rfl ?_
        have hb := HB.out
        exact ⟨rfl, by (repeat' (first | (with_reducible exact Below.refl _ _) | (with_reducible refine Below.alloc ?_ ?_ _) | (with_reducible refine Below.setCell ?_ ?_ _) | (with_reducible refine Below.drew ?_) | (with_reducible refine below_drewN ?_ _) | (with_reducible assumption) | (with_reducible refine below_after (by with_reducible assumption) ?_) | go_size))⟩
    · rw [show wmB a b c d = woB (wo 200 a b c d) from by unfold wmB; rw [if_pos hw], show wmK a b c d = woK (wo 200 a b c d) from by unfold wmK; rw [if_pos hw]]
      exact impl_Word_ok a b c d w hw
end Go.Proofs.Ytohnmogejidpdaa
