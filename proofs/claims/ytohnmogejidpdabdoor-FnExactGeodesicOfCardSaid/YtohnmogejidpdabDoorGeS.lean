/-
  GeodesicOf in the model (own work).
-/
import Derived.Test.YtohnmogejidpdabDoorGeI
import Derived.Test.YtohnmogejidpdabDoorAppK
import Derived.Maps.AppendAt
import Derived.Deep.DeepCutAuto
namespace Go.Proofs.YtohnmogejidpdabDoor
open Go.ChangeShapes Go.WideShapes Go.ChangeAt Go.RowKit Go.Shelf
set_option linter.unusedVariables false
set_option maxRecDepth 100000
set_option linter.unusedSimpArgs false
set_option maxRecDepth 100000

/-- A list of points that grows by one that has just been laid, and where it lies then. -/
theorem wpList_app_Q {B : Nat} {W : World} {ops : Array Oper} {rest : List Oper} {o : Oper} {a : Act} {Q : Exit → Act → World → Prop} (hgd : o.guard = none) (s x : Operand)
    (ho : o.op = .call { callee := .builtin .append, args := #[s, x], argTypes := #[28, 28] })
    {v : Value} {n g c : Nat} {xs : List Int} {a0 a1 : Int} (hown : OwnF B W v n xs) (c0 : W.cell? ⟨g, 0, none⟩ = some (.int .i64 a0)) (c1 : W.cell? ⟨g, 1, none⟩ = some (.int .i64 a1)) (hb : B ≤ W.heap.size) (hs : a.eval s = v) (hx : a.eval x = .slice (some ⟨g, 0, none⟩) 1 c) (hlen : n + 1 ≤ 4194304)
    (hK : ∀ v' w', OwnF B w' v' (n + 1) (xs ++ [a0, a1]) → W.grownBy w' v.ownBlock → (v'.ownBlock = v.ownBlock ∨ v'.ownBlock = some W.heap.size) → wpList Tryd.prog ops Q rest (a.put o.dst v') w') : wpList Tryd.prog ops Q (o :: rest) a W := by
  obtain ⟨i0, hi, hz0, hz1, hz2⟩ := info_parts info_pt
  refine wpList_append_own_at _ hgd s x 28 ho B 23 i0 (.agg #[.int .i64 0, .int .i64 0]) 2 16 Tryd.underlying28 hi hz0 hz1 hz2 rfl (by decide) v _ _ hs hown ⟨g, 0, none⟩ 1 c ([a0, a1].map (Value.int .i64)) hx rfl ?_ ?_ ?_ ?_ hb ?_
  · intro j u hj
    match j, hj with
    | 0, hj => simp at hj; subst hj; simpa [Addr.add] using c0
    | 1, hj => simp at hj; subst hj; simpa [Addr.add] using c1
  · intro u hu; simp only [List.mem_map] at hu; obtain ⟨y, _, rfl⟩ := hu; rfl
  · unfold maxLen; omega
  · omega
  · intro v' w' h1 h2 _ h4
    refine hK v' w' ?_ h2 h4
    show w'.ownsRow B 23 2 v' (n + 1) ((xs ++ [a0, a1]).map (Value.int .i64))
    rw [List.map_append]; exact h1
theorem wy_cn : ∀ (f : Nat) (x y : Int), isFr x y = true → 1 ≤ y → ∀ p ∈ wy f x y, Cn p.1 ∧ Cn p.2
  | 0, x, y, hF, h1, p, hp => by
    simp only [wy, List.mem_singleton] at hp
    subst hp
    exact ⟨isPt_c1 (isFr_pt hF), isPt_c2 (isFr_pt hF)⟩
  | f + 1, x, y, hF, h1, p, hp => by
    by_cases hy : y ≤ 1
    · rw [wy_end _ _ _ hy, List.mem_singleton] at hp
      subst hp
      exact ⟨isPt_c1 (isFr_pt hF), isPt_c2 (isFr_pt hF)⟩
    · rw [wy_go (by omega), List.mem_cons] at hp
      rcases hp with rfl | hp
      · exact ⟨isPt_c1 (isFr_pt hF), isPt_c2 (isFr_pt hF)⟩
      · obtain ⟨k1, k2, _⟩ := nx_fr hF (by omega)
        exact wy_cn f _ _ k1 k2 p hp
theorem wy_len : ∀ (f : Nat) (x y : Int), (wy f x y).length ≤ f + 1 ∧ 1 ≤ (wy f x y).length
  | 0, _, _ => by simp [wy]
  | f + 1, x, y => by
    unfold wy
    split
    · simp
    · have := wy_len f (nxX x y) (nxY x y)
      simp; omega
theorem rv_step (T : Int × Int → Int × Int) (W : List (Int × Int)) (k : Nat) (h : k < W.length) : ((W.take (k + 1)).map T).reverse = T (W.getD k (0, 0)) :: ((W.take k).map T).reverse := by
  have e : W.take (k + 1) = W.take k ++ [W[k]] := by rw [List.take_add_one, List.getElem?_eq_getElem h]; rfl
  rw [e, List.map_append, List.reverse_append]
  simp [List.getD, h]
/-- Where the model stands while it leads the list back: the matrix, and the fraction that is led. -/
def Sg (w : World) (B G : Nat) (a U b V : Int) (g k : Nat) (X0 X1 : Int) (W : World) : Prop := Below w.heap.size w W ∧ B ≤ W.heap.size ∧ Bk4 W G a U b V ∧ W.cell? ⟨g, k * 2, none⟩ = some (.int .i64 X0) ∧ W.cell? ⟨g, k * 2 + 1, none⟩ = some (.int .i64 X1)
theorem Sg.below {w : World} {B G : Nat} {a U b V : Int} {g k : Nat} {X0 X1 : Int} {W W' : World} (h : Sg w B G a U b V g k X0 X1 W) (hb : Below W.heap.size W W') : Sg w B G a U b V g k X0 X1 W' := by
  obtain ⟨h0, h1, h2, h3, h4⟩ := h
  have lg : g < W.heap.size := World.block_lt_of_cell? _ _ h3
  exact ⟨below_after hb h0, Nat.le_trans h1 hb.size, h2.below hb, (hb.cell (p := ⟨g, k * 2, none⟩) lg).trans h3, (hb.cell (p := ⟨g, k * 2 + 1, none⟩) lg).trans h4⟩
theorem Sg.grown {w : World} {B G : Nat} {a U b V : Int} {g k : Nat} {X0 X1 : Int} {W W' : World} {r : Nat} (h : Sg w B G a U b V g k X0 X1 W) (hg : W.grownBy W' (some r)) (hG : r ≠ G) (hgr : r ≠ g) (hw : w.heap.size ≤ r) : Sg w B G a U b V g k X0 X1 W' := by
  obtain ⟨h0, h1, h2, h3, h4⟩ := h
  have lg : g < W.heap.size := World.block_lt_of_cell? _ _ h3
  have he := hg.block g lg (fun e => hgr (by simpa using e.symm))
  refine ⟨h0.grown hg h0.size (fun k hk => by cases hk; exact hw), Nat.le_trans h1 hg.size, h2.grown hg (fun e => hG (by simpa using e)), ?_, ?_⟩
  · rw [← h3]; simp only [World.cell?, he]
  · rw [← h4]; simp only [World.cell?, he]
theorem gcd_of_fr {x y : Int} (h : isFr x y = true) : Int.gcd x y = 1 := by
  have := isFr_gcd h
  unfold gcdI at this
  omega
theorem ge_same {a b : Int} (h : allFr [(a, b), (a, b)] = true) (f : isFr a b = true) : geK a b a b = 0 ∧ geL a b a b = [(a, b)] := by
  obtain ⟨e3, e4⟩ := mv_same f
  have hk : geK a b a b = 0 := ge_yes h (by rw [e3, e4]; rfl)
  exact ⟨hk, by unfold geL; rw [if_pos hk, if_pos e4]⟩
set_option maxHeartbeats 12800000 in
theorem spec_GeodesicOf_any (a b c d : Int) (w : World) : Calls Tryd.prog 8 #[.agg #[.int .i64 a, .int .i64 b], .agg #[.int .i64 c, .int .i64 d]] w fun e w' => ∃ v, e = .returned (.tuple #[v, .int .i64 (geK a b c d)]) ∧ OwnF w.heap.size w' v (geL a b c d).length (flat (geL a b c d)) ∧ Below w.heap.size w w' := by
  have heq := eq_pt
  cases h : allFr [(a, b), (c, d)]
  · rw [(ge_fr h).1, (ge_fr h).2]
    refine (spec_GeodesicOf_fail a b c d _ w h rfl).mono ?_
    rintro e w1 ⟨rfl, hb⟩
    exact ⟨_, rfl, World.ownsRow_nil _ _ _ _, hb⟩
  · obtain ⟨f0, f1⟩ := frs2 h
    have HK := Lib.hid (frE_yes h)
    cases hs : (a == c && b == d)
    · have HM0 := Lib.hid (fun w => l05Moved_any a b c d w f0 f1)
      obtain ⟨g1, g2, g3⟩ := mv_prim f0 f1
      have hz : mvY a b c d ≠ 0 := fun h0 => by
        obtain ⟨rfl, rfl⟩ := mv_zero f0 f1 h0
        simp at hs
      cases hp : isPt (mvX a b c d, mvY a b c d)
      · rw [(ge_no h hp).1, (ge_no h hp).2]
        rw [hp] at HM0
        generalize mvX a b c d = X at *
        generalize mvY a b c d = Y at *
        clear h f0 f1 g1 g2 g3 hz hp
        obtain ⟨GP, hG⟩ : ∃ G, w.heap.size = G := ⟨_, rfl⟩
        have HG := Lib.hid hG
        go_enter Tryd.func8, Tryd.ntmps8
        go_upto_region 1 with fail
        obtain ⟨w0, hw0⟩ : ∃ w0, w0 = ((w.alloc (.cells #[.int .i64 a, .int .i64 b] 23)).alloc (.cells #[.int .i64 c, .int .i64 d] 23)) := ⟨_, rfl⟩
        rw [← hw0]
        have HP : Hid (Bk2 w0 GP a b) := by
          have h := (bk2_new w a b 23).below (W' := ((w.alloc (.cells #[.int .i64 a, .int .i64 b] 23)).alloc (.cells #[.int .i64 c, .int .i64 d] 23))) (by (repeat' (first | (with_reducible exact Below.refl _ _) | (with_reducible refine Below.alloc ?_ ?_ _) | (with_reducible refine Below.setCell ?_ ?_ _) | (with_reducible refine Below.drew ?_) | (with_reducible refine below_drewN ?_ _) | (with_reducible assumption) | (with_reducible refine below_after (by with_reducible assumption) ?_) | go_size)))
          (try simp only [World.size_alloc] at h)
          rw [hG] at h
          rw [hw0]; exact h
        have HQ : Hid (Bk2 w0 (GP + 1) c d) := by
          have h := (bk2_new (w.alloc (.cells #[.int .i64 a, .int .i64 b] 23)) c d 23).below (W' := ((w.alloc (.cells #[.int .i64 a, .int .i64 b] 23)).alloc (.cells #[.int .i64 c, .int .i64 d] 23))) (by (repeat' (first | (with_reducible exact Below.refl _ _) | (with_reducible refine Below.alloc ?_ ?_ _) | (with_reducible refine Below.setCell ?_ ?_ _) | (with_reducible refine Below.drew ?_) | (with_reducible refine below_drewN ?_ _) | (with_reducible assumption) | (with_reducible refine below_after (by with_reducible assumption) ?_) | go_size)))
          (try simp only [World.size_alloc] at h)
          rw [hG] at h
          rw [hw0]; exact h
        have HB : Hid (Below w.heap.size w w0) := by show Below w.heap.size w w0; rw [hw0]; (repeat' (first | (with_reducible exact Below.refl _ _) | (with_reducible refine Below.alloc ?_ ?_ _) | (with_reducible refine Below.setCell ?_ ?_ _) | (with_reducible refine Below.drew ?_) | (with_reducible refine below_drewN ?_ _) | (with_reducible assumption) | (with_reducible refine below_after (by with_reducible assumption) ?_) | go_size))
        clear hw0
        obtain ⟨GQ, hGQ⟩ : ∃ g, GP + 1 = g := ⟨_, rfl⟩
        rw [hGQ] at HQ ⊢
        have le_P : w.heap.size ≤ GP := by omega
        have le_Q : w.heap.size ≤ GQ := by omega
        have ne_Q_P : GQ ≠ GP := by omega
        have ne_P_Q : GP ≠ GQ := by omega
        clear hGQ
        obtain ⟨⟨qP0, qP1⟩, ⟨fP0, fP1⟩, zP⟩ := HP.out
        obtain ⟨⟨qQ0, qQ1⟩, ⟨fQ0, fQ1⟩, zQ⟩ := HQ.out
        go_wp2_with fail
        go_at_call 22
        refine (l05Code2_any a b c d 0 _ _ _ HK.out (by simp) (by go_cell) (by go_cell) (by go_cell) (by go_cell)).mono ?_
        rintro e w1 ⟨rfl, hb0⟩
        have hb : Below w0.heap.size w0 w1 := below_after hb0 (by (repeat' (first | (with_reducible exact Below.refl _ _) | (with_reducible refine Below.alloc ?_ ?_ _) | (with_reducible refine Below.setCell ?_ ?_ _) | (with_reducible refine Below.drew ?_) | (with_reducible refine below_drewN ?_ _) | (with_reducible assumption) | (with_reducible refine below_after (by with_reducible assumption) ?_) | go_size)))
        clear hb0
        clear qP0 fP0 qP1 fP1 zP qQ0 fQ0 qQ1 fQ1 zQ
        have HP := Lib.hid (HP.out.below hb)
        have HQ := Lib.hid (HQ.out.below hb)
        have HB := Lib.hid (below_after hb HB.out)
        clear hb
        obtain ⟨⟨qP0, qP1⟩, ⟨fP0, fP1⟩, zP⟩ := HP.out
        obtain ⟨⟨qQ0, qQ1⟩, ⟨fQ0, fQ1⟩, zQ⟩ := HQ.out
        go_wp2_with fail
        go_at_call 23
        refine (HM0.out _).mono ?_
        rintro e w2 ⟨rfl, hb⟩
        clear qP0 fP0 qP1 fP1 zP qQ0 fQ0 qQ1 fQ1 zQ
        have HP := Lib.hid (HP.out.below hb)
        have HQ := Lib.hid (HQ.out.below hb)
        have HB := Lib.hid (below_after hb HB.out)
        clear hb
        obtain ⟨⟨qP0, qP1⟩, ⟨fP0, fP1⟩, zP⟩ := HP.out
        obtain ⟨⟨qQ0, qQ1⟩, ⟨fQ0, fQ1⟩, zQ⟩ := HQ.out
        go_wp2_with fail
        go_ret2
        have hz := HB.out.size
        have hb := HB.out
        exact ⟨_, rfl, World.ownsRow_nil _ _ _ _, by (repeat' (first | (with_reducible exact Below.refl _ _) | (with_reducible refine Below.alloc ?_ ?_ _) | (with_reducible refine Below.setCell ?_ ?_ _) | (with_reducible refine Below.drew ?_) | (with_reducible refine below_drewN ?_ _) | (with_reducible assumption) | (with_reducible refine below_after (by with_reducible assumption) ?_) | go_size))⟩
      · have hk := ge_yes h hp
        have hgl : geL a b c d = (a, b) :: ((wy (mvY a b c d).toNat (mvX a b c d) (mvY a b c d)).map (fun p => bkT a b p.1 p.2)).reverse := by unfold geL; rw [if_pos hk, if_neg hz]
        rw [hk, hgl]
        rw [hp] at HM0
        have q1 := isPt_c1 hp
        have q2 := isPt_c2 hp
        have hF0 : isFr (mvX a b c d) (mvY a b c d) = true := isFr_of q1 ⟨by omega, q2.2⟩ g1
        have HQ0 : Hid (isFr (mvX a b c d) (mvY a b c d) = true ∧ 1 ≤ mvY a b c d) := ⟨hF0, by omega⟩
        have HFR := Lib.hid (fun w => l05Frame_any a b w f0)
        have hpa := isFr_pt f0
        have hdm := (mateI_ok hpa (isFr_gcd f0)).1
        have hmm := (mateI_ok hpa (isFr_gcd f0)).2
        have m1 := isPt_c1 (x := (mateI a b).1) (y := (mateI a b).2) hmm
        have m2 := isPt_c2 (x := (mateI a b).1) (y := (mateI a b).2) hmm
        have a1 := isPt_c1 hpa
        have a2 := isPt_c2 hpa
        have hmx : isMx (mateI a b).2 (-(mateI a b).1) (-b) a = true := by
          simp only [isMx, isPt, Bool.and_eq_true, crd_iff]
          exact ⟨⟨m2, by omega⟩, by omega, a1⟩
        have hdet : detP ((mateI a b).2, -(mateI a b).1) (-b, a) = 1 := by
          unfold detP
          simp only
          rw [Int.neg_mul_neg, Int.mul_comm (mateI a b).2 a, Int.mul_comm (mateI a b).1 b]
          exact hdm
        have HIN : Hid (∀ w, Calls Tryd.prog 24 #[.agg #[.int .i64 (mateI a b).2, .int .i64 (-(mateI a b).1), .int .i64 (-b), .int .i64 a]] w fun e w' => e = .returned (.agg #[.int .i64 a, .int .i64 (mateI a b).1, .int .i64 b, .int .i64 (mateI a b).2]) ∧ Below w.heap.size w w') := fun w => by
          have := l01Minus_any (mateI a b).2 (-(mateI a b).1) (-b) a w hmx (.inl hdet)
          rw [hdet] at this
          simp only [Int.one_mul, Int.neg_mul, Int.neg_neg] at this
          exact this
        have HBA : Hid (∀ x y, Cn x → Cn y → (∀ w, Calls Tryd.prog 29 #[.agg #[.int .i64 a, .int .i64 (mateI a b).1, .int .i64 b, .int .i64 (mateI a b).2], .agg #[.int .i64 x, .int .i64 y]] w fun e w' => e = .returned (.agg #[.int .i64 (a * x + (mateI a b).1 * y), .int .i64 (b * x + (mateI a b).2 * y)]) ∧ Below w.heap.size w w') ∧ (∀ w, Calls Tryd.prog 28 #[.agg #[.int .i64 (a * x + (mateI a b).1 * y), .int .i64 (b * x + (mateI a b).2 * y)]] w fun e w' => e = .returned (.agg #[.int .i64 (bkT a b x y).1, .int .i64 (bkT a b x y).2]) ∧ Below w.heap.size w w')) := by
          intro x y hx hy
          obtain ⟨b1, b2, b3, b4, b5, b6, t1, t2⟩ := bk_ok f0 hx hy
          exact ⟨fun w => l01Apply_any _ _ _ _ _ _ w b1 b2 b3 b4 b5 b6, fun w => l05Turn_any _ _ w t1 t2⟩
        obtain ⟨WW, hWW0⟩ : ∃ WW, wy (mvY a b c d).toNat (mvX a b c d) (mvY a b c d) = WW := ⟨_, rfl⟩
        have HLN : Hid (WW.length ≤ 1000001) := by
          show _ ≤ _
          rw [← hWW0]
          have := (wy_len (mvY a b c d).toNat (mvX a b c d) (mvY a b c d)).1
          omega
        have HCN : Hid (∀ p ∈ WW, Cn p.1 ∧ Cn p.2) := by
          show ∀ p ∈ WW, Cn p.1 ∧ Cn p.2
          rw [← hWW0]; exact wy_cn _ _ _ hF0 (by omega)
        have HWW : Hid ([] ++ wy (mvY a b c d).toNat (mvX a b c d) (mvY a b c d) = WW) := hWW0
        rw [hWW0]
        obtain ⟨OUT, hOUT⟩ : ∃ OUT, (a, b) :: (WW.map (fun p => bkT a b p.1 p.2)).reverse = OUT := ⟨_, rfl⟩
        have HOUT : Hid ([(a, b)] ++ (WW.map (fun p => bkT a b p.1 p.2)).reverse = OUT) := hOUT
        rw [hOUT]
        generalize (mateI a b).1 = U at *
        generalize (mateI a b).2 = V at *
        generalize bkT a b = T at *
        generalize mvX a b c d = X at *
        generalize mvY a b c d = Y at *
        clear h f0 f1 g1 g2 g3 hz hp hk hgl q1 q2 hF0 hpa hdm hmm m1 m2 a1 a2 hmx hdet hWW0 hOUT
        obtain ⟨GP, hG⟩ : ∃ G, w.heap.size = G := ⟨_, rfl⟩
        have HG := Lib.hid hG
        go_enter Tryd.func8, Tryd.ntmps8
        go_upto_region 1 with fail
        obtain ⟨w0, hw0⟩ : ∃ w0, w0 = ((w.alloc (.cells #[.int .i64 a, .int .i64 b] 23)).alloc (.cells #[.int .i64 c, .int .i64 d] 23)) := ⟨_, rfl⟩
        rw [← hw0]
        have HP : Hid (Bk2 w0 GP a b) := by
          have h := (bk2_new w a b 23).below (W' := ((w.alloc (.cells #[.int .i64 a, .int .i64 b] 23)).alloc (.cells #[.int .i64 c, .int .i64 d] 23))) (by (repeat' (first | (with_reducible exact Below.refl _ _) | (with_reducible refine Below.alloc ?_ ?_ _) | (with_reducible refine Below.setCell ?_ ?_ _) | (with_reducible refine Below.drew ?_) | (with_reducible refine below_drewN ?_ _) | (with_reducible assumption) | (with_reducible refine below_after (by with_reducible assumption) ?_) | go_size)))
          (try simp only [World.size_alloc] at h)
          rw [hG] at h
          rw [hw0]; exact h
        have HQ : Hid (Bk2 w0 (GP + 1) c d) := by
          have h := (bk2_new (w.alloc (.cells #[.int .i64 a, .int .i64 b] 23)) c d 23).below (W' := ((w.alloc (.cells #[.int .i64 a, .int .i64 b] 23)).alloc (.cells #[.int .i64 c, .int .i64 d] 23))) (by (repeat' (first | (with_reducible exact Below.refl _ _) | (with_reducible refine Below.alloc ?_ ?_ _) | (with_reducible refine Below.setCell ?_ ?_ _) | (with_reducible refine Below.drew ?_) | (with_reducible refine below_drewN ?_ _) | (with_reducible assumption) | (with_reducible refine below_after (by with_reducible assumption) ?_) | go_size)))
          (try simp only [World.size_alloc] at h)
          rw [hG] at h
          rw [hw0]; exact h
        have HB : Hid (Below w.heap.size w w0) := by show Below w.heap.size w w0; rw [hw0]; (repeat' (first | (with_reducible exact Below.refl _ _) | (with_reducible refine Below.alloc ?_ ?_ _) | (with_reducible refine Below.setCell ?_ ?_ _) | (with_reducible refine Below.drew ?_) | (with_reducible refine below_drewN ?_ _) | (with_reducible assumption) | (with_reducible refine below_after (by with_reducible assumption) ?_) | go_size))
        clear hw0
        obtain ⟨GQ, hGQ⟩ : ∃ g, GP + 1 = g := ⟨_, rfl⟩
        rw [hGQ] at HQ ⊢
        have le_P : w.heap.size ≤ GP := by omega
        have le_Q : w.heap.size ≤ GQ := by omega
        have ne_Q_P : GQ ≠ GP := by omega
        have ne_P_Q : GP ≠ GQ := by omega
        clear hGQ
        obtain ⟨⟨qP0, qP1⟩, ⟨fP0, fP1⟩, zP⟩ := HP.out
        obtain ⟨⟨qQ0, qQ1⟩, ⟨fQ0, fQ1⟩, zQ⟩ := HQ.out
        go_wp2_with fail
        go_at_call 22
        refine (l05Code2_any a b c d 0 _ _ _ HK.out (by simp) (by go_cell) (by go_cell) (by go_cell) (by go_cell)).mono ?_
        rintro e w1 ⟨rfl, hb0⟩
        have hb : Below w0.heap.size w0 w1 := below_after hb0 (by (repeat' (first | (with_reducible exact Below.refl _ _) | (with_reducible refine Below.alloc ?_ ?_ _) | (with_reducible refine Below.setCell ?_ ?_ _) | (with_reducible refine Below.drew ?_) | (with_reducible refine below_drewN ?_ _) | (with_reducible assumption) | (with_reducible refine below_after (by with_reducible assumption) ?_) | go_size)))
        clear hb0
        clear qP0 fP0 qP1 fP1 zP qQ0 fQ0 qQ1 fQ1 zQ
        have HP := Lib.hid (HP.out.below hb)
        have HQ := Lib.hid (HQ.out.below hb)
        have HB := Lib.hid (below_after hb HB.out)
        clear hb
        obtain ⟨⟨qP0, qP1⟩, ⟨fP0, fP1⟩, zP⟩ := HP.out
        obtain ⟨⟨qQ0, qQ1⟩, ⟨fQ0, fQ1⟩, zQ⟩ := HQ.out
        go_wp2_with fail
        go_at_call 23
        refine (HM0.out _).mono ?_
        rintro e w2 ⟨rfl, hb⟩
        clear qP0 fP0 qP1 fP1 zP qQ0 fQ0 qQ1 fQ1 zQ
        have HP := Lib.hid (HP.out.below hb)
        have HQ := Lib.hid (HQ.out.below hb)
        have HB := Lib.hid (below_after hb HB.out)
        clear hb
        obtain ⟨⟨qP0, qP1⟩, ⟨fP0, fP1⟩, zP⟩ := HP.out
        obtain ⟨⟨qQ0, qQ1⟩, ⟨fQ0, fQ1⟩, zQ⟩ := HQ.out
        go_upto_region 7 with fail
        obtain ⟨GN, hGN⟩ : ∃ g, w2.heap.size = g := ⟨_, rfl⟩
        obtain ⟨w3, hw3⟩ : ∃ wx, wx = w2.alloc (.cells #[.int .i64 X, .int .i64 Y] 23) := ⟨_, rfl⟩
        rw [← hw3, hGN]
        have HN : Hid (Bk2 w3 GN X Y) := by rw [hw3, ← hGN]; exact bk2_new w2 X Y _
        have le_N : w.heap.size ≤ GN := by rw [← hGN]; exact HB.out.size
        have ne_N_P : GN ≠ GP := by have := HP.out.2.2; omega
        have ne_P_N : GP ≠ GN := Ne.symm ne_N_P
        have ne_N_Q : GN ≠ GQ := by have := HQ.out.2.2; omega
        have ne_Q_N : GQ ≠ GN := Ne.symm ne_N_Q
        clear qP0 fP0 qP1 fP1 zP qQ0 fQ0 qQ1 fQ1 zQ
        have HP := Lib.hid (HP.out.below ((Below.refl _ _).alloc (Nat.le_refl _) (.cells #[.int .i64 X, .int .i64 Y] 23)))
        have HQ := Lib.hid (HQ.out.below ((Below.refl _ _).alloc (Nat.le_refl _) (.cells #[.int .i64 X, .int .i64 Y] 23)))
        have HB := Lib.hid (Below.alloc HB.out HB.out.size (.cells #[.int .i64 X, .int .i64 Y] 23))
        rw [← hw3] at HP HQ HB
        clear hw3 hGN
        obtain ⟨⟨qP0, qP1⟩, ⟨fP0, fP1⟩, zP⟩ := HP.out
        obtain ⟨⟨qQ0, qQ1⟩, ⟨fQ0, fQ1⟩, zQ⟩ := HQ.out
        obtain ⟨⟨qN0, qN1⟩, ⟨fN0, fN1⟩, zN⟩ := HN.out
        go_wp2_with fail
        go_at_call 25
        refine (HFR.out _).mono ?_
        rintro e w4 ⟨rfl, hb⟩
        clear qP0 fP0 qP1 fP1 zP qQ0 fQ0 qQ1 fQ1 zQ qN0 fN0 qN1 fN1 zN
        have HP := Lib.hid (HP.out.below hb)
        have HQ := Lib.hid (HQ.out.below hb)
        have HN := Lib.hid (HN.out.below hb)
        have HB := Lib.hid (below_after hb HB.out)
        clear hb
        obtain ⟨⟨qP0, qP1⟩, ⟨fP0, fP1⟩, zP⟩ := HP.out
        obtain ⟨⟨qQ0, qQ1⟩, ⟨fQ0, fQ1⟩, zQ⟩ := HQ.out
        obtain ⟨⟨qN0, qN1⟩, ⟨fN0, fN1⟩, zN⟩ := HN.out
        go_wp2_with fail
        go_at_call 24
        refine (HIN.out _).mono ?_
        rintro e w5 ⟨rfl, hb⟩
        clear qP0 fP0 qP1 fP1 zP qQ0 fQ0 qQ1 fQ1 zQ qN0 fN0 qN1 fN1 zN
        have HP := Lib.hid (HP.out.below hb)
        have HQ := Lib.hid (HQ.out.below hb)
        have HN := Lib.hid (HN.out.below hb)
        have HB := Lib.hid (below_after hb HB.out)
        clear hb
        obtain ⟨⟨qP0, qP1⟩, ⟨fP0, fP1⟩, zP⟩ := HP.out
        obtain ⟨⟨qN0, qN1⟩, ⟨fN0, fN1⟩, zN⟩ := HN.out
        go_wp2_with fail
        clear qP0 fP0 qP1 fP1 zP qN0 fN0 qN1 fN1 zN
        obtain ⟨GE, hGE⟩ : ∃ g, w5.heap.size = g := ⟨_, rfl⟩
        obtain ⟨wE, hwE⟩ : ∃ wx, wx = w5.alloc (.cells #[] 23) := ⟨_, rfl⟩
        obtain ⟨wM, hwM⟩ : ∃ wx, wx = wE.alloc (.cells #[.int .i64 a, .int .i64 U, .int .i64 b, .int .i64 V] 51) := ⟨_, rfl⟩
        have hzE : wE.heap.size = GE + 1 := by rw [hwE, World.size_alloc, hGE]
        rw [← hwE, ← hwM, hGE]
        obtain ⟨GM, hGM⟩ : ∃ g, GE + 1 = g := ⟨_, rfl⟩
        (try rw [hzE])
        rw [hGM]
        have hbE : Below wE.heap.size wE wM := by rw [hwM]; (repeat' (first | (with_reducible exact Below.refl _ _) | (with_reducible refine Below.alloc ?_ ?_ _) | (with_reducible refine Below.setCell ?_ ?_ _) | (with_reducible refine Below.drew ?_) | (with_reducible refine below_drewN ?_ _) | (with_reducible assumption) | (with_reducible refine below_after (by with_reducible assumption) ?_) | go_size))
        have hbM : Below w5.heap.size w5 wM := by rw [hwM, hwE]; (repeat' (first | (with_reducible exact Below.refl _ _) | (with_reducible refine Below.alloc ?_ ?_ _) | (with_reducible refine Below.setCell ?_ ?_ _) | (with_reducible refine Below.drew ?_) | (with_reducible refine below_drewN ?_ _) | (with_reducible assumption) | (with_reducible refine below_after (by with_reducible assumption) ?_) | go_size))
        have HO : Hid (OwnF GE wM (.slice (some ⟨GE, 0, none⟩) 0 0) 0 (flat [])) := by
          have h0 : OwnF GE wE (.slice (some ⟨GE, 0, none⟩) 0 0) 0 (flat []) := by
            show OwnF _ _ _ _ _
            rw [hwE, ← hGE]
            exact World.ownsRow_lit w5 #[] 0 (Nat.le_refl _) (by decide) rfl
          exact h0.below hbE
        have HM : Hid (Bk4 wM GM a U b V) := by
          have h := bk4_new wE a U b V 51
          rw [← hwM, hzE, hGM] at h
          exact h
        have lt_P : GP < GE := by have := HP.out.2.2; omega
        have lt_N : GN < GE := by have := HN.out.2.2; omega
        have le_M : w.heap.size ≤ GM := by have := HB.out.size; omega
        have le_E : w.heap.size ≤ GE := by have := HB.out.size; omega
        have HP := Lib.hid (HP.out.below hbM)
        have HN := Lib.hid (HN.out.below hbM)
        have HB := Lib.hid (below_after hbM HB.out)
        have HNO : Hid (∀ k, (Value.slice (some ⟨GE, 0, none⟩) 0 0).ownBlock = some k → k ≠ GM) := fun k hk => by
          have : GE = k := by simpa [Value.ownBlock] using hk
          omega
        clear hbM hbE hwM hwE hzE hGE
        have ne_P_M : GP ≠ GM := by omega
        have ne_M_P : GM ≠ GP := by omega
        have ne_N_M : GN ≠ GM := by omega
        have ne_M_N : GM ≠ GN := by omega
        go_loopw [10] (fun v wr => ∃ (f n : Nat) (va : Option Addr) (vc : Nat) (x y : Int) (L : List (Int × Int)), v = .slice va n vc ∧ L.length = n ∧ OwnF GE wr (.slice va n vc) n (flat L) ∧ (∀ k, (Value.slice va n vc).ownBlock = some k → k ≠ GM) ∧ Bk2 wr GP a b ∧ Bk2 wr GN x y ∧ Bk4 wr GM a U b V ∧ Below w.heap.size w wr ∧ isFr x y = true ∧ 1 ≤ y ∧ y ≤ (f : Int) ∧ L ++ wy f x y = WW) (fun _ wr => (ivOf (wr.cell? ⟨GN, 1, none⟩)).toNat)
        case atStart => exact ⟨Y.toNat, 0, _, _, X, Y, [], rfl, rfl, HO.out, HNO.out, HP.out, HN.out, HM.out, HB.out, HQ0.out.1, HQ0.out.2, by omega, HWW.out⟩
        case round =>
          obtain ⟨f, n, va, vc, x, y, L, rfl, hn, ho, hno, hP, hN, hM, hbel, hF, h1, hyf, hwy⟩ := hrel
          clear HP HN HM HB HO HNO
          have HP := Lib.hid hP
          have HN := Lib.hid hN
          have HM := Lib.hid hM
          have HB := Lib.hid hbel
          have HO := Lib.hid ho
          have HNO := Lib.hid hno
          have HWY := Lib.hid hwy
          have hll : n + 1 ≤ 1000001 := by
            have h2 := HLN.out
            have h3 := (wy_len f x y).2
            rw [← hwy, List.length_append] at h2
            omega
          clear hP hN hM hbel ho hno hwy
          by_cases hy : 1 < y
          · have hyd : decide (1 < y) = true := by simpa using hy
            obtain ⟨f, rfl⟩ : ∃ m, f = m + 1 := ⟨f - 1, by omega⟩
            have HPA := Lib.hid (fun w => l05Parents_any x y w hF (by omega))
            obtain ⟨k1, k2, k3, k4⟩ := pl_fr hF (by omega)
            have c1 := isPt_c1 (isFr_pt k1)
            have c2 := isPt_c2 (isFr_pt k1)
            have d1 := isPt_c1 (isFr_pt k2)
            have d2 := isPt_c2 (isFr_pt k2)
            have HLL := Lib.hid (fun w => l05Level_any (plX x y) (plY x y) w (by omega) c2.2 c1.1 c1.2 (gcd_of_fr k1))
            have HLR := Lib.hid (fun w => l05Level_any (x - plX x y) (y - plY x y) w (by omega) d2.2 d1.1 d1.2 (gcd_of_fr k2))
            obtain ⟨m1, m2, m3⟩ := nx_fr hF (by omega)
            have HNF := Lib.hid (And.intro m1 (And.intro m2 m3))
            have HE : Hid ((lvl (x - plX x y) (y - plY x y) < lvl (plX x y) (plY x y) → nxX x y = x - plX x y ∧ nxY x y = y - plY x y) ∧ (¬ lvl (x - plX x y) (y - plY x y) < lvl (plX x y) (plY x y) → nxX x y = plX x y ∧ nxY x y = plY x y)) := by
              unfold nxX nxY
              rw [if_neg (show ¬ y = 1 by omega), if_neg (show ¬ y = 1 by omega)]
              exact ⟨fun h => by rw [if_pos h, if_pos h]; exact ⟨rfl, rfl⟩, fun h => by rw [if_neg h, if_neg h]; exact ⟨rfl, rfl⟩⟩
            have HW2 : Hid ((L ++ [(x, y)]) ++ wy f (nxX x y) (nxY x y) = WW) := by
              show _ = _
              rw [← HWY.out, wy_go hy, List.append_assoc]; rfl
            generalize lvl (x - plX x y) (y - plY x y) = R1 at *
            generalize lvl (plX x y) (plY x y) = L1 at *
            generalize nxX x y = NX at *
            generalize nxY x y = NY at *
            generalize plX x y = PX at *
            generalize plY x y = PY at *
            clear k1 k2 k3 k4 c1 c2 d1 d2 m1 m2 m3 hF HWY
            have hS1 := HN.out.1.2
            obtain ⟨⟨qP0, qP1⟩, ⟨fP0, fP1⟩, zP⟩ := HP.out
            obtain ⟨⟨qN0, qN1⟩, ⟨fN0, fN1⟩, zN⟩ := HN.out
            obtain ⟨⟨qM0, qM1, qM2, qM3⟩, ⟨fM0, fM1, fM2, fM3⟩, zM⟩ := HM.out
            have HPq := Lib.hid (HP.out.below ((Below.refl _ _).alloc (Nat.le_refl _) (.cells #[.int .i64 x, .int .i64 y] 23)))
            have HNq := Lib.hid (HN.out.below ((Below.refl _ _).alloc (Nat.le_refl _) (.cells #[.int .i64 x, .int .i64 y] 23)))
            have HMq := Lib.hid (HM.out.below ((Below.refl _ _).alloc (Nat.le_refl _) (.cells #[.int .i64 x, .int .i64 y] 23)))
            have HOq := Lib.hid (HO.out.below ((Below.refl _ _).alloc (Nat.le_refl _) (.cells #[.int .i64 x, .int .i64 y] 23)))
            have HBq := Lib.hid (Below.alloc HB.out HB.out.size (.cells #[.int .i64 x, .int .i64 y] 23))
            have HZq : Hid (GM < wr.heap.size ∧ (wr.alloc (.cells #[.int .i64 x, .int .i64 y] 23)).heap.size = wr.heap.size + 1) := ⟨HM.out.2.2, by rw [World.size_alloc]⟩
            have HGB : Hid (GE ≤ (wr.alloc (.cells #[.int .i64 x, .int .i64 y] 23)).heap.size) := by show _ ≤ _; have := HZq.out; omega
            have HC01 : Hid ((wr.alloc (.cells #[.int .i64 x, .int .i64 y] 23)).cell? ⟨wr.heap.size, 0, none⟩ = some (.int .i64 x) ∧ (wr.alloc (.cells #[.int .i64 x, .int .i64 y] 23)).cell? ⟨wr.heap.size, 1, none⟩ = some (.int .i64 y)) := ⟨by go_cell, by go_cell⟩
            go_wp2_with (at_builtin; refine wpList_app_Q (B := GE) rfl _ _ rfl HOq.out HC01.out.1 HC01.out.2 HGB.out rfl rfl (by omega) ?_)
            intro v5 w5 ho hgrow hat
            clear qP0 fP0 qP1 fP1 zP qN0 fN0 qN1 fN1 zN qM0 fM0 qM1 fM1 qM2 fM2 qM3 fM3 zM
            have hno : ∀ k, (Value.slice va n vc).ownBlock = some k → GE ≤ k := fun k hk => (World.ownsRow.lt HOq.out k hk).1
            have HNO5 : Hid (∀ k, v5.ownBlock = some k → k ≠ GM) := fun k hk => by
              rcases hat with h | h
              · exact HNO.out k (h.symm.trans hk)
              · rw [h] at hk
                simp only [Option.some.injEq] at hk
                have := HZq.out
                omega
            have HP := Lib.hid (HPq.out.grown hgrow (fun e => by have := hno GP e; omega))
            have HN := Lib.hid (HNq.out.grown hgrow (fun e => by have := hno GN e; omega))
            have HM := Lib.hid (HMq.out.grown hgrow (fun e => HNO.out GM e rfl))
            have HB := Lib.hid (Below.grown HBq.out hgrow HBq.out.size (fun k hk => by have := hno k hk; omega))
            obtain ⟨va5, vc5, rfl, _⟩ := own_viewF ho
            have HO : Hid (OwnF GE w5 (.slice va5 (n + 1) vc5) (n + 1) (flat (L ++ [(x, y)]))) := by
              show OwnF _ _ _ _ _
              rw [flat_append]; exact ho
            have HNO := HNO5
            clear ho hgrow hat hno HOq HBq HZq HGB HNO5 HC01 HPq HNq HMq
            obtain ⟨⟨qP0, qP1⟩, ⟨fP0, fP1⟩, zP⟩ := HP.out
            obtain ⟨⟨qN0, qN1⟩, ⟨fN0, fN1⟩, zN⟩ := HN.out
            obtain ⟨⟨qM0, qM1, qM2, qM3⟩, ⟨fM0, fM1, fM2, fM3⟩, zM⟩ := HM.out
            go_wp2_with fail
            go_at_call 26
            refine (HPA.out _).mono ?_
            rintro e w21 ⟨rfl, hb⟩
            clear qP0 fP0 qP1 fP1 zP qN0 fN0 qN1 fN1 zN qM0 fM0 qM1 fM1 qM2 fM2 qM3 fM3 zM
            have HP := Lib.hid (HP.out.below hb)
            have HN := Lib.hid (HN.out.below hb)
            have HM := Lib.hid (HM.out.below hb)
            have HO := Lib.hid (HO.out.below hb)
            have HB := Lib.hid (below_after hb HB.out)
            clear hb
            obtain ⟨⟨qP0, qP1⟩, ⟨fP0, fP1⟩, zP⟩ := HP.out
            obtain ⟨⟨qN0, qN1⟩, ⟨fN0, fN1⟩, zN⟩ := HN.out
            obtain ⟨⟨qM0, qM1, qM2, qM3⟩, ⟨fM0, fM1, fM2, fM3⟩, zM⟩ := HM.out
            go_upto_region 13 with fail
            obtain ⟨GL, hGL⟩ : ∃ g, w21.heap.size = g := ⟨_, rfl⟩
            obtain ⟨w22a, hw22a⟩ : ∃ wx, wx = w21.alloc (.cells #[.int .i64 PX, .int .i64 PY] 23) := ⟨_, rfl⟩
            obtain ⟨w22, hw22⟩ : ∃ wx, wx = w22a.alloc (.cells #[.int .i64 (x - PX), .int .i64 (y - PY)] 23) := ⟨_, rfl⟩
            have hza : w22a.heap.size = GL + 1 := by rw [hw22a, World.size_alloc, hGL]
            rw [← hw22a, ← hw22, hGL]
            obtain ⟨GR, hGR⟩ : ∃ g, GL + 1 = g := ⟨_, rfl⟩
            (try rw [hGR])
            have hba : Below w21.heap.size w21 w22 := by rw [hw22, hw22a]; (repeat' (first | (with_reducible exact Below.refl _ _) | (with_reducible refine Below.alloc ?_ ?_ _) | (with_reducible refine Below.setCell ?_ ?_ _) | (with_reducible refine Below.drew ?_) | (with_reducible refine below_drewN ?_ _) | (with_reducible assumption) | (with_reducible refine below_after (by with_reducible assumption) ?_) | go_size))
            have hb1 : Below w22a.heap.size w22a w22 := by rw [hw22]; (repeat' (first | (with_reducible exact Below.refl _ _) | (with_reducible refine Below.alloc ?_ ?_ _) | (with_reducible refine Below.setCell ?_ ?_ _) | (with_reducible refine Below.drew ?_) | (with_reducible refine below_drewN ?_ _) | (with_reducible assumption) | (with_reducible refine below_after (by with_reducible assumption) ?_) | go_size))
            have HL : Hid (Bk2 w22 GL PX PY) := by
              refine Bk2.below (W := w22a) ?_ hb1
              rw [hw22a, ← hGL]; exact bk2_new w21 PX PY _
            have HR : Hid (Bk2 w22 GR (x - PX) (y - PY)) := by
              have h := bk2_new w22a (x - PX) (y - PY) 23
              rw [← hw22, hza, hGR] at h
              exact h
            have le_L : w.heap.size ≤ GL := by rw [← hGL]; exact HB.out.size
            have le_R : w.heap.size ≤ GR := by omega
            have ne_R_L : GR ≠ GL := by omega
            have ne_L_R : GL ≠ GR := by omega
            have ne_L_P : GL ≠ GP := by have := HP.out.2.2; omega
            have ne_P_L : GP ≠ GL := Ne.symm ne_L_P
            have ne_R_P : GR ≠ GP := by have := HP.out.2.2; omega
            have ne_P_R : GP ≠ GR := Ne.symm ne_R_P
            have ne_L_N : GL ≠ GN := by have := HN.out.2.2; omega
            have ne_N_L : GN ≠ GL := Ne.symm ne_L_N
            have ne_R_N : GR ≠ GN := by have := HN.out.2.2; omega
            have ne_N_R : GN ≠ GR := Ne.symm ne_R_N
            have ne_L_M : GL ≠ GM := by have := HM.out.2.2; omega
            have ne_M_L : GM ≠ GL := Ne.symm ne_L_M
            have ne_R_M : GR ≠ GM := by have := HM.out.2.2; omega
            have ne_M_R : GM ≠ GR := Ne.symm ne_R_M
            clear qP0 fP0 qP1 fP1 zP qN0 fN0 qN1 fN1 zN qM0 fM0 qM1 fM1 qM2 fM2 qM3 fM3 zM
            have HP := Lib.hid (HP.out.below hba)
            have HN := Lib.hid (HN.out.below hba)
            have HM := Lib.hid (HM.out.below hba)
            have HO := Lib.hid (HO.out.below hba)
            have HB := Lib.hid (below_after hba HB.out)
            clear hba hb1 hw22 hw22a hza hGL hGR
            have hnoN : ∀ k, (Value.slice va5 (n + 1) vc5).ownBlock = some k → k ≠ GN := fun k hk => by have := (World.ownsRow.lt HO.out k hk).1; omega
            have HXX : Hid (∀ W, Below w22.heap.size w22 W → Bk2 W GP a b ∧ Bk2 W GN x y ∧ Bk4 W GM a U b V ∧ Bk2 W GL PX PY ∧ Bk2 W GR (x - PX) (y - PY)) := fun W hW => ⟨HP.out.below hW, HN.out.below hW, HM.out.below hW, HL.out.below hW, HR.out.below hW⟩
            go_wp2_with fail
            refine wp_region_held_drew (S := fun W => Below w22.heap.size w22 W) (by kernel_rfl) ?_ (fun hHeld => ?_); focus ((try dsimp only); exact (Below.refl _ _).drew)
            have HP := Lib.hid (HP.out.below (Below.drew (Below.refl _ _)))
            have HN := Lib.hid (HN.out.below (Below.drew (Below.refl _ _)))
            have HM := Lib.hid (HM.out.below (Below.drew (Below.refl _ _)))
            have HL := Lib.hid (HL.out.below (Below.drew (Below.refl _ _)))
            have HR := Lib.hid (HR.out.below (Below.drew (Below.refl _ _)))
            have HO := Lib.hid (HO.out.below (Below.drew (Below.refl _ _)))
            have hHeld : Below w22.heap.size w22 _ := hHeld
            obtain ⟨wD22, hwD22⟩ : ∃ wD, w22.drew = wD := ⟨_, rfl⟩
            rw [hwD22] at hHeld HP HN HM HL HR HO ⊢
            clear hwD22
            (refine wpAnyH_take (i := 0) (v := ?_) rfl (by kernel_rfl) (by kernel_rfl) (by kernel_rfl) (fun _ _ _ h => h) (Or.inl ⟨rfl, ?_⟩) (by assumption) ?_; rotate_left; focus (intro W hSw; (try dsimp only at hSw); have hxx := HXX.out _ hSw; obtain ⟨hxP, hxN, hxM, hxL, hxR⟩ := hxx; obtain ⟨⟨iP0, iP1⟩, _, _⟩ := hxP; obtain ⟨⟨iN0, iN1⟩, _, _⟩ := hxN; obtain ⟨⟨iM0, iM1, iM2, iM3⟩, _, _⟩ := hxM; obtain ⟨⟨iL0, iL1⟩, _, _⟩ := hxL; obtain ⟨⟨iR0, iR1⟩, _, _⟩ := hxR; go_simp; try (with_reducible rfl))); (try simp only [Act.put, List.getElem_toArray, List.getElem_cons_succ, List.getElem_cons_zero, List.setIfInBounds_toArray, List.set_cons_zero, List.set_cons_succ])
            (refine wpAnyH_take (i := 2) (v := ?_) rfl (by kernel_rfl) (by kernel_rfl) (by kernel_rfl) (fun _ _ _ h => h) (Or.inl ⟨rfl, ?_⟩) (by assumption) ?_; rotate_left; focus (intro W hSw; (try dsimp only at hSw); have hxx := HXX.out _ hSw; obtain ⟨hxP, hxN, hxM, hxL, hxR⟩ := hxx; obtain ⟨⟨iP0, iP1⟩, _, _⟩ := hxP; obtain ⟨⟨iN0, iN1⟩, _, _⟩ := hxN; obtain ⟨⟨iM0, iM1, iM2, iM3⟩, _, _⟩ := hxM; obtain ⟨⟨iL0, iL1⟩, _, _⟩ := hxL; obtain ⟨⟨iR0, iR1⟩, _, _⟩ := hxR; go_simp; try (with_reducible rfl))); (try simp only [Act.put, List.getElem_toArray, List.getElem_cons_succ, List.getElem_cons_zero, List.setIfInBounds_toArray, List.set_cons_zero, List.set_cons_succ])
            refine wpAnyH_ready (rs := [1]) (by kernel_rfl) (by simp) ?_; refine AllReadyH.cons rfl (fun K hK => ?_) AllReadyH.nil
            go_simp; (go_at_call 27; refine (HLR.out _).mono ?_; rintro en ywr22x0 ⟨rfl, hb2⟩); have HP := Lib.hid (HP.out.below hb2); have HN := Lib.hid (HN.out.below hb2); have HM := Lib.hid (HM.out.below hb2); have HL := Lib.hid (HL.out.below hb2); have HR := Lib.hid (HR.out.below hb2); have HO := Lib.hid (HO.out.below hb2); refine hK.out _ _ (below_after hb2 hHeld) (fun hHeld2 => ?_); clear hb2; (clear hHeld; rename _ => hHeld; clear hK K; have hHeld : Below w22.heap.size w22 _ := hHeld); (try simp only [Act.put, List.getElem_toArray, List.getElem_cons_succ, List.getElem_cons_zero, List.setIfInBounds_toArray, List.set_cons_zero, List.set_cons_succ])
            refine wpAnyH_ready (rs := [3]) (by kernel_rfl) (by simp) ?_; refine AllReadyH.cons rfl (fun K hK => ?_) AllReadyH.nil
            go_simp; (go_at_call 27; refine (HLL.out _).mono ?_; rintro en ywr22x1 ⟨rfl, hb2⟩); have HP := Lib.hid (HP.out.below hb2); have HN := Lib.hid (HN.out.below hb2); have HM := Lib.hid (HM.out.below hb2); have HL := Lib.hid (HL.out.below hb2); have HR := Lib.hid (HR.out.below hb2); have HO := Lib.hid (HO.out.below hb2); refine hK.out _ _ (below_after hb2 hHeld) (fun hHeld2 => ?_); clear hb2; (clear hHeld; rename _ => hHeld; clear hK K; have hHeld : Below w22.heap.size w22 _ := hHeld); (try simp only [Act.put, List.getElem_toArray, List.getElem_cons_succ, List.getElem_cons_zero, List.setIfInBounds_toArray, List.set_cons_zero, List.set_cons_succ])
            (refine wpAnyH_take (i := 4) (v := ?_) rfl (by kernel_rfl) (by kernel_rfl) (by kernel_rfl) (fun _ _ _ h => h) (Or.inl ⟨rfl, ?_⟩) (by assumption) ?_; rotate_left; focus (intro W hSw; (try dsimp only at hSw); have hxx := HXX.out _ hSw; obtain ⟨hxP, hxN, hxM, hxL, hxR⟩ := hxx; obtain ⟨⟨iP0, iP1⟩, _, _⟩ := hxP; obtain ⟨⟨iN0, iN1⟩, _, _⟩ := hxN; obtain ⟨⟨iM0, iM1, iM2, iM3⟩, _, _⟩ := hxM; obtain ⟨⟨iL0, iL1⟩, _, _⟩ := hxL; obtain ⟨⟨iR0, iR1⟩, _, _⟩ := hxR; go_simp; try (with_reducible rfl))); (try simp only [Act.put, List.getElem_toArray, List.getElem_cons_succ, List.getElem_cons_zero, List.setIfInBounds_toArray, List.set_cons_zero, List.set_cons_succ])
            refine wpAnyH_done (by kernel_rfl) ?_ _
            have HB := Lib.hid (HB.out.trans (hHeld.mono HB.out.size))
            clear hHeld HXX
            by_cases hlt : R1 < L1
            · have hd : decide (R1 < L1) = true := by simpa using hlt
              have he := HE.out.1 hlt
              obtain ⟨⟨qP0, qP1⟩, ⟨fP0, fP1⟩, zP⟩ := HP.out
              obtain ⟨⟨qN0, qN1⟩, ⟨fN0, fN1⟩, zN⟩ := HN.out
              obtain ⟨⟨qM0, qM1, qM2, qM3⟩, ⟨fM0, fM1, fM2, fM3⟩, zM⟩ := HM.out
              obtain ⟨⟨qL0, qL1⟩, ⟨fL0, fL1⟩, zL⟩ := HL.out
              obtain ⟨⟨qR0, qR1⟩, ⟨fR0, fR1⟩, zR⟩ := HR.out
              go_wp2_with fail
              clear qP0 fP0 qP1 fP1 zP qN0 fN0 qN1 fN1 zN qM0 fM0 qM1 fM1 qM2 fM2 qM3 fM3 zM qL0 fL0 qL1 fL1 zL qR0 fR0 qR1 fR1 zR
              have HP := Lib.hid ((HP.out.far ⟨GN, 0, none⟩ (.int .i64 (x - PX)) (by show GP ≠ GN; exact ne_P_N)).far ⟨GN, 1, none⟩ (.int .i64 (y - PY)) (by show GP ≠ GN; exact ne_P_N))
              have HM := Lib.hid ((HM.out.far ⟨GN, 0, none⟩ (.int .i64 (x - PX)) (by show GM ≠ GN; exact ne_M_N)).far ⟨GN, 1, none⟩ (.int .i64 (y - PY)) (by show GM ≠ GN; exact ne_M_N))
              have HL := Lib.hid ((HL.out.far ⟨GN, 0, none⟩ (.int .i64 (x - PX)) (by show GL ≠ GN; exact ne_L_N)).far ⟨GN, 1, none⟩ (.int .i64 (y - PY)) (by show GL ≠ GN; exact ne_L_N))
              have HR := Lib.hid ((HR.out.far ⟨GN, 0, none⟩ (.int .i64 (x - PX)) (by show GR ≠ GN; exact ne_R_N)).far ⟨GN, 1, none⟩ (.int .i64 (y - PY)) (by show GR ≠ GN; exact ne_R_N))
              have HN := Lib.hid ((HN.out.set0 (x - PX)).set1 (y - PY))
              have HB := Lib.hid (Below.setCell (Below.setCell HB.out (p := ⟨GN, 0, none⟩) le_N (.int .i64 (x - PX))) (p := ⟨GN, 1, none⟩) le_N (.int .i64 (y - PY)))
              have HO := Lib.hid (set_ownF (set_ownF HO.out (g := GN) 0 (.int .i64 (x - PX)) hnoN) (g := GN) 1 (.int .i64 (y - PY)) hnoN)
              have hS2 := HN.out.1.2
              have HW3 := HW2.out
              have HNF3 := HNF.out
              rw [he.1, he.2] at HW3 HNF3
              go_roundw
              case rel => exact ⟨f, n + 1, va5, vc5, x - PX, y - PY, L ++ [(x, y)], rfl, by rw [List.length_append, hn]; rfl, HO.out, HNO.out, HP.out, HN.out, HM.out, HB.out, HNF3.1, HNF3.2.1, by have := HNF3.2.2; omega, HW3⟩
              case measure => rw [hS1, hS2]; simp only [ivOf]; have := HNF3.2.2; omega
            · have hd : decide (R1 < L1) = false := by simpa using hlt
              have he := HE.out.2 (by omega)
              obtain ⟨⟨qP0, qP1⟩, ⟨fP0, fP1⟩, zP⟩ := HP.out
              obtain ⟨⟨qN0, qN1⟩, ⟨fN0, fN1⟩, zN⟩ := HN.out
              obtain ⟨⟨qM0, qM1, qM2, qM3⟩, ⟨fM0, fM1, fM2, fM3⟩, zM⟩ := HM.out
              obtain ⟨⟨qL0, qL1⟩, ⟨fL0, fL1⟩, zL⟩ := HL.out
              obtain ⟨⟨qR0, qR1⟩, ⟨fR0, fR1⟩, zR⟩ := HR.out
              go_wp2_with fail
              clear qP0 fP0 qP1 fP1 zP qN0 fN0 qN1 fN1 zN qM0 fM0 qM1 fM1 qM2 fM2 qM3 fM3 zM qL0 fL0 qL1 fL1 zL qR0 fR0 qR1 fR1 zR
              have HP := Lib.hid ((HP.out.far ⟨GN, 0, none⟩ (.int .i64 PX) (by show GP ≠ GN; exact ne_P_N)).far ⟨GN, 1, none⟩ (.int .i64 PY) (by show GP ≠ GN; exact ne_P_N))
              have HM := Lib.hid ((HM.out.far ⟨GN, 0, none⟩ (.int .i64 PX) (by show GM ≠ GN; exact ne_M_N)).far ⟨GN, 1, none⟩ (.int .i64 PY) (by show GM ≠ GN; exact ne_M_N))
              have HL := Lib.hid ((HL.out.far ⟨GN, 0, none⟩ (.int .i64 PX) (by show GL ≠ GN; exact ne_L_N)).far ⟨GN, 1, none⟩ (.int .i64 PY) (by show GL ≠ GN; exact ne_L_N))
              have HR := Lib.hid ((HR.out.far ⟨GN, 0, none⟩ (.int .i64 PX) (by show GR ≠ GN; exact ne_R_N)).far ⟨GN, 1, none⟩ (.int .i64 PY) (by show GR ≠ GN; exact ne_R_N))
              have HN := Lib.hid ((HN.out.set0 PX).set1 PY)
              have HB := Lib.hid (Below.setCell (Below.setCell HB.out (p := ⟨GN, 0, none⟩) le_N (.int .i64 PX)) (p := ⟨GN, 1, none⟩) le_N (.int .i64 PY))
              have HO := Lib.hid (set_ownF (set_ownF HO.out (g := GN) 0 (.int .i64 PX) hnoN) (g := GN) 1 (.int .i64 PY) hnoN)
              have hS2 := HN.out.1.2
              have HW3 := HW2.out
              have HNF3 := HNF.out
              rw [he.1, he.2] at HW3 HNF3
              go_roundw
              case rel => exact ⟨f, n + 1, va5, vc5, PX, PY, L ++ [(x, y)], rfl, by rw [List.length_append, hn]; rfl, HO.out, HNO.out, HP.out, HN.out, HM.out, HB.out, HNF3.1, HNF3.2.1, by have := HNF3.2.2; omega, HW3⟩
              case measure => rw [hS1, hS2]; simp only [ivOf]; have := HNF3.2.2; omega
          · have hyd : decide (1 < y) = false := by simpa using hy
            obtain rfl : y = 1 := by omega
            have hWW : L ++ [(x, 1)] = WW := by
              have := HWY.out
              rwa [wy_end _ _ _ (Int.le_refl _)] at this
            clear HWY
            obtain ⟨⟨qP0, qP1⟩, ⟨fP0, fP1⟩, zP⟩ := HP.out
            obtain ⟨⟨qN0, qN1⟩, ⟨fN0, fN1⟩, zN⟩ := HN.out
            obtain ⟨⟨qM0, qM1, qM2, qM3⟩, ⟨fM0, fM1, fM2, fM3⟩, zM⟩ := HM.out
            have HPq := Lib.hid (HP.out.below ((Below.refl _ _).alloc (Nat.le_refl _) (.cells #[.int .i64 x, .int .i64 1] 23)))
            have HNq := Lib.hid (HN.out.below ((Below.refl _ _).alloc (Nat.le_refl _) (.cells #[.int .i64 x, .int .i64 1] 23)))
            have HMq := Lib.hid (HM.out.below ((Below.refl _ _).alloc (Nat.le_refl _) (.cells #[.int .i64 x, .int .i64 1] 23)))
            have HOq := Lib.hid (HO.out.below ((Below.refl _ _).alloc (Nat.le_refl _) (.cells #[.int .i64 x, .int .i64 1] 23)))
            have HBq := Lib.hid (Below.alloc HB.out HB.out.size (.cells #[.int .i64 x, .int .i64 1] 23))
            have HZq : Hid (GM < wr.heap.size ∧ (wr.alloc (.cells #[.int .i64 x, .int .i64 1] 23)).heap.size = wr.heap.size + 1) := ⟨HM.out.2.2, by rw [World.size_alloc]⟩
            have HGB : Hid (GE ≤ (wr.alloc (.cells #[.int .i64 x, .int .i64 1] 23)).heap.size) := by show _ ≤ _; have := HZq.out; omega
            have HC01 : Hid ((wr.alloc (.cells #[.int .i64 x, .int .i64 1] 23)).cell? ⟨wr.heap.size, 0, none⟩ = some (.int .i64 x) ∧ (wr.alloc (.cells #[.int .i64 x, .int .i64 1] 23)).cell? ⟨wr.heap.size, 1, none⟩ = some (.int .i64 1)) := ⟨by go_cell, by go_cell⟩
            go_wp2_with (at_builtin; refine wpList_app_Q (B := GE) rfl _ _ rfl HOq.out HC01.out.1 HC01.out.2 HGB.out rfl rfl (by omega) ?_)
            intro v5 w5 ho hgrow hat
            clear qP0 fP0 qP1 fP1 zP qN0 fN0 qN1 fN1 zN qM0 fM0 qM1 fM1 qM2 fM2 qM3 fM3 zM
            have hno : ∀ k, (Value.slice va n vc).ownBlock = some k → GE ≤ k := fun k hk => (World.ownsRow.lt HOq.out k hk).1
            have HNO5 : Hid (∀ k, v5.ownBlock = some k → k ≠ GM) := fun k hk => by
              rcases hat with h | h
              · exact HNO.out k (h.symm.trans hk)
              · rw [h] at hk
                simp only [Option.some.injEq] at hk
                have := HZq.out
                omega
            have HP := Lib.hid (HPq.out.grown hgrow (fun e => by have := hno GP e; omega))
            have HN := Lib.hid (HNq.out.grown hgrow (fun e => by have := hno GN e; omega))
            have HM := Lib.hid (HMq.out.grown hgrow (fun e => HNO.out GM e rfl))
            have HB := Lib.hid (Below.grown HBq.out hgrow HBq.out.size (fun k hk => by have := hno k hk; omega))
            obtain ⟨va5, vc5, rfl, _⟩ := own_viewF ho
            have HO : Hid (OwnF GE w5 (.slice va5 (n + 1) vc5) (n + 1) (flat (L ++ [(x, 1)]))) := by
              show OwnF _ _ _ _ _
              rw [flat_append]; exact ho
            have HNO := HNO5
            clear ho hgrow hat hno HOq HBq HZq HGB HNO5 HC01 HPq HNq HMq
            rw [hWW] at HO
            obtain ⟨nW, hnW⟩ : ∃ m, n + 1 = m := ⟨_, rfl⟩
            have hlW : WW.length = nW := by rw [← hWW, List.length_append, hn, ← hnW]; rfl
            rw [hnW] at HO HNO ⊢
            obtain ⟨_, _, he, hc⟩ := own_viewF HO.out
            obtain ⟨g, ha, hg1, hg2, hcells, _⟩ := hc (by omega)
            simp only [Value.slice.injEq, true_and] at he
            obtain ⟨he1, he2⟩ := he
            rw [← he1] at ha
            subst ha
            have hgM : g ≠ GM := HNO.out g rfl
            clear he1 he2 hc hcells
            have hwn : IntKind.i64.wrap ((nW : Int) - 1) = (nW : Int) - 1 := by rw [IntKind.wrap_i64]; omega
            obtain ⟨⟨qP0, qP1⟩, ⟨fP0, fP1⟩, zP⟩ := HP.out
            obtain ⟨⟨qM0, qM1, qM2, qM3⟩, ⟨fM0, fM1, fM2, fM3⟩, zM⟩ := HM.out
            go_wp2_with fail
            clear qP0 fP0 qP1 fP1 zP qM0 fM0 qM1 fM1 qM2 fM2 qM3 fM3 zM
            obtain ⟨GB, hGB⟩ : ∃ q, w5.heap.size = q := ⟨_, rfl⟩
            obtain ⟨w7, hw7⟩ : ∃ wx, wx = w5.alloc (.cells #[.int .i64 a, .int .i64 b] 23) := ⟨_, rfl⟩
            rw [← hw7, hGB]
            have hb7 : Below w5.heap.size w5 w7 := by rw [hw7]; (repeat' (first | (with_reducible exact Below.refl _ _) | (with_reducible refine Below.alloc ?_ ?_ _) | (with_reducible refine Below.setCell ?_ ?_ _) | (with_reducible refine Below.drew ?_) | (with_reducible refine below_drewN ?_ _) | (with_reducible assumption) | (with_reducible refine below_after (by with_reducible assumption) ?_) | go_size))
            have HO2 : Hid (OwnF GB w7 (.slice (some ⟨GB, 0, none⟩) 1 1) 1 (flat [(a, b)])) := by
              show OwnF _ _ _ _ _
              rw [hw7, ← hGB]
              exact World.ownsRow_lit w5 #[.int .i64 a, .int .i64 b] 1 (Nat.le_refl _) (by decide) rfl
            have hgB : g < GB := by omega
            have hMB : GM < GB := by have := HM.out.2.2; omega
            have hz7 : GB ≤ w7.heap.size := by have := hb7.size; omega
            have HO := Lib.hid (HO.out.below hb7)
            have HM := Lib.hid (HM.out.below hb7)
            have HB := Lib.hid (below_after hb7 HB.out)
            clear hb7 hw7 hGB HP HN HNO
            go_loopw [13, 14] (fun v i wr => ∃ (j m : Nat) (va2 : Option Addr) (vc2 : Nat) (i0 : Int) (KL : List (Int × Int)), v = .slice va2 m vc2 ∧ i = .int .i64 i0 ∧ i0 = (j : Int) - 1 ∧ j ≤ nW ∧ KL.length = m ∧ m + j = nW + 1 ∧ OwnF GB wr (.slice va2 m vc2) m (flat KL) ∧ OwnF GE wr (.slice (some ⟨g, 0, none⟩) nW vc5) nW (flat WW) ∧ Bk4 wr GM a U b V ∧ Below w.heap.size w wr ∧ GB ≤ wr.heap.size ∧ KL ++ ((WW.take j).map (fun p => T p.1 p.2)).reverse = OUT) (fun _ i _ => (intOf i + 1).toNat)
            case atStart => exact ⟨nW, 1, _, _, (nW : Int) - 1, [(a, b)], rfl, rfl, rfl, Nat.le_refl _, rfl, by omega, HO2.out, HO.out, HM.out, HB.out, hz7, by rw [← hlW, List.take_length]; exact HOUT.out⟩
            case round =>
              obtain ⟨j, m, va2, vc2, i0, KL, rfl, rfl, hi0, hj, hm, hmj, ho2, ho, hM, hbel, hgb, hk⟩ := hrel
              clear HM HB HO HO2 hz7
              have HO := Lib.hid ho
              have HO2 := Lib.hid ho2
              have HKK := Lib.hid hk
              have HSG0 := Lib.hid (And.intro hbel (And.intro hgb hM))
              clear ho ho2 hk hbel hM hgb
              rcases Nat.eq_zero_or_pos j with hj0 | hj0
              · subst hj0
                obtain rfl : i0 = -1 := by omega
                have hKO : KL = OUT := by
                  have := HKK.out
                  simpa using this
                obtain ⟨hbel, hgb, hM⟩ := HSG0.out
                clear hi0 hmj
                have hge : decide ((0 : Int) ≤ -1) = false := by decide
                go_wp2_with fail
                go_ret2
                rw [← hKO, hm]
                exact ⟨_, rfl, own_up HO2.out (show w.heap.size ≤ GB by omega), hbel⟩
              · obtain ⟨k, rfl⟩ : ∃ k, j = k + 1 := ⟨j - 1, by omega⟩
                obtain rfl : i0 = (k : Int) := by omega
                have hge : decide (0 ≤ (k : Int)) = true := by simp
                have p1 : (0 : Int) ≤ (k : Int) := by omega
                have p2 : (k : Int) < (nW : Int) := by omega
                have hsub : IntKind.i64.wrap ((k : Int) - 1) = (k : Int) - 1 := by rw [IntKind.wrap_i64]; omega
                obtain ⟨_, _, he, hc⟩ := own_viewF HO.out
                obtain ⟨g', ha, _, _, hcells, _⟩ := hc (by omega)
                simp only [Value.slice.injEq, true_and] at he
                obtain ⟨he1, he2⟩ := he
                rw [← he1] at ha
                obtain rfl : g = g' := by simpa using ha
                obtain ⟨f1, f2⟩ := flat_at WW k
                have e0 := hcells (k * 2) (by omega)
                have e1 := hcells (k * 2 + 1) (by omega)
                rw [f1] at e0
                rw [f2] at e1
                have hcn := HCN.out (WW.getD k (0, 0)) (by have hk : k < WW.length := (by omega); have e : WW.getD k (0, 0) = WW[k] := (by simp [List.getD, hk]); rw [e]; exact List.getElem_mem _)
                have hrv := rv_step (fun p => T p.1 p.2) WW k (by omega)
                obtain ⟨⟨X0, X1⟩, hXX⟩ : ∃ p, WW.getD k (0, 0) = p := ⟨_, rfl⟩
                rw [hXX] at e0 e1 hcn hrv
                have HBK := Lib.hid (HBA.out X0 X1 hcn.1 hcn.2)
                obtain ⟨⟨t0, t1⟩, hT⟩ : ∃ p, T X0 X1 = p := ⟨_, rfl⟩
                simp only at hrv
                rw [hT] at HBK hrv
                have HK2 : Hid ((KL ++ [(t0, t1)]) ++ ((WW.take k).map (fun p => T p.1 p.2)).reverse = OUT) := by
                  show _ = _
                  rw [← HKK.out, hrv, List.append_assoc]; rfl
                have HSG : Hid (Sg w GB GM a U b V g k X0 X1 wr) := ⟨HSG0.out.1, HSG0.out.2.1, HSG0.out.2.2, e0, e1⟩
                obtain ⟨_, _, heB, hcB⟩ := own_viewF HO2.out
                obtain ⟨g2, ha2, hgB1, _⟩ := hcB (by omega)
                simp only [Value.slice.injEq, true_and] at heB
                obtain ⟨heB1, heB2⟩ := heB
                rw [← heB1] at ha2
                subst ha2
                clear hc hcB hcells e0 e1 hcn hrv hT hXX f1 f2 he1 he2 ha heB1 heB2 HSG0 HKK hi0
                go_upto_region 21 with fail
                refine wp_region_held_drew (S := Sg w GB GM a U b V g k X0 X1) (by kernel_rfl) ?_ (fun hHeld => ?_); focus ((try dsimp only); exact HSG.out.below ((Below.refl _ _).drew))
                have hHeld : Sg w GB GM a U b V g k X0 X1 _ := hHeld
                obtain ⟨wA, hwA⟩ : ∃ wD, wr.drew = wD := ⟨_, rfl⟩
                have hbA : Below wr.heap.size wr wA := by rw [← hwA]; exact (Below.refl _ _).drew
                have HOA := Lib.hid (HO.out.below hbA)
                have HOB := Lib.hid (HO2.out.below hbA)
                rw [hwA] at hHeld ⊢
                clear hwA hbA
                (refine wpAnyH_take (i := 0) (v := ?_) rfl (by kernel_rfl) (by kernel_rfl) (by kernel_rfl) (fun _ _ _ h => h) (Or.inl ⟨rfl, ?_⟩) (by assumption) ?_; rotate_left; focus (intro W hSw; (try dsimp only at hSw); obtain ⟨ibw, ibz, ⟨⟨i0, i1, i2, i3⟩, iz⟩, i4, i5⟩ := hSw; clear ibw ibz iz; go_simp; try (with_reducible rfl))); (try simp only [Act.put, List.getElem_toArray, List.getElem_cons_succ, List.getElem_cons_zero, List.setIfInBounds_toArray, List.set_cons_zero, List.set_cons_succ])
                (refine wpAnyH_take (i := 1) (v := ?_) rfl (by kernel_rfl) (by kernel_rfl) (by kernel_rfl) (fun _ _ _ h => h) (Or.inl ⟨rfl, ?_⟩) (by assumption) ?_; rotate_left; focus (intro W hSw; (try dsimp only at hSw); obtain ⟨ibw, ibz, ⟨⟨i0, i1, i2, i3⟩, iz⟩, i4, i5⟩ := hSw; clear ibw ibz iz; go_simp; try (with_reducible rfl))); (try simp only [Act.put, List.getElem_toArray, List.getElem_cons_succ, List.getElem_cons_zero, List.setIfInBounds_toArray, List.set_cons_zero, List.set_cons_succ])
                (refine wpAnyH_take (i := 2) (v := ?_) rfl (by kernel_rfl) (by kernel_rfl) (by kernel_rfl) (fun _ _ _ h => h) (Or.inl ⟨rfl, ?_⟩) (by assumption) ?_; rotate_left; focus (intro W hSw; (try dsimp only at hSw); obtain ⟨ibw, ibz, ⟨⟨i0, i1, i2, i3⟩, iz⟩, i4, i5⟩ := hSw; clear ibw ibz iz; go_simp; try (with_reducible rfl))); (try simp only [Act.put, List.getElem_toArray, List.getElem_cons_succ, List.getElem_cons_zero, List.setIfInBounds_toArray, List.set_cons_zero, List.set_cons_succ])
                (refine wpAnyH_take (i := 3) (v := ?_) rfl (by kernel_rfl) (by kernel_rfl) (by kernel_rfl) (fun _ _ _ h => h) (Or.inl ⟨rfl, ?_⟩) (by assumption) ?_; rotate_left; focus (intro W hSw; (try dsimp only at hSw); obtain ⟨ibw, ibz, ⟨⟨i0, i1, i2, i3⟩, iz⟩, i4, i5⟩ := hSw; clear ibw ibz iz; go_simp; try (with_reducible rfl))); (try simp only [Act.put, List.getElem_toArray, List.getElem_cons_succ, List.getElem_cons_zero, List.setIfInBounds_toArray, List.set_cons_zero, List.set_cons_succ])
                (refine wpAnyH_take (i := 4) (v := ?_) rfl (by kernel_rfl) (by kernel_rfl) (by kernel_rfl) (fun _ _ _ h => h) (Or.inl ⟨rfl, ?_⟩) (by assumption) ?_; rotate_left; focus (intro W hSw; (try dsimp only at hSw); obtain ⟨ibw, ibz, ⟨⟨i0, i1, i2, i3⟩, iz⟩, i4, i5⟩ := hSw; clear ibw ibz iz; go_simp; try (with_reducible rfl))); (try simp only [Act.put, List.getElem_toArray, List.getElem_cons_succ, List.getElem_cons_zero, List.setIfInBounds_toArray, List.set_cons_zero, List.set_cons_succ])
                (refine wpAnyH_take (i := 5) (v := ?_) rfl (by kernel_rfl) (by kernel_rfl) (by kernel_rfl) (fun _ _ _ h => h) (Or.inl ⟨rfl, ?_⟩) (by assumption) ?_; rotate_left; focus (intro W hSw; (try dsimp only at hSw); obtain ⟨ibw, ibz, ⟨⟨i0, i1, i2, i3⟩, iz⟩, i4, i5⟩ := hSw; clear ibw ibz iz; go_simp; try (with_reducible rfl))); (try simp only [Act.put, List.getElem_toArray, List.getElem_cons_succ, List.getElem_cons_zero, List.setIfInBounds_toArray, List.set_cons_zero, List.set_cons_succ])
                refine wpAnyH_ready (rs := [6]) (by kernel_rfl) (by simp) ?_; refine AllReadyH.cons rfl (fun K hK => ?_) AllReadyH.nil
                go_simp; (go_at_call 29; refine (HBK.out.1 _).mono ?_; rintro en w3 ⟨rfl, hb5⟩)
                have HOA := Lib.hid (HOA.out.below hb5)
                have HOB := Lib.hid (HOB.out.below hb5)
                refine hK.out _ _ (hHeld.below hb5) (fun hHeld2 => ?_); clear hb5; (clear hHeld; rename _ => hHeld; clear hK K; have hHeld : Sg w GB GM a U b V g k X0 X1 _ := hHeld); (try simp only [Act.put, List.getElem_toArray, List.getElem_cons_succ, List.getElem_cons_zero, List.setIfInBounds_toArray, List.set_cons_zero, List.set_cons_succ])
                refine wpAnyH_ready (rs := [7]) (by kernel_rfl) (by simp) ?_; refine AllReadyH.cons rfl (fun K hK => ?_) AllReadyH.nil
                go_simp; (go_at_call 28; refine (HBK.out.2 _).mono ?_; rintro en w4 ⟨rfl, hb5⟩)
                have HOA := Lib.hid (HOA.out.below hb5)
                have HOB := Lib.hid (HOB.out.below hb5)
                refine hK.out _ _ (hHeld.below hb5) (fun hHeld2 => ?_); clear hb5; (clear hHeld; rename _ => hHeld; clear hK K; have hHeld : Sg w GB GM a U b V g k X0 X1 _ := hHeld); (try simp only [Act.put, List.getElem_toArray, List.getElem_cons_succ, List.getElem_cons_zero, List.setIfInBounds_toArray, List.set_cons_zero, List.set_cons_succ])
                refine wpAnyH_ready (rs := [8]) (by kernel_rfl) (by simp) ?_; refine AllReadyH.cons rfl (fun K hK => ?_) AllReadyH.nil
                go_simp
                have c6 : (w4.alloc (.cells #[.int .i64 t0, .int .i64 t1] 23)).cell? ⟨w4.heap.size, 0, none⟩ = some (.int .i64 t0) := by go_cell
                have c7 : (w4.alloc (.cells #[.int .i64 t0, .int .i64 t1] 23)).cell? ⟨w4.heap.size, 1, none⟩ = some (.int .i64 t1) := by go_cell
                have HOA := Lib.hid (HOA.out.below ((Below.refl _ _).alloc (Nat.le_refl _) (.cells #[.int .i64 t0, .int .i64 t1] 23)))
                have HOB := Lib.hid (HOB.out.below ((Below.refl _ _).alloc (Nat.le_refl _) (.cells #[.int .i64 t0, .int .i64 t1] 23)))
                refine hK.out _ _ (hHeld.below ((Below.refl _ _).alloc (Nat.le_refl _) _)) (fun hHeld2 => ?_); (clear hHeld; rename _ => hHeld; clear hK K; have hHeld : Sg w GB GM a U b V g k X0 X1 _ := hHeld); (try simp only [Act.put, List.getElem_toArray, List.getElem_cons_succ, List.getElem_cons_zero, List.setIfInBounds_toArray, List.set_cons_zero, List.set_cons_succ])
                obtain ⟨w6, hw6⟩ : ∃ wx, w4.alloc (.cells #[.int .i64 t0, .int .i64 t1] 23) = wx := ⟨_, rfl⟩
                rw [hw6] at c6 c7 HOA HOB hHeld ⊢; clear hw6
                refine wpAnyH_ready (rs := [9]) (by kernel_rfl) (by simp) ?_; refine AllReadyH.cons rfl (fun K hK => ?_) AllReadyH.nil
                refine wp_append_kept GB _ _ rfl HOB.out c6 c7 hHeld.2.1 rfl rfl (by omega) ?_
                intro v9 w9 ho9 hg9 hk9
                have hs9 : Sg w GB GM a U b V g k X0 X1 w9 := hHeld.grown hg9 (by omega) (by omega) (by omega)
                have HOA : Hid (OwnF GE w9 (.slice (some ⟨g, 0, none⟩) nW vc5) nW (flat WW)) := World.ownsRow.kept HOA.out hg9 (.inr (by show some g ≠ some g2; simp only [ne_eq, Option.some.injEq]; omega))
                have HO9 := Lib.hid ho9
                clear ho9 hg9 hk9 c6 c7
                refine hK.out _ _ hs9 (fun hHeld2 => ?_); clear hs9; (clear hHeld; rename _ => hHeld; clear hK K; have hHeld : Sg w GB GM a U b V g k X0 X1 _ := hHeld); (try simp only [Act.put, List.getElem_toArray, List.getElem_cons_succ, List.getElem_cons_zero, List.setIfInBounds_toArray, List.set_cons_zero, List.set_cons_succ])
                obtain ⟨va9, vc9, rfl, _⟩ := own_viewF HO9.out
                (refine wpAnyH_take (i := 10) (v := ?_) rfl (by kernel_rfl) (by kernel_rfl) (by kernel_rfl) (fun _ _ _ h => h) (Or.inl ⟨rfl, ?_⟩) (by assumption) ?_; rotate_left; focus (intro W hSw; (try dsimp only at hSw); obtain ⟨ibw, ibz, ⟨⟨i0, i1, i2, i3⟩, iz⟩, i4, i5⟩ := hSw; clear ibw ibz iz; go_simp; try (with_reducible rfl))); (try simp only [Act.put, List.getElem_toArray, List.getElem_cons_succ, List.getElem_cons_zero, List.setIfInBounds_toArray, List.set_cons_zero, List.set_cons_succ])
                refine wpAnyH_done (by kernel_rfl) ?_ _
                have HO10 : Hid (OwnF GB w9 (.slice va9 (m + 1) vc9) (m + 1) (flat (KL ++ [(t0, t1)]))) := by
                  show OwnF _ _ _ _ _
                  rw [flat_append]; exact HO9.out
                have HSG := Lib.hid hHeld
                clear hHeld HO9
                go_wp2_with fail
                go_roundw
                case rel => exact ⟨k, m + 1, va9, vc9, (k : Int) - 1, KL ++ [(t0, t1)], rfl, rfl, rfl, by omega, by rw [List.length_append, hm]; rfl, by omega, HO10.out, HOA.out, HSG.out.2.2.1, HSG.out.1, HSG.out.2.1, HK2.out⟩
                case measure => simp only [intOf]; omega
    · obtain ⟨e1, e2⟩ : a = c ∧ b = d := by simpa using hs
      subst e1 e2
      rw [(ge_same h f0).1, (ge_same h f0).2]
      clear h f0 f1
      obtain ⟨GP, hG⟩ : ∃ G, w.heap.size = G := ⟨_, rfl⟩
      have HG := Lib.hid hG
      go_enter Tryd.func8, Tryd.ntmps8
      go_upto_region 1 with fail
      obtain ⟨w0, hw0⟩ : ∃ w0, w0 = ((w.alloc (.cells #[.int .i64 a, .int .i64 b] 23)).alloc (.cells #[.int .i64 a, .int .i64 b] 23)) := ⟨_, rfl⟩
      rw [← hw0]
      have HP : Hid (Bk2 w0 GP a b) := by
        have h := (bk2_new w a b 23).below (W' := ((w.alloc (.cells #[.int .i64 a, .int .i64 b] 23)).alloc (.cells #[.int .i64 a, .int .i64 b] 23))) (by (repeat' (first | (with_reducible exact Below.refl _ _) | (with_reducible refine Below.alloc ?_ ?_ _) | (with_reducible refine Below.setCell ?_ ?_ _) | (with_reducible refine Below.drew ?_) | (with_reducible refine below_drewN ?_ _) | (with_reducible assumption) | (with_reducible refine below_after (by with_reducible assumption) ?_) | go_size)))
        (try simp only [World.size_alloc] at h)
        rw [hG] at h
        rw [hw0]; exact h
      have HQ : Hid (Bk2 w0 (GP + 1) a b) := by
        have h := (bk2_new (w.alloc (.cells #[.int .i64 a, .int .i64 b] 23)) a b 23).below (W' := ((w.alloc (.cells #[.int .i64 a, .int .i64 b] 23)).alloc (.cells #[.int .i64 a, .int .i64 b] 23))) (by (repeat' (first | (with_reducible exact Below.refl _ _) | (with_reducible refine Below.alloc ?_ ?_ _) | (with_reducible refine Below.setCell ?_ ?_ _) | (with_reducible refine Below.drew ?_) | (with_reducible refine below_drewN ?_ _) | (with_reducible assumption) | (with_reducible refine below_after (by with_reducible assumption) ?_) | go_size)))
        (try simp only [World.size_alloc] at h)
        rw [hG] at h
        rw [hw0]; exact h
      have HB : Hid (Below w.heap.size w w0) := by show Below w.heap.size w w0; rw [hw0]; (repeat' (first | (with_reducible exact Below.refl _ _) | (with_reducible refine Below.alloc ?_ ?_ _) | (with_reducible refine Below.setCell ?_ ?_ _) | (with_reducible refine Below.drew ?_) | (with_reducible refine below_drewN ?_ _) | (with_reducible assumption) | (with_reducible refine below_after (by with_reducible assumption) ?_) | go_size))
      clear hw0
      obtain ⟨GQ, hGQ⟩ : ∃ g, GP + 1 = g := ⟨_, rfl⟩
      rw [hGQ] at HQ ⊢
      have le_P : w.heap.size ≤ GP := by omega
      have le_Q : w.heap.size ≤ GQ := by omega
      have ne_Q_P : GQ ≠ GP := by omega
      have ne_P_Q : GP ≠ GQ := by omega
      clear hGQ
      obtain ⟨⟨qP0, qP1⟩, ⟨fP0, fP1⟩, zP⟩ := HP.out
      obtain ⟨⟨qQ0, qQ1⟩, ⟨fQ0, fQ1⟩, zQ⟩ := HQ.out
      go_wp2_with fail
      go_at_call 22
      refine (l05Code2_any a b a b 0 _ _ _ HK.out (by simp) (by go_cell) (by go_cell) (by go_cell) (by go_cell)).mono ?_
      rintro e w1 ⟨rfl, hb0⟩
      have hb : Below w0.heap.size w0 w1 := below_after hb0 (by (repeat' (first | (with_reducible exact Below.refl _ _) | (with_reducible refine Below.alloc ?_ ?_ _) | (with_reducible refine Below.setCell ?_ ?_ _) | (with_reducible refine Below.drew ?_) | (with_reducible refine below_drewN ?_ _) | (with_reducible assumption) | (with_reducible refine below_after (by with_reducible assumption) ?_) | go_size)))
      clear hb0
      clear qP0 fP0 qP1 fP1 zP qQ0 fQ0 qQ1 fQ1 zQ
      have HP := Lib.hid (HP.out.below hb)
      have HQ := Lib.hid (HQ.out.below hb)
      have HB := Lib.hid (below_after hb HB.out)
      clear hb
      obtain ⟨⟨qP0, qP1⟩, ⟨fP0, fP1⟩, zP⟩ := HP.out
      obtain ⟨⟨qQ0, qQ1⟩, ⟨fQ0, fQ1⟩, zQ⟩ := HQ.out
      go_wp2_with fail
      go_ret2
      have hz := HB.out.size
      have hb := HB.out
      exact ⟨_, rfl, World.ownsRow_lit _ #[.int .i64 a, .int .i64 b] 1 hz (by decide) rfl, by (repeat' (first | (with_reducible exact Below.refl _ _) | (with_reducible refine Below.alloc ?_ ?_ _) | (with_reducible refine Below.setCell ?_ ?_ _) | (with_reducible refine Below.drew ?_) | (with_reducible refine below_drewN ?_ _) | (with_reducible assumption) | (with_reducible refine below_after (by with_reducible assumption) ?_) | go_size))⟩
end Go.Proofs.YtohnmogejidpdabDoor
