/-
  MapPolygon, in the model (own work).
-/
import Derived.Test.YtmjhejmkmdgikaaMpI
namespace Go.Proofs.Ytmjhejmkmdgikaa
open Go.ChangeShapes Go.WideShapes Go.ChangeAt Go.RowKit
set_option linter.unusedVariables false
set_option maxRecDepth 100000
set_option linter.unusedSimpArgs false
set_option maxRecDepth 100000

/-- A list of points that grows by one that has just been laid. -/
theorem wpList_app_F1m (w0 : World) {W : World} {ops : Array Oper} {rest : List Oper} {o : Oper} {a : Act} {Q : Exit → Act → World → Prop} (hgd : o.guard = none) (s x : Operand)
    (ho : o.op = .call { callee := .builtin .append, args := #[s, x], argTypes := #[25, 25] })
    {v : Value} {n g c : Nat} {xs : List Int} {a0 a1 : Int} (hown : OwnF w0.heap.size W v n xs) (c0 : W.cell? ⟨g, 0, none⟩ = some (.int .i64 a0)) (c1 : W.cell? ⟨g, 1, none⟩ = some (.int .i64 a1)) (hb : Below w0.heap.size w0 W) (hs : a.eval s = v) (hx : a.eval x = .slice (some ⟨g, 0, none⟩) 1 c) (hlen : n + 1 ≤ 4194304)
    (hK : ∀ v' w', OwnF w0.heap.size w' v' (n + 1) (xs ++ [a0, a1]) → Below w0.heap.size w0 w' → wpList Try.prog ops Q rest (a.put o.dst v') w') : wpList Try.prog ops Q (o :: rest) a W := by
  obtain ⟨i0, hi, hz0, hz1, hz2⟩ := info_parts info_pt
  refine wpList_append_own _ hgd s x 25 ho w0.heap.size 32 i0 (.agg #[.int .i64 0, .int .i64 0]) 2 16 Try.underlying25 hi hz0 hz1 hz2 rfl (by decide) v _ _ hs hown ⟨g, 0, none⟩ 1 c ([a0, a1].map (Value.int .i64)) hx rfl ?_ ?_ ?_ ?_ hb.size ?_
  · intro j u hj
    match j, hj with
    | 0, hj => simp at hj; subst hj; simpa [Addr.add] using c0
    | 1, hj => simp at hj; subst hj; simpa [Addr.add] using c1
  · intro u hu; simp only [List.mem_map] at hu; obtain ⟨y, _, rfl⟩ := hu; rfl
  · unfold maxLen; omega
  · omega
  · intro v' w' h1 h2 _
    refine hK v' w' ?_ (hb.grown h2 hb.size (fun k hk => (hown.lt k hk).1))
    show w'.ownsRow w0.heap.size 32 2 v' (n + 1) ((xs ++ [a0, a1]).map (Value.int .i64))
    rw [List.map_append]; exact h1
theorem l01Plus_w3 (x0 y0 x1 y1 k : Int) (w : World) (h0 : -3000000000000 ≤ x0 ∧ x0 ≤ 3000000000000) (h1 : -3000000000000 ≤ y0 ∧ y0 ≤ 3000000000000) (p1 : -5000000000000000000 ≤ k * x1) (p2 : k * x1 ≤ 5000000000000000000) (q1 : -5000000000000000000 ≤ k * y1) (q2 : k * y1 ≤ 5000000000000000000) :
    Calls Try.prog 97 #[.agg #[.int .i64 x0, .int .i64 y0], .agg #[.int .i64 x1, .int .i64 y1], .int .i64 k] w fun e w' => e = .returned (.agg #[.int .i64 (x0 + k * x1), .int .i64 (y0 + k * y1)]) ∧ Below w.heap.size w w' := by
  obtain ⟨a1, a2⟩ := h0
  obtain ⟨b1, b2⟩ := h1
  have hs20 : w.heap.size < w.heap.size + 1 + 1 := (by omega); have hs30 : w.heap.size < w.heap.size + 1 + 1 + 1 := (by omega); have hs31 : w.heap.size + 1 < w.heap.size + 1 + 1 + 1 := (by omega)
  go_enter Try.func97, Try.ntmps97
  go_wp2
  go_returns
  exact ⟨rfl, by (repeat' (first | (with_reducible exact Below.refl _ _) | (with_reducible refine Below.alloc ?_ ?_ _) | (with_reducible refine Below.setCell ?_ ?_ _) | (with_reducible refine Below.drew ?_) | (with_reducible refine below_drewN ?_ _) | (with_reducible assumption) | (with_reducible refine below_after (by with_reducible assumption) ?_) | go_size))⟩
theorem l01DetOf_w (a b c d : Int) (w : World) (ha : Bn a) (hb : Bn b) (hc : Bn c) (hd : Bn d) :
    Calls Try.prog 131 #[.agg #[.int .i64 a, .int .i64 b, .int .i64 c, .int .i64 d]] w fun e w' => e = .returned (.int .i64 (a * d - b * c)) ∧ Below w.heap.size w w' := by
  obtain ⟨p1, p2⟩ := mul_bn ha hd
  obtain ⟨q1, q2⟩ := mul_bn hb hc
  clear ha hb hc hd
  go_enter Try.func131, Try.ntmps131
  go_wp2
  go_ret
  exact ⟨rfl, by (repeat' (first | (with_reducible exact Below.refl _ _) | (with_reducible refine Below.alloc ?_ ?_ _) | (with_reducible refine Below.setCell ?_ ?_ _) | (with_reducible refine Below.drew ?_) | (with_reducible refine below_drewN ?_ _) | (with_reducible assumption) | (with_reducible refine below_after (by with_reducible assumption) ?_) | go_size))⟩
theorem l01Unit_w (a b c d : Int) (w : World) (ha : Bn a) (hb : Bn b) (hc : Bn c) (hd : Bn d) :
    Calls Try.prog 96 #[.agg #[.int .i64 a, .int .i64 b, .int .i64 c, .int .i64 d]] w fun e w' => e = .returned (.bool (mpU a b c d)) ∧ Below w.heap.size w w' := by
  have H := Lib.hid (fun w => l01DetOf_w a b c d w ha hb hc hd)
  unfold mpU
  clear ha hb hc hd
  generalize a * d - b * c = D at *
  by_cases h1 : D = 1
  · go_enter Try.func96, Try.ntmps96
    go_wp2_with (first | (go_at_call 131; refine (H.out _).mono ?_; rintro e wn ⟨rfl, hb⟩; first | (have h2 := after_call2 hb hcl hfr hlt (by ((repeat' (first | (with_reducible exact Below.refl _ _) | (with_reducible refine Below.alloc ?_ ?_ _) | (with_reducible refine Below.setCell ?_ ?_ _) | (with_reducible refine Below.drew ?_) | (with_reducible refine below_drewN ?_ _) | (with_reducible assumption) | (with_reducible refine below_after (by with_reducible assumption) ?_) | go_size)); done)); obtain ⟨hclx, hfrx, hltx, hsz⟩ := after_call hb; (try simp only [World.size_alloc, World.size_setCell, World.size_drew] at hclx hfrx hltx hsz); (try (have hszl := Nat.lt_of_succ_le hsz)); obtain ⟨hcl, hfr, hlt⟩ := h2) | (obtain ⟨hcl, hfr, hlt, hsz⟩ := after_call hb; (try simp only [World.size_alloc, World.size_setCell, World.size_drew] at hcl hfr hlt hsz))))
    go_ret
    exact ⟨by simp [h1], by (repeat' (first | (with_reducible exact Below.refl _ _) | (with_reducible refine Below.alloc ?_ ?_ _) | (with_reducible refine Below.setCell ?_ ?_ _) | (with_reducible refine Below.drew ?_) | (with_reducible refine below_drewN ?_ _) | (with_reducible assumption) | (with_reducible refine below_after (by with_reducible assumption) ?_) | go_size))⟩
  · by_cases h2 : D = -1
    · go_enter Try.func96, Try.ntmps96
      go_wp2_with (first | (go_at_call 131; refine (H.out _).mono ?_; rintro e wn ⟨rfl, hb⟩; first | (have h2 := after_call2 hb hcl hfr hlt (by ((repeat' (first | (with_reducible exact Below.refl _ _) | (with_reducible refine Below.alloc ?_ ?_ _) | (with_reducible refine Below.setCell ?_ ?_ _) | (with_reducible refine Below.drew ?_) | (with_reducible refine below_drewN ?_ _) | (with_reducible assumption) | (with_reducible refine below_after (by with_reducible assumption) ?_) | go_size)); done)); obtain ⟨hclx, hfrx, hltx, hsz⟩ := after_call hb; (try simp only [World.size_alloc, World.size_setCell, World.size_drew] at hclx hfrx hltx hsz); (try (have hszl := Nat.lt_of_succ_le hsz)); obtain ⟨hcl, hfr, hlt⟩ := h2) | (obtain ⟨hcl, hfr, hlt, hsz⟩ := after_call hb; (try simp only [World.size_alloc, World.size_setCell, World.size_drew] at hcl hfr hlt hsz))))
      go_ret
      exact ⟨by simp [h2], by (repeat' (first | (with_reducible exact Below.refl _ _) | (with_reducible refine Below.alloc ?_ ?_ _) | (with_reducible refine Below.setCell ?_ ?_ _) | (with_reducible refine Below.drew ?_) | (with_reducible refine below_drewN ?_ _) | (with_reducible assumption) | (with_reducible refine below_after (by with_reducible assumption) ?_) | go_size))⟩
    · go_enter Try.func96, Try.ntmps96
      go_wp2_with (first | (go_at_call 131; refine (H.out _).mono ?_; rintro e wn ⟨rfl, hb⟩; first | (have h2 := after_call2 hb hcl hfr hlt (by ((repeat' (first | (with_reducible exact Below.refl _ _) | (with_reducible refine Below.alloc ?_ ?_ _) | (with_reducible refine Below.setCell ?_ ?_ _) | (with_reducible refine Below.drew ?_) | (with_reducible refine below_drewN ?_ _) | (with_reducible assumption) | (with_reducible refine below_after (by with_reducible assumption) ?_) | go_size)); done)); obtain ⟨hclx, hfrx, hltx, hsz⟩ := after_call hb; (try simp only [World.size_alloc, World.size_setCell, World.size_drew] at hclx hfrx hltx hsz); (try (have hszl := Nat.lt_of_succ_le hsz)); obtain ⟨hcl, hfr, hlt⟩ := h2) | (obtain ⟨hcl, hfr, hlt, hsz⟩ := after_call hb; (try simp only [World.size_alloc, World.size_setCell, World.size_drew] at hcl hfr hlt hsz))))
      go_ret
      exact ⟨by simp [h1, h2], by (repeat' (first | (with_reducible exact Below.refl _ _) | (with_reducible refine Below.alloc ?_ ?_ _) | (with_reducible refine Below.setCell ?_ ?_ _) | (with_reducible refine Below.drew ?_) | (with_reducible refine below_drewN ?_ _) | (with_reducible assumption) | (with_reducible refine below_after (by with_reducible assumption) ?_) | go_size))⟩
theorem isS_at {is : List (Int × Int)} {k : Nat} {R S : Int} (hk : k < is.length) (h : is.getD k (0, 0) = (R, S)) (hb : isS R S = false) : inC is = false := by
  cases hi : inC is with
  | false => rfl
  | true =>
    have := List.all_eq_true.1 hi (is.getD k (0, 0)) (getD_in hk)
    rw [h] at this
    rw [hb] at this
    cases this
theorem inC_take {is : List (Int × Int)} {k : Nat} {R S : Int} (hk : k < is.length) (h : is.getD k (0, 0) = (R, S)) (hb : isS R S = true) (ht : inC (is.take k) = true) : inC (is.take (k + 1)) = true := by
  have e : is[k] = (R, S) := by
    rw [← h, List.getD_eq_getElem?_getD, List.getElem?_eq_getElem hk]; rfl
  unfold inC at *
  rw [List.take_succ_eq_append_getElem hk, List.all_append, ht, e]
  simp [hb]
theorem flat_take {is : List (Int × Int)} {k : Nat} {R S : Int} (hk : k < is.length) (h : is.getD k (0, 0) = (R, S)) : flat (is.take (k + 1)) = flat (is.take k) ++ [R, S] := by
  have e : is[k] = (R, S) := by
    rw [← h, List.getD_eq_getElem?_getD, List.getElem?_eq_getElem hk]; rfl
  rw [List.take_succ_eq_append_getElem hk, flat_append, e]
  rfl
set_option maxHeartbeats 4000000 in
theorem spec_Map_no1 (m0 m1 m2 m3 b0 b1 : Int) (a : Option Addr) (n cap : Nat) (ps : List (Int × Int)) (w : World) (h : LV w a n ps) (hk : mpOk m0 m1 m2 m3 b0 b1 ps = false) :
    Calls Try.prog 55 #[.agg #[.int .i64 m0, .int .i64 m1, .int .i64 m2, .int .i64 m3], .slice a n cap, .agg #[.int .i64 b0, .int .i64 b1]] w (RetPC w [] 1) := by
  have CM : Hid (∀ w, Calls Try.prog 94 #[.agg #[.int .i64 m0, .int .i64 m1, .int .i64 m2, .int .i64 m3]] w fun e w' => e = .returned (.bool (isMx m0 m1 m2 m3)) ∧ Below w.heap.size w w') := fun w => l01Matrix_any m0 m1 m2 m3 w
  have CIP : Hid (∀ W, Below w.heap.size w W → Calls Try.prog 95 #[.slice a n cap] W fun e w' => e = .returned (.bool (isP ps)) ∧ Below W.heap.size W w') := fun W hW => l09Is_any a n cap ps W (h.below hW)
  have CPT : Hid (∀ w, Calls Try.prog 79 #[.agg #[.int .i64 b0, .int .i64 b1]] w fun e w' => e = .returned (.bool (isPt (b0, b1))) ∧ Below w.heap.size w w') := fun w => l01Is_any b0 b1 w
  unfold mpOk at hk
  cases hm : isMx m0 m1 m2 m3
  · rw [hm] at CM
    clear hk h
    obtain ⟨GM, hG⟩ : ∃ G, w.heap.size = G := ⟨_, rfl⟩
    have HG := Lib.hid hG
    go_enter Try.func55, Try.ntmps55
    go_upto_region 1 with fail
    obtain ⟨w0, hw0⟩ : ∃ w0, w0 = ((w.alloc (.cells #[.int .i64 m0, .int .i64 m1, .int .i64 m2, .int .i64 m3] 61)).alloc (.cells #[.int .i64 b0, .int .i64 b1] 32)) := ⟨_, rfl⟩
    rw [← hw0]
    have HM : Hid (Bk4 w0 GM m0 m1 m2 m3) := by
      have h := (bk4_new w m0 m1 m2 m3 61).below (W' := ((w.alloc (.cells #[.int .i64 m0, .int .i64 m1, .int .i64 m2, .int .i64 m3] 61)).alloc (.cells #[.int .i64 b0, .int .i64 b1] 32))) (by (repeat' (first | (with_reducible exact Below.refl _ _) | (with_reducible refine Below.alloc ?_ ?_ _) | (with_reducible refine Below.setCell ?_ ?_ _) | (with_reducible refine Below.drew ?_) | (with_reducible refine below_drewN ?_ _) | (with_reducible assumption) | (with_reducible refine below_after (by with_reducible assumption) ?_) | go_size)))
      (try simp only [World.size_alloc] at h)
      rw [hG] at h
      rw [hw0]; exact h
    have HE : Hid (Bk2 w0 (GM + 1) b0 b1) := by
      have h := (bk2_new (w.alloc (.cells #[.int .i64 m0, .int .i64 m1, .int .i64 m2, .int .i64 m3] 61)) b0 b1 32).below (W' := ((w.alloc (.cells #[.int .i64 m0, .int .i64 m1, .int .i64 m2, .int .i64 m3] 61)).alloc (.cells #[.int .i64 b0, .int .i64 b1] 32))) (by (repeat' (first | (with_reducible exact Below.refl _ _) | (with_reducible refine Below.alloc ?_ ?_ _) | (with_reducible refine Below.setCell ?_ ?_ _) | (with_reducible refine Below.drew ?_) | (with_reducible refine below_drewN ?_ _) | (with_reducible assumption) | (with_reducible refine below_after (by with_reducible assumption) ?_) | go_size)))
      (try simp only [World.size_alloc] at h)
      rw [hG] at h
      rw [hw0]; exact h
    have HB : Hid (Below w.heap.size w w0) := by show Below w.heap.size w w0; rw [hw0]; (repeat' (first | (with_reducible exact Below.refl _ _) | (with_reducible refine Below.alloc ?_ ?_ _) | (with_reducible refine Below.setCell ?_ ?_ _) | (with_reducible refine Below.drew ?_) | (with_reducible refine below_drewN ?_ _) | (with_reducible assumption) | (with_reducible refine below_after (by with_reducible assumption) ?_) | go_size))
    clear hw0
    obtain ⟨GE, hGE⟩ : ∃ g, GM + 1 = g := ⟨_, rfl⟩
    rw [hGE] at HE ⊢
    have le_M : w.heap.size ≤ GM := by omega
    have le_E : w.heap.size ≤ GE := by omega
    have ne_E_M : GE ≠ GM := by omega
    have ne_M_E : GM ≠ GE := by omega
    clear hGE
    obtain ⟨⟨qM0, qM1, qM2, qM3⟩, ⟨fM0, fM1, fM2, fM3⟩, zM⟩ := HM.out
    obtain ⟨⟨qE0, qE1⟩, ⟨fE0, fE1⟩, zE⟩ := HE.out
    go_wp2_with fail
    go_at_call 94
    refine (CM.out _).mono ?_
    rintro e w1 ⟨rfl, hb⟩
    clear qM0 fM0 qM1 fM1 qM2 fM2 qM3 fM3 zM qE0 fE0 qE1 fE1 zE
    have HM := Lib.hid (HM.out.below hb)
    have HE := Lib.hid (HE.out.below hb)
    have HB := Lib.hid (below_after hb HB.out)
    clear hb
    obtain ⟨⟨qM0, qM1, qM2, qM3⟩, ⟨fM0, fM1, fM2, fM3⟩, zM⟩ := HM.out
    obtain ⟨⟨qE0, qE1⟩, ⟨fE0, fE1⟩, zE⟩ := HE.out
    go_wp2_with fail
    refine bodyPost_ret (v := .tuple #[.slice none 0 0, .int .i64 1]) (by simp (maxDischargeDepth := 8) [results, Try.results55, go_sem, *]) rfl ?_
    have hb := HB.out
    exact rtnM_nil hb
  · rw [hm] at CM hk
    cases hp : isP ps
    · rw [hp] at CIP
      clear hk h hm
      obtain ⟨GM, hG⟩ : ∃ G, w.heap.size = G := ⟨_, rfl⟩
      have HG := Lib.hid hG
      go_enter Try.func55, Try.ntmps55
      go_upto_region 1 with fail
      obtain ⟨w0, hw0⟩ : ∃ w0, w0 = ((w.alloc (.cells #[.int .i64 m0, .int .i64 m1, .int .i64 m2, .int .i64 m3] 61)).alloc (.cells #[.int .i64 b0, .int .i64 b1] 32)) := ⟨_, rfl⟩
      rw [← hw0]
      have HM : Hid (Bk4 w0 GM m0 m1 m2 m3) := by
        have h := (bk4_new w m0 m1 m2 m3 61).below (W' := ((w.alloc (.cells #[.int .i64 m0, .int .i64 m1, .int .i64 m2, .int .i64 m3] 61)).alloc (.cells #[.int .i64 b0, .int .i64 b1] 32))) (by (repeat' (first | (with_reducible exact Below.refl _ _) | (with_reducible refine Below.alloc ?_ ?_ _) | (with_reducible refine Below.setCell ?_ ?_ _) | (with_reducible refine Below.drew ?_) | (with_reducible refine below_drewN ?_ _) | (with_reducible assumption) | (with_reducible refine below_after (by with_reducible assumption) ?_) | go_size)))
        (try simp only [World.size_alloc] at h)
        rw [hG] at h
        rw [hw0]; exact h
      have HE : Hid (Bk2 w0 (GM + 1) b0 b1) := by
        have h := (bk2_new (w.alloc (.cells #[.int .i64 m0, .int .i64 m1, .int .i64 m2, .int .i64 m3] 61)) b0 b1 32).below (W' := ((w.alloc (.cells #[.int .i64 m0, .int .i64 m1, .int .i64 m2, .int .i64 m3] 61)).alloc (.cells #[.int .i64 b0, .int .i64 b1] 32))) (by (repeat' (first | (with_reducible exact Below.refl _ _) | (with_reducible refine Below.alloc ?_ ?_ _) | (with_reducible refine Below.setCell ?_ ?_ _) | (with_reducible refine Below.drew ?_) | (with_reducible refine below_drewN ?_ _) | (with_reducible assumption) | (with_reducible refine below_after (by with_reducible assumption) ?_) | go_size)))
        (try simp only [World.size_alloc] at h)
        rw [hG] at h
        rw [hw0]; exact h
      have HB : Hid (Below w.heap.size w w0) := by show Below w.heap.size w w0; rw [hw0]; (repeat' (first | (with_reducible exact Below.refl _ _) | (with_reducible refine Below.alloc ?_ ?_ _) | (with_reducible refine Below.setCell ?_ ?_ _) | (with_reducible refine Below.drew ?_) | (with_reducible refine below_drewN ?_ _) | (with_reducible assumption) | (with_reducible refine below_after (by with_reducible assumption) ?_) | go_size))
      clear hw0
      obtain ⟨GE, hGE⟩ : ∃ g, GM + 1 = g := ⟨_, rfl⟩
      rw [hGE] at HE ⊢
      have le_M : w.heap.size ≤ GM := by omega
      have le_E : w.heap.size ≤ GE := by omega
      have ne_E_M : GE ≠ GM := by omega
      have ne_M_E : GM ≠ GE := by omega
      clear hGE
      obtain ⟨⟨qM0, qM1, qM2, qM3⟩, ⟨fM0, fM1, fM2, fM3⟩, zM⟩ := HM.out
      obtain ⟨⟨qE0, qE1⟩, ⟨fE0, fE1⟩, zE⟩ := HE.out
      go_wp2_with fail
      go_at_call 94
      refine (CM.out _).mono ?_
      rintro e w1 ⟨rfl, hb⟩
      clear qM0 fM0 qM1 fM1 qM2 fM2 qM3 fM3 zM qE0 fE0 qE1 fE1 zE
      have HM := Lib.hid (HM.out.below hb)
      have HE := Lib.hid (HE.out.below hb)
      have HB := Lib.hid (below_after hb HB.out)
      clear hb
      obtain ⟨⟨qM0, qM1, qM2, qM3⟩, ⟨fM0, fM1, fM2, fM3⟩, zM⟩ := HM.out
      obtain ⟨⟨qE0, qE1⟩, ⟨fE0, fE1⟩, zE⟩ := HE.out
      go_wp2_with fail
      go_at_call 95
      refine (CIP.out _ HB.out).mono ?_
      rintro e w2 ⟨rfl, hb⟩
      clear qM0 fM0 qM1 fM1 qM2 fM2 qM3 fM3 zM qE0 fE0 qE1 fE1 zE
      have HM := Lib.hid (HM.out.below hb)
      have HE := Lib.hid (HE.out.below hb)
      have HB := Lib.hid (below_after hb HB.out)
      clear hb
      obtain ⟨⟨qM0, qM1, qM2, qM3⟩, ⟨fM0, fM1, fM2, fM3⟩, zM⟩ := HM.out
      obtain ⟨⟨qE0, qE1⟩, ⟨fE0, fE1⟩, zE⟩ := HE.out
      go_wp2_with fail
      refine bodyPost_ret (v := .tuple #[.slice none 0 0, .int .i64 1]) (by simp (maxDischargeDepth := 8) [results, Try.results55, go_sem, *]) rfl ?_
      have hb := HB.out
      exact rtnM_nil hb
    · rw [hp] at CIP hk
      have he : isPt (b0, b1) = false := by simpa using hk
      rw [he] at CPT
      clear hk h hm hp he
      obtain ⟨GM, hG⟩ : ∃ G, w.heap.size = G := ⟨_, rfl⟩
      have HG := Lib.hid hG
      go_enter Try.func55, Try.ntmps55
      go_upto_region 1 with fail
      obtain ⟨w0, hw0⟩ : ∃ w0, w0 = ((w.alloc (.cells #[.int .i64 m0, .int .i64 m1, .int .i64 m2, .int .i64 m3] 61)).alloc (.cells #[.int .i64 b0, .int .i64 b1] 32)) := ⟨_, rfl⟩
      rw [← hw0]
      have HM : Hid (Bk4 w0 GM m0 m1 m2 m3) := by
        have h := (bk4_new w m0 m1 m2 m3 61).below (W' := ((w.alloc (.cells #[.int .i64 m0, .int .i64 m1, .int .i64 m2, .int .i64 m3] 61)).alloc (.cells #[.int .i64 b0, .int .i64 b1] 32))) (by (repeat' (first | (with_reducible exact Below.refl _ _) | (with_reducible refine Below.alloc ?_ ?_ _) | (with_reducible refine Below.setCell ?_ ?_ _) | (with_reducible refine Below.drew ?_) | (with_reducible refine below_drewN ?_ _) | (with_reducible assumption) | (with_reducible refine below_after (by with_reducible assumption) ?_) | go_size)))
        (try simp only [World.size_alloc] at h)
        rw [hG] at h
        rw [hw0]; exact h
      have HE : Hid (Bk2 w0 (GM + 1) b0 b1) := by
        have h := (bk2_new (w.alloc (.cells #[.int .i64 m0, .int .i64 m1, .int .i64 m2, .int .i64 m3] 61)) b0 b1 32).below (W' := ((w.alloc (.cells #[.int .i64 m0, .int .i64 m1, .int .i64 m2, .int .i64 m3] 61)).alloc (.cells #[.int .i64 b0, .int .i64 b1] 32))) (by (repeat' (first | (with_reducible exact Below.refl _ _) | (with_reducible refine Below.alloc ?_ ?_ _) | (with_reducible refine Below.setCell ?_ ?_ _) | (with_reducible refine Below.drew ?_) | (with_reducible refine below_drewN ?_ _) | (with_reducible assumption) | (with_reducible refine below_after (by with_reducible assumption) ?_) | go_size)))
        (try simp only [World.size_alloc] at h)
        rw [hG] at h
        rw [hw0]; exact h
      have HB : Hid (Below w.heap.size w w0) := by show Below w.heap.size w w0; rw [hw0]; (repeat' (first | (with_reducible exact Below.refl _ _) | (with_reducible refine Below.alloc ?_ ?_ _) | (with_reducible refine Below.setCell ?_ ?_ _) | (with_reducible refine Below.drew ?_) | (with_reducible refine below_drewN ?_ _) | (with_reducible assumption) | (with_reducible refine below_after (by with_reducible assumption) ?_) | go_size))
      clear hw0
      obtain ⟨GE, hGE⟩ : ∃ g, GM + 1 = g := ⟨_, rfl⟩
      rw [hGE] at HE ⊢
      have le_M : w.heap.size ≤ GM := by omega
      have le_E : w.heap.size ≤ GE := by omega
      have ne_E_M : GE ≠ GM := by omega
      have ne_M_E : GM ≠ GE := by omega
      clear hGE
      obtain ⟨⟨qM0, qM1, qM2, qM3⟩, ⟨fM0, fM1, fM2, fM3⟩, zM⟩ := HM.out
      obtain ⟨⟨qE0, qE1⟩, ⟨fE0, fE1⟩, zE⟩ := HE.out
      go_wp2_with fail
      go_at_call 94
      refine (CM.out _).mono ?_
      rintro e w1 ⟨rfl, hb⟩
      clear qM0 fM0 qM1 fM1 qM2 fM2 qM3 fM3 zM qE0 fE0 qE1 fE1 zE
      have HM := Lib.hid (HM.out.below hb)
      have HE := Lib.hid (HE.out.below hb)
      have HB := Lib.hid (below_after hb HB.out)
      clear hb
      obtain ⟨⟨qM0, qM1, qM2, qM3⟩, ⟨fM0, fM1, fM2, fM3⟩, zM⟩ := HM.out
      obtain ⟨⟨qE0, qE1⟩, ⟨fE0, fE1⟩, zE⟩ := HE.out
      go_wp2_with fail
      go_at_call 95
      refine (CIP.out _ HB.out).mono ?_
      rintro e w2 ⟨rfl, hb⟩
      clear qM0 fM0 qM1 fM1 qM2 fM2 qM3 fM3 zM qE0 fE0 qE1 fE1 zE
      have HM := Lib.hid (HM.out.below hb)
      have HE := Lib.hid (HE.out.below hb)
      have HB := Lib.hid (below_after hb HB.out)
      clear hb
      obtain ⟨⟨qM0, qM1, qM2, qM3⟩, ⟨fM0, fM1, fM2, fM3⟩, zM⟩ := HM.out
      obtain ⟨⟨qE0, qE1⟩, ⟨fE0, fE1⟩, zE⟩ := HE.out
      go_wp2_with fail
      go_at_call 79
      refine (CPT.out _).mono ?_
      rintro e w3 ⟨rfl, hb⟩
      clear qM0 fM0 qM1 fM1 qM2 fM2 qM3 fM3 zM qE0 fE0 qE1 fE1 zE
      have HM := Lib.hid (HM.out.below hb)
      have HE := Lib.hid (HE.out.below hb)
      have HB := Lib.hid (below_after hb HB.out)
      clear hb
      obtain ⟨⟨qM0, qM1, qM2, qM3⟩, ⟨fM0, fM1, fM2, fM3⟩, zM⟩ := HM.out
      obtain ⟨⟨qE0, qE1⟩, ⟨fE0, fE1⟩, zE⟩ := HE.out
      go_wp2_with fail
      refine bodyPost_ret (v := .tuple #[.slice none 0 0, .int .i64 1]) (by simp (maxDischargeDepth := 8) [results, Try.results55, go_sem, *]) rfl ?_
      have hb := HB.out
      exact rtnM_nil hb
set_option maxHeartbeats 4000000 in
theorem spec_Map_no5 (m0 m1 m2 m3 b0 b1 : Int) (a : Option Addr) (n cap : Nat) (ps : List (Int × Int)) (w : World) (h : LV w a n ps) (hk : mpOk m0 m1 m2 m3 b0 b1 ps = true) (hu : mpU m0 m1 m2 m3 = false) :
    Calls Try.prog 55 #[.agg #[.int .i64 m0, .int .i64 m1, .int .i64 m2, .int .i64 m3], .slice a n cap, .agg #[.int .i64 b0, .int .i64 b1]] w (RetPC w [] 5) := by
  have CM : Hid (∀ w, Calls Try.prog 94 #[.agg #[.int .i64 m0, .int .i64 m1, .int .i64 m2, .int .i64 m3]] w fun e w' => e = .returned (.bool (isMx m0 m1 m2 m3)) ∧ Below w.heap.size w w') := fun w => l01Matrix_any m0 m1 m2 m3 w
  have CIP : Hid (∀ W, Below w.heap.size w W → Calls Try.prog 95 #[.slice a n cap] W fun e w' => e = .returned (.bool (isP ps)) ∧ Below W.heap.size W w') := fun W hW => l09Is_any a n cap ps W (h.below hW)
  have CPT : Hid (∀ w, Calls Try.prog 79 #[.agg #[.int .i64 b0, .int .i64 b1]] w fun e w' => e = .returned (.bool (isPt (b0, b1))) ∧ Below w.heap.size w w') := fun w => l01Is_any b0 b1 w
  have hk0 := hk
  unfold mpOk at hk0
  simp only [Bool.and_eq_true] at hk0
  obtain ⟨hm, hp, he⟩ := hk0
  rw [hm] at CM
  rw [hp] at CIP
  rw [he] at CPT
  obtain ⟨g1, g2⟩ := isMx_pts hm
  have bm0 := isPt_bn1 g1
  have bm1 := isPt_bn2 g1
  have bm2 := isPt_bn1 g2
  have bm3 := isPt_bn2 g2
  have be0 := isPt_bn1 he
  have be1 := isPt_bn2 he
  have CU : Hid (∀ w, Calls Try.prog 96 #[.agg #[.int .i64 m0, .int .i64 m1, .int .i64 m2, .int .i64 m3]] w fun e w' => e = .returned (.bool (mpU m0 m1 m2 m3)) ∧ Below w.heap.size w w') := fun w => l01Unit_w m0 m1 m2 m3 w bm0 bm1 bm2 bm3
  rw [hu] at CU
  clear hk hu h hm hp he bm0 bm1 bm2 bm3 be0 be1 g1 g2
  obtain ⟨GM, hG⟩ : ∃ G, w.heap.size = G := ⟨_, rfl⟩
  have HG := Lib.hid hG
  go_enter Try.func55, Try.ntmps55
  go_upto_region 1 with fail
  obtain ⟨w0, hw0⟩ : ∃ w0, w0 = ((w.alloc (.cells #[.int .i64 m0, .int .i64 m1, .int .i64 m2, .int .i64 m3] 61)).alloc (.cells #[.int .i64 b0, .int .i64 b1] 32)) := ⟨_, rfl⟩
  rw [← hw0]
  have HM : Hid (Bk4 w0 GM m0 m1 m2 m3) := by
    have h := (bk4_new w m0 m1 m2 m3 61).below (W' := ((w.alloc (.cells #[.int .i64 m0, .int .i64 m1, .int .i64 m2, .int .i64 m3] 61)).alloc (.cells #[.int .i64 b0, .int .i64 b1] 32))) (by (repeat' (first | (with_reducible exact Below.refl _ _) | (with_reducible refine Below.alloc ?_ ?_ _) | (with_reducible refine Below.setCell ?_ ?_ _) | (with_reducible refine Below.drew ?_) | (with_reducible refine below_drewN ?_ _) | (with_reducible assumption) | (with_reducible refine below_after (by with_reducible assumption) ?_) | go_size)))
    (try simp only [World.size_alloc] at h)
    rw [hG] at h
    rw [hw0]; exact h
  have HE : Hid (Bk2 w0 (GM + 1) b0 b1) := by
    have h := (bk2_new (w.alloc (.cells #[.int .i64 m0, .int .i64 m1, .int .i64 m2, .int .i64 m3] 61)) b0 b1 32).below (W' := ((w.alloc (.cells #[.int .i64 m0, .int .i64 m1, .int .i64 m2, .int .i64 m3] 61)).alloc (.cells #[.int .i64 b0, .int .i64 b1] 32))) (by (repeat' (first | (with_reducible exact Below.refl _ _) | (with_reducible refine Below.alloc ?_ ?_ _) | (with_reducible refine Below.setCell ?_ ?_ _) | (with_reducible refine Below.drew ?_) | (with_reducible refine below_drewN ?_ _) | (with_reducible assumption) | (with_reducible refine below_after (by with_reducible assumption) ?_) | go_size)))
    (try simp only [World.size_alloc] at h)
    rw [hG] at h
    rw [hw0]; exact h
  have HB : Hid (Below w.heap.size w w0) := by show Below w.heap.size w w0; rw [hw0]; (repeat' (first | (with_reducible exact Below.refl _ _) | (with_reducible refine Below.alloc ?_ ?_ _) | (with_reducible refine Below.setCell ?_ ?_ _) | (with_reducible refine Below.drew ?_) | (with_reducible refine below_drewN ?_ _) | (with_reducible assumption) | (with_reducible refine below_after (by with_reducible assumption) ?_) | go_size))
  clear hw0
  obtain ⟨GE, hGE⟩ : ∃ g, GM + 1 = g := ⟨_, rfl⟩
  rw [hGE] at HE ⊢
  have le_M : w.heap.size ≤ GM := by omega
  have le_E : w.heap.size ≤ GE := by omega
  have ne_E_M : GE ≠ GM := by omega
  have ne_M_E : GM ≠ GE := by omega
  clear hGE
  obtain ⟨⟨qM0, qM1, qM2, qM3⟩, ⟨fM0, fM1, fM2, fM3⟩, zM⟩ := HM.out
  obtain ⟨⟨qE0, qE1⟩, ⟨fE0, fE1⟩, zE⟩ := HE.out
  go_wp2_with fail
  go_at_call 94
  refine (CM.out _).mono ?_
  rintro e w1 ⟨rfl, hb⟩
  clear qM0 fM0 qM1 fM1 qM2 fM2 qM3 fM3 zM qE0 fE0 qE1 fE1 zE
  have HM := Lib.hid (HM.out.below hb)
  have HE := Lib.hid (HE.out.below hb)
  have HB := Lib.hid (below_after hb HB.out)
  clear hb
  obtain ⟨⟨qM0, qM1, qM2, qM3⟩, ⟨fM0, fM1, fM2, fM3⟩, zM⟩ := HM.out
  obtain ⟨⟨qE0, qE1⟩, ⟨fE0, fE1⟩, zE⟩ := HE.out
  go_wp2_with fail
  go_at_call 95
  refine (CIP.out _ HB.out).mono ?_
  rintro e w2 ⟨rfl, hb⟩
  clear qM0 fM0 qM1 fM1 qM2 fM2 qM3 fM3 zM qE0 fE0 qE1 fE1 zE
  have HM := Lib.hid (HM.out.below hb)
  have HE := Lib.hid (HE.out.below hb)
  have HB := Lib.hid (below_after hb HB.out)
  clear hb
  obtain ⟨⟨qM0, qM1, qM2, qM3⟩, ⟨fM0, fM1, fM2, fM3⟩, zM⟩ := HM.out
  obtain ⟨⟨qE0, qE1⟩, ⟨fE0, fE1⟩, zE⟩ := HE.out
  go_wp2_with fail
  go_at_call 79
  refine (CPT.out _).mono ?_
  rintro e w3 ⟨rfl, hb⟩
  clear qM0 fM0 qM1 fM1 qM2 fM2 qM3 fM3 zM qE0 fE0 qE1 fE1 zE
  have HM := Lib.hid (HM.out.below hb)
  have HE := Lib.hid (HE.out.below hb)
  have HB := Lib.hid (below_after hb HB.out)
  clear hb
  obtain ⟨⟨qM0, qM1, qM2, qM3⟩, ⟨fM0, fM1, fM2, fM3⟩, zM⟩ := HM.out
  obtain ⟨⟨qE0, qE1⟩, ⟨fE0, fE1⟩, zE⟩ := HE.out
  go_wp2_with fail
  go_at_call 96
  refine (CU.out _).mono ?_
  rintro e w4 ⟨rfl, hb⟩
  clear qM0 fM0 qM1 fM1 qM2 fM2 qM3 fM3 zM qE0 fE0 qE1 fE1 zE
  have HM := Lib.hid (HM.out.below hb)
  have HE := Lib.hid (HE.out.below hb)
  have HB := Lib.hid (below_after hb HB.out)
  clear hb
  obtain ⟨⟨qM0, qM1, qM2, qM3⟩, ⟨fM0, fM1, fM2, fM3⟩, zM⟩ := HM.out
  obtain ⟨⟨qE0, qE1⟩, ⟨fE0, fE1⟩, zE⟩ := HE.out
  go_wp2_with fail
  refine bodyPost_ret (v := .tuple #[.slice none 0 0, .int .i64 5]) (by simp (maxDischargeDepth := 8) [results, Try.results55, go_sem, *]) rfl ?_
  have hb := HB.out
  exact rtnM_nil hb
theorem mpT_at2 (m0 m1 m2 m3 b0 b1 x y : Int) : ((img m0 m1 m2 m3 x y).1 + 1 * b0, (img m0 m1 m2 m3 x y).2 + 1 * b1) = mpT m0 m1 m2 m3 b0 b1 (x, y) := by
  unfold img mpT
  dsimp only
  rw [Prod.mk.injEq]
  constructor <;> omega
set_option maxHeartbeats 16000000 in
theorem spec_Map_yes (m0 m1 m2 m3 b0 b1 : Int) (a : Option Addr) (n cap : Nat) (ps : List (Int × Int)) (w : World) (h : LV w a n ps) (hk : mpOk m0 m1 m2 m3 b0 b1 ps = true) (hu : mpU m0 m1 m2 m3 = true) :
    Calls Try.prog 55 #[.agg #[.int .i64 m0, .int .i64 m1, .int .i64 m2, .int .i64 m3], .slice a n cap, .agg #[.int .i64 b0, .int .i64 b1]] w (RetPC w (mpL m0 m1 m2 m3 b0 b1 ps) (mpC m0 m1 m2 m3 b0 b1 ps)) := by
  have CM : Hid (∀ w, Calls Try.prog 94 #[.agg #[.int .i64 m0, .int .i64 m1, .int .i64 m2, .int .i64 m3]] w fun e w' => e = .returned (.bool (isMx m0 m1 m2 m3)) ∧ Below w.heap.size w w') := fun w => l01Matrix_any m0 m1 m2 m3 w
  have CIP : Hid (∀ W, Below w.heap.size w W → Calls Try.prog 95 #[.slice a n cap] W fun e w' => e = .returned (.bool (isP ps)) ∧ Below W.heap.size W w') := fun W hW => l09Is_any a n cap ps W (h.below hW)
  have CPT : Hid (∀ w, Calls Try.prog 79 #[.agg #[.int .i64 b0, .int .i64 b1]] w fun e w' => e = .returned (.bool (isPt (b0, b1))) ∧ Below w.heap.size w w') := fun w => l01Is_any b0 b1 w
  have hk0 := hk
  unfold mpOk at hk0
  simp only [Bool.and_eq_true] at hk0
  obtain ⟨hm, hp, he⟩ := hk0
  rw [hm] at CM
  rw [hp] at CIP
  rw [he] at CPT
  obtain ⟨g1, g2⟩ := isMx_pts hm
  have bm0 := isPt_bn1 g1
  have bm1 := isPt_bn2 g1
  have bm2 := isPt_bn1 g2
  have bm3 := isPt_bn2 g2
  have be0 := isPt_bn1 he
  have be1 := isPt_bn2 he
  have CU : Hid (∀ w, Calls Try.prog 96 #[.agg #[.int .i64 m0, .int .i64 m1, .int .i64 m2, .int .i64 m3]] w fun e w' => e = .returned (.bool (mpU m0 m1 m2 m3)) ∧ Below w.heap.size w w') := fun w => l01Unit_w m0 m1 m2 m3 w bm0 bm1 bm2 bm3
  rw [hu] at CU
  obtain ⟨h3, h12, hin, hcv⟩ := isP_iff.1 hp
  have HCX := mp_hull (Q := mpQ m0 m1 m2 m3 b0 b1 ps) (L := mpI m0 m1 m2 m3 b0 b1 ps) (by rw [mpQ_len]; exact h3) (mpQ_cvx hu hp) (fun x => (mpQ_mem m0 m1 m2 m3 b0 b1 ps x).symm) (by rw [mpQ_len, mpI_len])
  have HIL := Lib.hid (mpI_len (a := m0) (b := m1) (c := m2) (d := m3) (e := b0) (f := b1) ps)
  have HIA := Lib.hid (fun k (hk : k < ps.length) => mpI_at (a := m0) (b := m1) (c := m2) (d := m3) (e := b0) (f := b1) ps hk)
  have HIN := Lib.hid (fun k (hk : k < ps.length) => show Sml (ps.getD k (0, 0)).1 ∧ Sml (ps.getD k (0, 0)).2 by have := inC_pl hin (by omega) k; rwa [pl_lt hk] at this)
  have HNO := Lib.hid (fun hi => mp_no3 hk hu hi)
  have HYE := Lib.hid (fun hi => mp_yes hk hu hi)
  rw [mpQ_len] at HCX
  have HRLN := Lib.hid (show (rotL (mpQ m0 m1 m2 m3 b0 b1 ps) (ixm (mpQ m0 m1 m2 m3 b0 b1 ps) ps.length)).length = ps.length by
    rw [rotL_len _ (by rw [mpQ_len]; exact Nat.le_of_lt (ixm_lt (by omega) ps.length (Nat.le_refl _)))]; exact mpQ_len _ _ _ _ _ _ _)
  obtain ⟨hN, hmx, hcl⟩ := h
  obtain ⟨g, rfl, hg, hc⟩ := hcl (by omega)
  have HCP : Hid (∀ W, Below w.heap.size w W → ∀ k, k < n → W.cell? ⟨g, k * 2, none⟩ = some (.int .i64 (ps.getD k (0, 0)).1) ∧ W.cell? ⟨g, k * 2 + 1, none⟩ = some (.int .i64 (ps.getD k (0, 0)).2)) := fun W hW k hkk => by
    have := ptCells_kept hc (hW.block g hg) k (by omega)
    rwa [Nat.zero_add] at this
  rw [hN] at h3 h12 HIA HIN HIL HYE HCX HRLN
  obtain ⟨Z, hZ⟩ : ∃ Q, rotL (mpQ m0 m1 m2 m3 b0 b1 ps) (ixm (mpQ m0 m1 m2 m3 b0 b1 ps) n) = Q := ⟨_, rfl⟩
  obtain ⟨is, hI⟩ : ∃ Q, mpI m0 m1 m2 m3 b0 b1 ps = Q := ⟨_, rfl⟩
  rw [hZ] at HYE HCX HRLN
  rw [hI] at HIL HIA HNO HYE HCX
  have HCX := Lib.hid HCX
  have BM := Lib.hid (And.intro (And.intro bm0 bm1) (And.intro bm2 bm3))
  have BE := Lib.hid (And.intro be0 be1)
  clear hk hu hm hp he bm0 bm1 bm2 bm3 be0 be1 g1 g2 hin hcv hc hcl hZ hI
  obtain ⟨GM, hG⟩ : ∃ G, w.heap.size = G := ⟨_, rfl⟩
  have HG := Lib.hid hG
  go_enter Try.func55, Try.ntmps55
  go_upto_region 1 with fail
  obtain ⟨w0, hw0⟩ : ∃ w0, w0 = ((w.alloc (.cells #[.int .i64 m0, .int .i64 m1, .int .i64 m2, .int .i64 m3] 61)).alloc (.cells #[.int .i64 b0, .int .i64 b1] 32)) := ⟨_, rfl⟩
  rw [← hw0]
  have HM : Hid (Bk4 w0 GM m0 m1 m2 m3) := by
    have h := (bk4_new w m0 m1 m2 m3 61).below (W' := ((w.alloc (.cells #[.int .i64 m0, .int .i64 m1, .int .i64 m2, .int .i64 m3] 61)).alloc (.cells #[.int .i64 b0, .int .i64 b1] 32))) (by (repeat' (first | (with_reducible exact Below.refl _ _) | (with_reducible refine Below.alloc ?_ ?_ _) | (with_reducible refine Below.setCell ?_ ?_ _) | (with_reducible refine Below.drew ?_) | (with_reducible refine below_drewN ?_ _) | (with_reducible assumption) | (with_reducible refine below_after (by with_reducible assumption) ?_) | go_size)))
    (try simp only [World.size_alloc] at h)
    rw [hG] at h
    rw [hw0]; exact h
  have HE : Hid (Bk2 w0 (GM + 1) b0 b1) := by
    have h := (bk2_new (w.alloc (.cells #[.int .i64 m0, .int .i64 m1, .int .i64 m2, .int .i64 m3] 61)) b0 b1 32).below (W' := ((w.alloc (.cells #[.int .i64 m0, .int .i64 m1, .int .i64 m2, .int .i64 m3] 61)).alloc (.cells #[.int .i64 b0, .int .i64 b1] 32))) (by (repeat' (first | (with_reducible exact Below.refl _ _) | (with_reducible refine Below.alloc ?_ ?_ _) | (with_reducible refine Below.setCell ?_ ?_ _) | (with_reducible refine Below.drew ?_) | (with_reducible refine below_drewN ?_ _) | (with_reducible assumption) | (with_reducible refine below_after (by with_reducible assumption) ?_) | go_size)))
    (try simp only [World.size_alloc] at h)
    rw [hG] at h
    rw [hw0]; exact h
  have HB : Hid (Below w.heap.size w w0) := by show Below w.heap.size w w0; rw [hw0]; (repeat' (first | (with_reducible exact Below.refl _ _) | (with_reducible refine Below.alloc ?_ ?_ _) | (with_reducible refine Below.setCell ?_ ?_ _) | (with_reducible refine Below.drew ?_) | (with_reducible refine below_drewN ?_ _) | (with_reducible assumption) | (with_reducible refine below_after (by with_reducible assumption) ?_) | go_size))
  clear hw0
  obtain ⟨GE, hGE⟩ : ∃ g, GM + 1 = g := ⟨_, rfl⟩
  rw [hGE] at HE ⊢
  have le_M : w.heap.size ≤ GM := by omega
  have le_E : w.heap.size ≤ GE := by omega
  have ne_E_M : GE ≠ GM := by omega
  have ne_M_E : GM ≠ GE := by omega
  clear hGE
  obtain ⟨⟨qM0, qM1, qM2, qM3⟩, ⟨fM0, fM1, fM2, fM3⟩, zM⟩ := HM.out
  obtain ⟨⟨qE0, qE1⟩, ⟨fE0, fE1⟩, zE⟩ := HE.out
  go_wp2_with fail
  go_at_call 94
  refine (CM.out _).mono ?_
  rintro e w1 ⟨rfl, hb⟩
  clear qM0 fM0 qM1 fM1 qM2 fM2 qM3 fM3 zM qE0 fE0 qE1 fE1 zE
  have HM := Lib.hid (HM.out.below hb)
  have HE := Lib.hid (HE.out.below hb)
  have HB := Lib.hid (below_after hb HB.out)
  clear hb
  obtain ⟨⟨qM0, qM1, qM2, qM3⟩, ⟨fM0, fM1, fM2, fM3⟩, zM⟩ := HM.out
  obtain ⟨⟨qE0, qE1⟩, ⟨fE0, fE1⟩, zE⟩ := HE.out
  go_wp2_with fail
  go_at_call 95
  refine (CIP.out _ HB.out).mono ?_
  rintro e w2 ⟨rfl, hb⟩
  clear qM0 fM0 qM1 fM1 qM2 fM2 qM3 fM3 zM qE0 fE0 qE1 fE1 zE
  have HM := Lib.hid (HM.out.below hb)
  have HE := Lib.hid (HE.out.below hb)
  have HB := Lib.hid (below_after hb HB.out)
  clear hb
  obtain ⟨⟨qM0, qM1, qM2, qM3⟩, ⟨fM0, fM1, fM2, fM3⟩, zM⟩ := HM.out
  obtain ⟨⟨qE0, qE1⟩, ⟨fE0, fE1⟩, zE⟩ := HE.out
  go_wp2_with fail
  go_at_call 79
  refine (CPT.out _).mono ?_
  rintro e w3 ⟨rfl, hb⟩
  clear qM0 fM0 qM1 fM1 qM2 fM2 qM3 fM3 zM qE0 fE0 qE1 fE1 zE
  have HM := Lib.hid (HM.out.below hb)
  have HE := Lib.hid (HE.out.below hb)
  have HB := Lib.hid (below_after hb HB.out)
  clear hb
  obtain ⟨⟨qM0, qM1, qM2, qM3⟩, ⟨fM0, fM1, fM2, fM3⟩, zM⟩ := HM.out
  obtain ⟨⟨qE0, qE1⟩, ⟨fE0, fE1⟩, zE⟩ := HE.out
  go_wp2_with fail
  go_at_call 96
  refine (CU.out _).mono ?_
  rintro e w4 ⟨rfl, hb⟩
  clear qM0 fM0 qM1 fM1 qM2 fM2 qM3 fM3 zM qE0 fE0 qE1 fE1 zE
  have HM := Lib.hid (HM.out.below hb)
  have HE := Lib.hid (HE.out.below hb)
  have HB := Lib.hid (below_after hb HB.out)
  clear hb
  have hs5 := HB.out.size
  have HB5 := HB
  have HM5 := HM
  have HE5 := HE
  obtain ⟨⟨qM0, qM1, qM2, qM3⟩, ⟨fM0, fM1, fM2, fM3⟩, zM⟩ := HM.out
  obtain ⟨⟨qE0, qE1⟩, ⟨fE0, fE1⟩, zE⟩ := HE.out
  go_wp2_with fail
  go_loopw [8, 9] (fun ov iv wr => ∃ (k : Nat) (va : Option Addr) (vc : Nat), k ≤ n ∧ ov = .slice va k vc ∧ iv = .int .i64 k ∧ OwnF w4.heap.size wr (.slice va k vc) k (flat (is.take k)) ∧ inC (is.take k) = true ∧ Below w4.heap.size w4 wr) (fun _ iv _ => n - (intOf iv).toNat)
  case atStart => exact ⟨0, some ⟨w4.heap.size, 0, none⟩, 0, by omega, rfl, by go_num, World.ownsRow_lit w4 #[] 0 (Nat.le_refl _) (by unfold maxLen; omega) rfl, rfl, (Below.refl _ _).alloc (Nat.le_refl _) _⟩
  clear qM0 fM0 qM1 fM1 qM2 fM2 qM3 fM3 zM qE0 fE0 qE1 fE1 zE
  case round =>
    obtain ⟨k, va, vc, hk, rfl, rfl, ho, hic, hbel⟩ := hrel
    clear HB HM HE
    have HM := Lib.hid (HM5.out.below hbel)
    have HE := Lib.hid (HE5.out.below hbel)
    have HO := Lib.hid ho
    have HBr := Lib.hid hbel
    have HB := Lib.hid (below_after hbel HB5.out)
    have HIC := Lib.hid hic
    clear ho hic hbel
    by_cases hlt : k < n
    · skip
      have HO0 := HO
      clear HO
      have hpt := HIN.out k (by have := HIL.out; omega)
      have hia := HIA.out k (by have := HIL.out; omega)
      have HCPr : Hid (∀ W, Below wr.heap.size wr W → W.cell? ⟨g, k * 2, none⟩ = some (.int .i64 (ps.getD k (0, 0)).1) ∧ W.cell? ⟨g, k * 2 + 1, none⟩ = some (.int .i64 (ps.getD k (0, 0)).2)) := fun W hW => HCP.out W (below_after hW HB.out) k hlt
      obtain ⟨X, Y, hXY⟩ : ∃ X Y, ps.getD k (0, 0) = (X, Y) := ⟨_, _, rfl⟩
      rw [hXY] at hpt hia HCPr
      dsimp only at hpt HCPr
      have CI : Hid (∀ w, Calls Try.prog 98 #[.agg #[.int .i64 m0, .int .i64 m1, .int .i64 m2, .int .i64 m3], .agg #[.int .i64 X, .int .i64 Y]] w fun e w' => e = .returned (.agg #[.int .i64 (img m0 m1 m2 m3 X Y).1, .int .i64 (img m0 m1 m2 m3 X Y).2]) ∧ Below w.heap.size w w') := fun w => l01Apply_any m0 m1 m2 m3 X Y w BM.out.1.1 BM.out.1.2 BM.out.2.1 BM.out.2.2 (by have := hpt.1; unfold Sml at this; unfold Bn; omega) (by have := hpt.2; unfold Sml at this; unfold Bn; omega)
      rw [← mpT_at2] at hia
      obtain ⟨U, hU⟩ : ∃ U, (img m0 m1 m2 m3 X Y).1 = U := ⟨_, rfl⟩
      obtain ⟨V, hV⟩ : ∃ U, (img m0 m1 m2 m3 X Y).2 = U := ⟨_, rfl⟩
      have hbU : -3000000000000 ≤ U ∧ U ≤ 3000000000000 := by
        have q1 := mul_bd (A := 1000000000) (B := 1000) BM.out.1.1.1 BM.out.1.1.2 hpt.1.1 hpt.1.2
        have q2 := mul_bd (A := 1000000000) (B := 1000) BM.out.1.2.1 BM.out.1.2.2 hpt.2.1 hpt.2.2
        rw [← hU]
        unfold img
        dsimp only
        omega
      have hbV : -3000000000000 ≤ V ∧ V ≤ 3000000000000 := by
        have q1 := mul_bd (A := 1000000000) (B := 1000) BM.out.2.1.1 BM.out.2.1.2 hpt.1.1 hpt.1.2
        have q2 := mul_bd (A := 1000000000) (B := 1000) BM.out.2.2.1 BM.out.2.2.2 hpt.2.1 hpt.2.2
        rw [← hV]
        unfold img
        dsimp only
        omega
      rw [hU, hV] at CI hia
      have hbE := BE.out
      unfold Bn at hbE
      have CQ : Hid (∀ w, Calls Try.prog 97 #[.agg #[.int .i64 U, .int .i64 V], .agg #[.int .i64 b0, .int .i64 b1], .int .i64 1] w fun e w' => e = .returned (.agg #[.int .i64 (U + 1 * b0), .int .i64 (V + 1 * b1)]) ∧ Below w.heap.size w w') := fun w => l01Plus_w3 _ _ _ _ _ w hbU hbV (by omega) (by omega) (by omega) (by omega)
      obtain ⟨R, hR⟩ : ∃ R, U + 1 * b0 = R := ⟨_, rfl⟩
      obtain ⟨S, hS⟩ : ∃ R, V + 1 * b1 = R := ⟨_, rfl⟩
      rw [hR, hS] at CQ hia
      have HIK := Lib.hid hia
      have i1 : (0 : Int) ≤ (k : Int) := by omega
      have i2 : (k : Int) < (n : Int) := by omega
      clear hpt hia hXY hU hV hbU hbV hbE hR hS
      have HSS := Lib.hid (isS_in R S)
      cases h1 : inB R (-1000) 1000
      · have hss : isS R S = false := by rw [HSS.out, h1]; rfl
        have HXX : Hid (∀ W, Below wr.heap.size wr W → Bk4 W GM m0 m1 m2 m3 ∧ Bk2 W GE b0 b1) := fun W hW => ⟨HM.out.below hW, HE.out.below hW⟩
        go_wp2_with fail
        refine wp_region_held_drew (S := fun W => Below wr.heap.size wr W) (by kernel_rfl) ?_ (fun hHeld => ?_); focus ((try dsimp only); exact (Below.refl _ _).drew)
        have HM := Lib.hid (HM.out.below (Below.drew (Below.refl _ _)))
        have HE := Lib.hid (HE.out.below (Below.drew (Below.refl _ _)))
        have hHeld : Below wr.heap.size wr _ := hHeld
        obtain ⟨wD20, hwD20⟩ : ∃ wD, wr.drew = wD := ⟨_, rfl⟩
        rw [hwD20] at hHeld HM HE ⊢
        clear hwD20
        (refine wpAnyH_take (i := 0) (v := ?_) rfl (by kernel_rfl) (by kernel_rfl) (by kernel_rfl) (fun _ _ _ h => h) (Or.inl ⟨rfl, ?_⟩) (by assumption) ?_; rotate_left; focus (intro W hSw; (try dsimp only at hSw); have hxx := HXX.out _ hSw; obtain ⟨hxM, hxE⟩ := hxx; obtain ⟨k0, k1⟩ := HCPr.out _ hSw; have hgw := World.block_lt_of_cell? _ _ k0; obtain ⟨⟨iM0, iM1, iM2, iM3⟩, _, _⟩ := hxM; obtain ⟨⟨iE0, iE1⟩, _, _⟩ := hxE; go_simp; try (with_reducible rfl))); (try simp only [Act.put, List.getElem_toArray, List.getElem_cons_succ, List.getElem_cons_zero, List.setIfInBounds_toArray, List.set_cons_zero, List.set_cons_succ])
        (refine wpAnyH_take (i := 1) (v := ?_) rfl (by kernel_rfl) (by kernel_rfl) (by kernel_rfl) (fun _ _ _ h => h) (Or.inl ⟨rfl, ?_⟩) (by assumption) ?_; rotate_left; focus (intro W hSw; (try dsimp only at hSw); have hxx := HXX.out _ hSw; obtain ⟨hxM, hxE⟩ := hxx; obtain ⟨k0, k1⟩ := HCPr.out _ hSw; have hgw := World.block_lt_of_cell? _ _ k0; obtain ⟨⟨iM0, iM1, iM2, iM3⟩, _, _⟩ := hxM; obtain ⟨⟨iE0, iE1⟩, _, _⟩ := hxE; go_simp; try (with_reducible rfl))); (try simp only [Act.put, List.getElem_toArray, List.getElem_cons_succ, List.getElem_cons_zero, List.setIfInBounds_toArray, List.set_cons_zero, List.set_cons_succ])
        (refine wpAnyH_take (i := 2) (v := ?_) rfl (by kernel_rfl) (by kernel_rfl) (by kernel_rfl) (fun _ _ _ h => h) (Or.inl ⟨rfl, ?_⟩) (by assumption) ?_; rotate_left; focus (intro W hSw; (try dsimp only at hSw); have hxx := HXX.out _ hSw; obtain ⟨hxM, hxE⟩ := hxx; obtain ⟨k0, k1⟩ := HCPr.out _ hSw; have hgw := World.block_lt_of_cell? _ _ k0; obtain ⟨⟨iM0, iM1, iM2, iM3⟩, _, _⟩ := hxM; obtain ⟨⟨iE0, iE1⟩, _, _⟩ := hxE; go_simp; try (with_reducible rfl))); (try simp only [Act.put, List.getElem_toArray, List.getElem_cons_succ, List.getElem_cons_zero, List.setIfInBounds_toArray, List.set_cons_zero, List.set_cons_succ])
        (refine wpAnyH_take (i := 3) (v := ?_) rfl (by kernel_rfl) (by kernel_rfl) (by kernel_rfl) (fun _ _ _ h => h) (Or.inl ⟨rfl, ?_⟩) (by assumption) ?_; rotate_left; focus (intro W hSw; (try dsimp only at hSw); have hxx := HXX.out _ hSw; obtain ⟨hxM, hxE⟩ := hxx; obtain ⟨k0, k1⟩ := HCPr.out _ hSw; have hgw := World.block_lt_of_cell? _ _ k0; obtain ⟨⟨iM0, iM1, iM2, iM3⟩, _, _⟩ := hxM; obtain ⟨⟨iE0, iE1⟩, _, _⟩ := hxE; go_simp; try (with_reducible rfl))); (try simp only [Act.put, List.getElem_toArray, List.getElem_cons_succ, List.getElem_cons_zero, List.setIfInBounds_toArray, List.set_cons_zero, List.set_cons_succ])
        (refine wpAnyH_take (i := 4) (v := ?_) rfl (by kernel_rfl) (by kernel_rfl) (by kernel_rfl) (fun _ _ _ h => h) (Or.inl ⟨rfl, ?_⟩) (by assumption) ?_; rotate_left; focus (intro W hSw; (try dsimp only at hSw); have hxx := HXX.out _ hSw; obtain ⟨hxM, hxE⟩ := hxx; obtain ⟨k0, k1⟩ := HCPr.out _ hSw; have hgw := World.block_lt_of_cell? _ _ k0; obtain ⟨⟨iM0, iM1, iM2, iM3⟩, _, _⟩ := hxM; obtain ⟨⟨iE0, iE1⟩, _, _⟩ := hxE; go_simp; try (with_reducible rfl))); (try simp only [Act.put, List.getElem_toArray, List.getElem_cons_succ, List.getElem_cons_zero, List.setIfInBounds_toArray, List.set_cons_zero, List.set_cons_succ])
        (refine wpAnyH_take (i := 6) (v := ?_) rfl (by kernel_rfl) (by kernel_rfl) (by kernel_rfl) (fun _ _ _ h => h) (Or.inl ⟨rfl, ?_⟩) (by assumption) ?_; rotate_left; focus (intro W hSw; (try dsimp only at hSw); have hxx := HXX.out _ hSw; obtain ⟨hxM, hxE⟩ := hxx; obtain ⟨k0, k1⟩ := HCPr.out _ hSw; have hgw := World.block_lt_of_cell? _ _ k0; obtain ⟨⟨iM0, iM1, iM2, iM3⟩, _, _⟩ := hxM; obtain ⟨⟨iE0, iE1⟩, _, _⟩ := hxE; go_simp; try (with_reducible rfl))); (try simp only [Act.put, List.getElem_toArray, List.getElem_cons_succ, List.getElem_cons_zero, List.setIfInBounds_toArray, List.set_cons_zero, List.set_cons_succ])
        refine wpAnyH_ready (rs := [5, 8]) (by kernel_rfl) (by simp) ?_; refine AllReadyH.cons rfl (fun K hK => ?_) (AllReadyH.cons rfl (fun K hK => ?_) AllReadyH.nil)
        · skip
          go_simp; (go_at_call 98; refine (CI.out _).mono ?_; rintro en ywr20x0 ⟨rfl, hb2⟩); have HM := Lib.hid (HM.out.below hb2); have HE := Lib.hid (HE.out.below hb2); refine hK.out _ _ (below_after hb2 hHeld) (fun hHeld2 => ?_); clear hb2; (clear hHeld; rename _ => hHeld; clear hK K; have hHeld : Below wr.heap.size wr _ := hHeld); (try simp only [Act.put, List.getElem_toArray, List.getElem_cons_succ, List.getElem_cons_zero, List.setIfInBounds_toArray, List.set_cons_zero, List.set_cons_succ])
          refine wpAnyH_ready (rs := [7, 8]) (by kernel_rfl) (by simp) ?_; refine AllReadyH.cons rfl (fun K hK => ?_) (AllReadyH.cons rfl (fun K hK => ?_) AllReadyH.nil)
          · skip
            go_simp; (go_at_call 97; refine (CQ.out _).mono ?_; rintro en ywr20x1 ⟨rfl, hb2⟩); have HM := Lib.hid (HM.out.below hb2); have HE := Lib.hid (HE.out.below hb2); refine hK.out _ _ (below_after hb2 hHeld) (fun hHeld2 => ?_); clear hb2; (clear hHeld; rename _ => hHeld; clear hK K; have hHeld : Below wr.heap.size wr _ := hHeld); (try simp only [Act.put, List.getElem_toArray, List.getElem_cons_succ, List.getElem_cons_zero, List.setIfInBounds_toArray, List.set_cons_zero, List.set_cons_succ])
            refine wpAnyH_ready (rs := [8]) (by kernel_rfl) (by simp) ?_; refine AllReadyH.cons rfl (fun K hK => ?_) AllReadyH.nil
            go_simp; obtain ⟨GA, hGA⟩ : ∃ G, ywr20x1.heap.size = G := ⟨_, rfl⟩; have le_A : wr.heap.size ≤ GA := by rw [← hGA]; exact Below.size hHeld
            have ne_A_M : GA ≠ GM := by have := HM.out.2.2; omega
            have ne_M_A : GM ≠ GA := Ne.symm ne_A_M
            have ne_A_E : GA ≠ GE := by have := HE.out.2.2; omega
            have ne_E_A : GE ≠ GA := Ne.symm ne_A_E
            have HM := Lib.hid (HM.out.below ((Below.refl _ _).alloc (Nat.le_refl _) (Obj.cells #[Value.int .i64 (0), Value.int .i64 (0)] 32))); have HE := Lib.hid (HE.out.below ((Below.refl _ _).alloc (Nat.le_refl _) (Obj.cells #[Value.int .i64 (0), Value.int .i64 (0)] 32))); skip
            have HA : Hid (Bk2 (ywr20x1.alloc (Obj.cells #[Value.int .i64 (0), Value.int .i64 (0)] 32)) GA 0 0) := by rw [← hGA]; exact bk2_new ywr20x1 0 0 _
            refine hK.out _ _ (Below.alloc hHeld (Below.size hHeld) _) (fun hHeld2 => ?_); (clear hHeld; rename _ => hHeld; clear hK K; have hHeld : Below wr.heap.size wr _ := hHeld); (try simp only [Act.put, List.getElem_toArray, List.getElem_cons_succ, List.getElem_cons_zero, List.setIfInBounds_toArray, List.set_cons_zero, List.set_cons_succ])
            rw [hGA]; clear hGA; obtain ⟨ywr20x2, hwx⟩ : ∃ wx, ywr20x1.alloc (Obj.cells #[Value.int .i64 (0), Value.int .i64 (0)] 32) = wx := ⟨_, rfl⟩; rw [hwx] at HM HE HA hHeld ⊢; clear hwx
            refine wpAnyH_ready (rs := [9]) (by kernel_rfl) (by simp) ?_; refine AllReadyH.cons rfl (fun K hK => ?_) AllReadyH.nil
            obtain ⟨⟨a0, a1⟩, ⟨f0, f1⟩, az⟩ := HA.out; go_simp; clear a0 f0 a1 f1 az
            have HM := Lib.hid ((HM.out.far ⟨GA, 0, none⟩ (.int .i64 R) (by show GM ≠ GA; exact ne_M_A)).far ⟨GA, 1, none⟩ (.int .i64 S) (by show GM ≠ GA; exact ne_M_A))
            have HE := Lib.hid ((HE.out.far ⟨GA, 0, none⟩ (.int .i64 R) (by show GE ≠ GA; exact ne_E_A)).far ⟨GA, 1, none⟩ (.int .i64 S) (by show GE ≠ GA; exact ne_E_A))
            have HA := Lib.hid ((HA.out.set0 R).set1 S)
            refine hK.out _ _ (Below.setCell (Below.setCell hHeld (p := ⟨GA, 0, none⟩) le_A _) (p := ⟨GA, 1, none⟩) le_A _) (fun hHeld2 => ?_); (clear hHeld; rename _ => hHeld; clear hK K; have hHeld : Below wr.heap.size wr _ := hHeld); (try simp only [Act.put, List.getElem_toArray, List.getElem_cons_succ, List.getElem_cons_zero, List.setIfInBounds_toArray, List.set_cons_zero, List.set_cons_succ])
            obtain ⟨ywr20x3, hwx⟩ : ∃ wx, (ywr20x2.setCell ⟨GA, 0, none⟩ (.int .i64 R)).setCell ⟨GA, 1, none⟩ (.int .i64 S) = wx := ⟨_, rfl⟩; rw [hwx] at HM HE HA hHeld ⊢; clear hwx
            refine wpAnyH_done (by kernel_rfl) ?_ _
            have le_A : w.heap.size ≤ GA := Nat.le_trans HB.out.size le_A
            have HB := Lib.hid (HB.out.trans (hHeld.mono HB.out.size))
            clear hHeld HXX
            obtain ⟨⟨qM0, qM1, qM2, qM3⟩, ⟨fM0, fM1, fM2, fM3⟩, zM⟩ := HM.out
            obtain ⟨⟨qE0, qE1⟩, ⟨fE0, fE1⟩, zE⟩ := HE.out
            obtain ⟨⟨qA0, qA1⟩, ⟨fA0, fA1⟩, zA⟩ := HA.out
            have hni := isS_at (by rw [HIL.out]; exact hlt) HIK.out hss
            obtain ⟨e1, e2⟩ := HNO.out hni
            have E1 := Lib.hid e1
            have E2 := Lib.hid e2
            clear hni e1 e2 hss
            go_wp2_with (go_at_call 62; refine (l01In_any _ _ _ _).mono ?_; rintro e wn ⟨rfl, rfl⟩)
            refine bodyPost_ret (v := .tuple #[.slice none 0 0, .int .i64 3]) (by simp (maxDischargeDepth := 8) [results, Try.results55, go_sem, *]) rfl ?_
            rw [E1.out, E2.out]
            exact rtnM_nil HB.out
          · skip
            go_simp; obtain ⟨GA, hGA⟩ : ∃ G, ywr20x0.heap.size = G := ⟨_, rfl⟩; have le_A : wr.heap.size ≤ GA := by rw [← hGA]; exact Below.size hHeld
            have ne_A_M : GA ≠ GM := by have := HM.out.2.2; omega
            have ne_M_A : GM ≠ GA := Ne.symm ne_A_M
            have ne_A_E : GA ≠ GE := by have := HE.out.2.2; omega
            have ne_E_A : GE ≠ GA := Ne.symm ne_A_E
            have HM := Lib.hid (HM.out.below ((Below.refl _ _).alloc (Nat.le_refl _) (Obj.cells #[Value.int .i64 (0), Value.int .i64 (0)] 32))); have HE := Lib.hid (HE.out.below ((Below.refl _ _).alloc (Nat.le_refl _) (Obj.cells #[Value.int .i64 (0), Value.int .i64 (0)] 32))); skip
            have HA : Hid (Bk2 (ywr20x0.alloc (Obj.cells #[Value.int .i64 (0), Value.int .i64 (0)] 32)) GA 0 0) := by rw [← hGA]; exact bk2_new ywr20x0 0 0 _
            refine hK.out _ _ (Below.alloc hHeld (Below.size hHeld) _) (fun hHeld2 => ?_); (clear hHeld; rename _ => hHeld; clear hK K; have hHeld : Below wr.heap.size wr _ := hHeld); (try simp only [Act.put, List.getElem_toArray, List.getElem_cons_succ, List.getElem_cons_zero, List.setIfInBounds_toArray, List.set_cons_zero, List.set_cons_succ])
            rw [hGA]; clear hGA; obtain ⟨ywr20x1, hwx⟩ : ∃ wx, ywr20x0.alloc (Obj.cells #[Value.int .i64 (0), Value.int .i64 (0)] 32) = wx := ⟨_, rfl⟩; rw [hwx] at HM HE HA hHeld ⊢; clear hwx
            refine wpAnyH_ready (rs := [7]) (by kernel_rfl) (by simp) ?_; refine AllReadyH.cons rfl (fun K hK => ?_) AllReadyH.nil
            go_simp; (go_at_call 97; refine (CQ.out _).mono ?_; rintro en ywr20x2 ⟨rfl, hb2⟩); have HM := Lib.hid (HM.out.below hb2); have HE := Lib.hid (HE.out.below hb2); have HA := Lib.hid (HA.out.below hb2); refine hK.out _ _ (below_after hb2 hHeld) (fun hHeld2 => ?_); clear hb2; (clear hHeld; rename _ => hHeld; clear hK K; have hHeld : Below wr.heap.size wr _ := hHeld); (try simp only [Act.put, List.getElem_toArray, List.getElem_cons_succ, List.getElem_cons_zero, List.setIfInBounds_toArray, List.set_cons_zero, List.set_cons_succ])
            refine wpAnyH_ready (rs := [9]) (by kernel_rfl) (by simp) ?_; refine AllReadyH.cons rfl (fun K hK => ?_) AllReadyH.nil
            obtain ⟨⟨a0, a1⟩, ⟨f0, f1⟩, az⟩ := HA.out; go_simp; clear a0 f0 a1 f1 az
            have HM := Lib.hid ((HM.out.far ⟨GA, 0, none⟩ (.int .i64 R) (by show GM ≠ GA; exact ne_M_A)).far ⟨GA, 1, none⟩ (.int .i64 S) (by show GM ≠ GA; exact ne_M_A))
            have HE := Lib.hid ((HE.out.far ⟨GA, 0, none⟩ (.int .i64 R) (by show GE ≠ GA; exact ne_E_A)).far ⟨GA, 1, none⟩ (.int .i64 S) (by show GE ≠ GA; exact ne_E_A))
            have HA := Lib.hid ((HA.out.set0 R).set1 S)
            refine hK.out _ _ (Below.setCell (Below.setCell hHeld (p := ⟨GA, 0, none⟩) le_A _) (p := ⟨GA, 1, none⟩) le_A _) (fun hHeld2 => ?_); (clear hHeld; rename _ => hHeld; clear hK K; have hHeld : Below wr.heap.size wr _ := hHeld); (try simp only [Act.put, List.getElem_toArray, List.getElem_cons_succ, List.getElem_cons_zero, List.setIfInBounds_toArray, List.set_cons_zero, List.set_cons_succ])
            obtain ⟨ywr20x3, hwx⟩ : ∃ wx, (ywr20x2.setCell ⟨GA, 0, none⟩ (.int .i64 R)).setCell ⟨GA, 1, none⟩ (.int .i64 S) = wx := ⟨_, rfl⟩; rw [hwx] at HM HE HA hHeld ⊢; clear hwx
            refine wpAnyH_done (by kernel_rfl) ?_ _
            have le_A : w.heap.size ≤ GA := Nat.le_trans HB.out.size le_A
            have HB := Lib.hid (HB.out.trans (hHeld.mono HB.out.size))
            clear hHeld HXX
            obtain ⟨⟨qM0, qM1, qM2, qM3⟩, ⟨fM0, fM1, fM2, fM3⟩, zM⟩ := HM.out
            obtain ⟨⟨qE0, qE1⟩, ⟨fE0, fE1⟩, zE⟩ := HE.out
            obtain ⟨⟨qA0, qA1⟩, ⟨fA0, fA1⟩, zA⟩ := HA.out
            have hni := isS_at (by rw [HIL.out]; exact hlt) HIK.out hss
            obtain ⟨e1, e2⟩ := HNO.out hni
            have E1 := Lib.hid e1
            have E2 := Lib.hid e2
            clear hni e1 e2 hss
            go_wp2_with (go_at_call 62; refine (l01In_any _ _ _ _).mono ?_; rintro e wn ⟨rfl, rfl⟩)
            refine bodyPost_ret (v := .tuple #[.slice none 0 0, .int .i64 3]) (by simp (maxDischargeDepth := 8) [results, Try.results55, go_sem, *]) rfl ?_
            rw [E1.out, E2.out]
            exact rtnM_nil HB.out
        · skip
          go_simp; obtain ⟨GA, hGA⟩ : ∃ G, wD20.heap.size = G := ⟨_, rfl⟩; have le_A : wr.heap.size ≤ GA := by rw [← hGA]; exact Below.size hHeld
          have ne_A_M : GA ≠ GM := by have := HM.out.2.2; omega
          have ne_M_A : GM ≠ GA := Ne.symm ne_A_M
          have ne_A_E : GA ≠ GE := by have := HE.out.2.2; omega
          have ne_E_A : GE ≠ GA := Ne.symm ne_A_E
          have HM := Lib.hid (HM.out.below ((Below.refl _ _).alloc (Nat.le_refl _) (Obj.cells #[Value.int .i64 (0), Value.int .i64 (0)] 32))); have HE := Lib.hid (HE.out.below ((Below.refl _ _).alloc (Nat.le_refl _) (Obj.cells #[Value.int .i64 (0), Value.int .i64 (0)] 32))); skip
          have HA : Hid (Bk2 (wD20.alloc (Obj.cells #[Value.int .i64 (0), Value.int .i64 (0)] 32)) GA 0 0) := by rw [← hGA]; exact bk2_new wD20 0 0 _
          refine hK.out _ _ (Below.alloc hHeld (Below.size hHeld) _) (fun hHeld2 => ?_); (clear hHeld; rename _ => hHeld; clear hK K; have hHeld : Below wr.heap.size wr _ := hHeld); (try simp only [Act.put, List.getElem_toArray, List.getElem_cons_succ, List.getElem_cons_zero, List.setIfInBounds_toArray, List.set_cons_zero, List.set_cons_succ])
          rw [hGA]; clear hGA; obtain ⟨ywr20x0, hwx⟩ : ∃ wx, wD20.alloc (Obj.cells #[Value.int .i64 (0), Value.int .i64 (0)] 32) = wx := ⟨_, rfl⟩; rw [hwx] at HM HE HA hHeld ⊢; clear hwx
          refine wpAnyH_ready (rs := [5]) (by kernel_rfl) (by simp) ?_; refine AllReadyH.cons rfl (fun K hK => ?_) AllReadyH.nil
          go_simp; (go_at_call 98; refine (CI.out _).mono ?_; rintro en ywr20x1 ⟨rfl, hb2⟩); have HM := Lib.hid (HM.out.below hb2); have HE := Lib.hid (HE.out.below hb2); have HA := Lib.hid (HA.out.below hb2); refine hK.out _ _ (below_after hb2 hHeld) (fun hHeld2 => ?_); clear hb2; (clear hHeld; rename _ => hHeld; clear hK K; have hHeld : Below wr.heap.size wr _ := hHeld); (try simp only [Act.put, List.getElem_toArray, List.getElem_cons_succ, List.getElem_cons_zero, List.setIfInBounds_toArray, List.set_cons_zero, List.set_cons_succ])
          refine wpAnyH_ready (rs := [7]) (by kernel_rfl) (by simp) ?_; refine AllReadyH.cons rfl (fun K hK => ?_) AllReadyH.nil
          go_simp; (go_at_call 97; refine (CQ.out _).mono ?_; rintro en ywr20x2 ⟨rfl, hb2⟩); have HM := Lib.hid (HM.out.below hb2); have HE := Lib.hid (HE.out.below hb2); have HA := Lib.hid (HA.out.below hb2); refine hK.out _ _ (below_after hb2 hHeld) (fun hHeld2 => ?_); clear hb2; (clear hHeld; rename _ => hHeld; clear hK K; have hHeld : Below wr.heap.size wr _ := hHeld); (try simp only [Act.put, List.getElem_toArray, List.getElem_cons_succ, List.getElem_cons_zero, List.setIfInBounds_toArray, List.set_cons_zero, List.set_cons_succ])
          refine wpAnyH_ready (rs := [9]) (by kernel_rfl) (by simp) ?_; refine AllReadyH.cons rfl (fun K hK => ?_) AllReadyH.nil
          obtain ⟨⟨a0, a1⟩, ⟨f0, f1⟩, az⟩ := HA.out; go_simp; clear a0 f0 a1 f1 az
          have HM := Lib.hid ((HM.out.far ⟨GA, 0, none⟩ (.int .i64 R) (by show GM ≠ GA; exact ne_M_A)).far ⟨GA, 1, none⟩ (.int .i64 S) (by show GM ≠ GA; exact ne_M_A))
          have HE := Lib.hid ((HE.out.far ⟨GA, 0, none⟩ (.int .i64 R) (by show GE ≠ GA; exact ne_E_A)).far ⟨GA, 1, none⟩ (.int .i64 S) (by show GE ≠ GA; exact ne_E_A))
          have HA := Lib.hid ((HA.out.set0 R).set1 S)
          refine hK.out _ _ (Below.setCell (Below.setCell hHeld (p := ⟨GA, 0, none⟩) le_A _) (p := ⟨GA, 1, none⟩) le_A _) (fun hHeld2 => ?_); (clear hHeld; rename _ => hHeld; clear hK K; have hHeld : Below wr.heap.size wr _ := hHeld); (try simp only [Act.put, List.getElem_toArray, List.getElem_cons_succ, List.getElem_cons_zero, List.setIfInBounds_toArray, List.set_cons_zero, List.set_cons_succ])
          obtain ⟨ywr20x3, hwx⟩ : ∃ wx, (ywr20x2.setCell ⟨GA, 0, none⟩ (.int .i64 R)).setCell ⟨GA, 1, none⟩ (.int .i64 S) = wx := ⟨_, rfl⟩; rw [hwx] at HM HE HA hHeld ⊢; clear hwx
          refine wpAnyH_done (by kernel_rfl) ?_ _
          have le_A : w.heap.size ≤ GA := Nat.le_trans HB.out.size le_A
          have HB := Lib.hid (HB.out.trans (hHeld.mono HB.out.size))
          clear hHeld HXX
          obtain ⟨⟨qM0, qM1, qM2, qM3⟩, ⟨fM0, fM1, fM2, fM3⟩, zM⟩ := HM.out
          obtain ⟨⟨qE0, qE1⟩, ⟨fE0, fE1⟩, zE⟩ := HE.out
          obtain ⟨⟨qA0, qA1⟩, ⟨fA0, fA1⟩, zA⟩ := HA.out
          have hni := isS_at (by rw [HIL.out]; exact hlt) HIK.out hss
          obtain ⟨e1, e2⟩ := HNO.out hni
          have E1 := Lib.hid e1
          have E2 := Lib.hid e2
          clear hni e1 e2 hss
          go_wp2_with (go_at_call 62; refine (l01In_any _ _ _ _).mono ?_; rintro e wn ⟨rfl, rfl⟩)
          refine bodyPost_ret (v := .tuple #[.slice none 0 0, .int .i64 3]) (by simp (maxDischargeDepth := 8) [results, Try.results55, go_sem, *]) rfl ?_
          rw [E1.out, E2.out]
          exact rtnM_nil HB.out
      · cases h2 : inB S (-1000) 1000
        · have hss : isS R S = false := by rw [HSS.out, h1, h2]; rfl
          have HXX : Hid (∀ W, Below wr.heap.size wr W → Bk4 W GM m0 m1 m2 m3 ∧ Bk2 W GE b0 b1) := fun W hW => ⟨HM.out.below hW, HE.out.below hW⟩
          go_wp2_with fail
          refine wp_region_held_drew (S := fun W => Below wr.heap.size wr W) (by kernel_rfl) ?_ (fun hHeld => ?_); focus ((try dsimp only); exact (Below.refl _ _).drew)
          have HM := Lib.hid (HM.out.below (Below.drew (Below.refl _ _)))
          have HE := Lib.hid (HE.out.below (Below.drew (Below.refl _ _)))
          have hHeld : Below wr.heap.size wr _ := hHeld
          obtain ⟨wD20, hwD20⟩ : ∃ wD, wr.drew = wD := ⟨_, rfl⟩
          rw [hwD20] at hHeld HM HE ⊢
          clear hwD20
          (refine wpAnyH_take (i := 0) (v := ?_) rfl (by kernel_rfl) (by kernel_rfl) (by kernel_rfl) (fun _ _ _ h => h) (Or.inl ⟨rfl, ?_⟩) (by assumption) ?_; rotate_left; focus (intro W hSw; (try dsimp only at hSw); have hxx := HXX.out _ hSw; obtain ⟨hxM, hxE⟩ := hxx; obtain ⟨k0, k1⟩ := HCPr.out _ hSw; have hgw := World.block_lt_of_cell? _ _ k0; obtain ⟨⟨iM0, iM1, iM2, iM3⟩, _, _⟩ := hxM; obtain ⟨⟨iE0, iE1⟩, _, _⟩ := hxE; go_simp; try (with_reducible rfl))); (try simp only [Act.put, List.getElem_toArray, List.getElem_cons_succ, List.getElem_cons_zero, List.setIfInBounds_toArray, List.set_cons_zero, List.set_cons_succ])
          (refine wpAnyH_take (i := 1) (v := ?_) rfl (by kernel_rfl) (by kernel_rfl) (by kernel_rfl) (fun _ _ _ h => h) (Or.inl ⟨rfl, ?_⟩) (by assumption) ?_; rotate_left; focus (intro W hSw; (try dsimp only at hSw); have hxx := HXX.out _ hSw; obtain ⟨hxM, hxE⟩ := hxx; obtain ⟨k0, k1⟩ := HCPr.out _ hSw; have hgw := World.block_lt_of_cell? _ _ k0; obtain ⟨⟨iM0, iM1, iM2, iM3⟩, _, _⟩ := hxM; obtain ⟨⟨iE0, iE1⟩, _, _⟩ := hxE; go_simp; try (with_reducible rfl))); (try simp only [Act.put, List.getElem_toArray, List.getElem_cons_succ, List.getElem_cons_zero, List.setIfInBounds_toArray, List.set_cons_zero, List.set_cons_succ])
          (refine wpAnyH_take (i := 2) (v := ?_) rfl (by kernel_rfl) (by kernel_rfl) (by kernel_rfl) (fun _ _ _ h => h) (Or.inl ⟨rfl, ?_⟩) (by assumption) ?_; rotate_left; focus (intro W hSw; (try dsimp only at hSw); have hxx := HXX.out _ hSw; obtain ⟨hxM, hxE⟩ := hxx; obtain ⟨k0, k1⟩ := HCPr.out _ hSw; have hgw := World.block_lt_of_cell? _ _ k0; obtain ⟨⟨iM0, iM1, iM2, iM3⟩, _, _⟩ := hxM; obtain ⟨⟨iE0, iE1⟩, _, _⟩ := hxE; go_simp; try (with_reducible rfl))); (try simp only [Act.put, List.getElem_toArray, List.getElem_cons_succ, List.getElem_cons_zero, List.setIfInBounds_toArray, List.set_cons_zero, List.set_cons_succ])
          (refine wpAnyH_take (i := 3) (v := ?_) rfl (by kernel_rfl) (by kernel_rfl) (by kernel_rfl) (fun _ _ _ h => h) (Or.inl ⟨rfl, ?_⟩) (by assumption) ?_; rotate_left; focus (intro W hSw; (try dsimp only at hSw); have hxx := HXX.out _ hSw; obtain ⟨hxM, hxE⟩ := hxx; obtain ⟨k0, k1⟩ := HCPr.out _ hSw; have hgw := World.block_lt_of_cell? _ _ k0; obtain ⟨⟨iM0, iM1, iM2, iM3⟩, _, _⟩ := hxM; obtain ⟨⟨iE0, iE1⟩, _, _⟩ := hxE; go_simp; try (with_reducible rfl))); (try simp only [Act.put, List.getElem_toArray, List.getElem_cons_succ, List.getElem_cons_zero, List.setIfInBounds_toArray, List.set_cons_zero, List.set_cons_succ])
          (refine wpAnyH_take (i := 4) (v := ?_) rfl (by kernel_rfl) (by kernel_rfl) (by kernel_rfl) (fun _ _ _ h => h) (Or.inl ⟨rfl, ?_⟩) (by assumption) ?_; rotate_left; focus (intro W hSw; (try dsimp only at hSw); have hxx := HXX.out _ hSw; obtain ⟨hxM, hxE⟩ := hxx; obtain ⟨k0, k1⟩ := HCPr.out _ hSw; have hgw := World.block_lt_of_cell? _ _ k0; obtain ⟨⟨iM0, iM1, iM2, iM3⟩, _, _⟩ := hxM; obtain ⟨⟨iE0, iE1⟩, _, _⟩ := hxE; go_simp; try (with_reducible rfl))); (try simp only [Act.put, List.getElem_toArray, List.getElem_cons_succ, List.getElem_cons_zero, List.setIfInBounds_toArray, List.set_cons_zero, List.set_cons_succ])
          (refine wpAnyH_take (i := 6) (v := ?_) rfl (by kernel_rfl) (by kernel_rfl) (by kernel_rfl) (fun _ _ _ h => h) (Or.inl ⟨rfl, ?_⟩) (by assumption) ?_; rotate_left; focus (intro W hSw; (try dsimp only at hSw); have hxx := HXX.out _ hSw; obtain ⟨hxM, hxE⟩ := hxx; obtain ⟨k0, k1⟩ := HCPr.out _ hSw; have hgw := World.block_lt_of_cell? _ _ k0; obtain ⟨⟨iM0, iM1, iM2, iM3⟩, _, _⟩ := hxM; obtain ⟨⟨iE0, iE1⟩, _, _⟩ := hxE; go_simp; try (with_reducible rfl))); (try simp only [Act.put, List.getElem_toArray, List.getElem_cons_succ, List.getElem_cons_zero, List.setIfInBounds_toArray, List.set_cons_zero, List.set_cons_succ])
          refine wpAnyH_ready (rs := [5, 8]) (by kernel_rfl) (by simp) ?_; refine AllReadyH.cons rfl (fun K hK => ?_) (AllReadyH.cons rfl (fun K hK => ?_) AllReadyH.nil)
          · skip
            go_simp; (go_at_call 98; refine (CI.out _).mono ?_; rintro en ywr20x0 ⟨rfl, hb2⟩); have HM := Lib.hid (HM.out.below hb2); have HE := Lib.hid (HE.out.below hb2); refine hK.out _ _ (below_after hb2 hHeld) (fun hHeld2 => ?_); clear hb2; (clear hHeld; rename _ => hHeld; clear hK K; have hHeld : Below wr.heap.size wr _ := hHeld); (try simp only [Act.put, List.getElem_toArray, List.getElem_cons_succ, List.getElem_cons_zero, List.setIfInBounds_toArray, List.set_cons_zero, List.set_cons_succ])
            refine wpAnyH_ready (rs := [7, 8]) (by kernel_rfl) (by simp) ?_; refine AllReadyH.cons rfl (fun K hK => ?_) (AllReadyH.cons rfl (fun K hK => ?_) AllReadyH.nil)
            · skip
              go_simp; (go_at_call 97; refine (CQ.out _).mono ?_; rintro en ywr20x1 ⟨rfl, hb2⟩); have HM := Lib.hid (HM.out.below hb2); have HE := Lib.hid (HE.out.below hb2); refine hK.out _ _ (below_after hb2 hHeld) (fun hHeld2 => ?_); clear hb2; (clear hHeld; rename _ => hHeld; clear hK K; have hHeld : Below wr.heap.size wr _ := hHeld); (try simp only [Act.put, List.getElem_toArray, List.getElem_cons_succ, List.getElem_cons_zero, List.setIfInBounds_toArray, List.set_cons_zero, List.set_cons_succ])
              refine wpAnyH_ready (rs := [8]) (by kernel_rfl) (by simp) ?_; refine AllReadyH.cons rfl (fun K hK => ?_) AllReadyH.nil
              go_simp; obtain ⟨GA, hGA⟩ : ∃ G, ywr20x1.heap.size = G := ⟨_, rfl⟩; have le_A : wr.heap.size ≤ GA := by rw [← hGA]; exact Below.size hHeld
              have ne_A_M : GA ≠ GM := by have := HM.out.2.2; omega
              have ne_M_A : GM ≠ GA := Ne.symm ne_A_M
              have ne_A_E : GA ≠ GE := by have := HE.out.2.2; omega
              have ne_E_A : GE ≠ GA := Ne.symm ne_A_E
              have HM := Lib.hid (HM.out.below ((Below.refl _ _).alloc (Nat.le_refl _) (Obj.cells #[Value.int .i64 (0), Value.int .i64 (0)] 32))); have HE := Lib.hid (HE.out.below ((Below.refl _ _).alloc (Nat.le_refl _) (Obj.cells #[Value.int .i64 (0), Value.int .i64 (0)] 32))); skip
              have HA : Hid (Bk2 (ywr20x1.alloc (Obj.cells #[Value.int .i64 (0), Value.int .i64 (0)] 32)) GA 0 0) := by rw [← hGA]; exact bk2_new ywr20x1 0 0 _
              refine hK.out _ _ (Below.alloc hHeld (Below.size hHeld) _) (fun hHeld2 => ?_); (clear hHeld; rename _ => hHeld; clear hK K; have hHeld : Below wr.heap.size wr _ := hHeld); (try simp only [Act.put, List.getElem_toArray, List.getElem_cons_succ, List.getElem_cons_zero, List.setIfInBounds_toArray, List.set_cons_zero, List.set_cons_succ])
              rw [hGA]; clear hGA; obtain ⟨ywr20x2, hwx⟩ : ∃ wx, ywr20x1.alloc (Obj.cells #[Value.int .i64 (0), Value.int .i64 (0)] 32) = wx := ⟨_, rfl⟩; rw [hwx] at HM HE HA hHeld ⊢; clear hwx
              refine wpAnyH_ready (rs := [9]) (by kernel_rfl) (by simp) ?_; refine AllReadyH.cons rfl (fun K hK => ?_) AllReadyH.nil
              obtain ⟨⟨a0, a1⟩, ⟨f0, f1⟩, az⟩ := HA.out; go_simp; clear a0 f0 a1 f1 az
              have HM := Lib.hid ((HM.out.far ⟨GA, 0, none⟩ (.int .i64 R) (by show GM ≠ GA; exact ne_M_A)).far ⟨GA, 1, none⟩ (.int .i64 S) (by show GM ≠ GA; exact ne_M_A))
              have HE := Lib.hid ((HE.out.far ⟨GA, 0, none⟩ (.int .i64 R) (by show GE ≠ GA; exact ne_E_A)).far ⟨GA, 1, none⟩ (.int .i64 S) (by show GE ≠ GA; exact ne_E_A))
              have HA := Lib.hid ((HA.out.set0 R).set1 S)
              refine hK.out _ _ (Below.setCell (Below.setCell hHeld (p := ⟨GA, 0, none⟩) le_A _) (p := ⟨GA, 1, none⟩) le_A _) (fun hHeld2 => ?_); (clear hHeld; rename _ => hHeld; clear hK K; have hHeld : Below wr.heap.size wr _ := hHeld); (try simp only [Act.put, List.getElem_toArray, List.getElem_cons_succ, List.getElem_cons_zero, List.setIfInBounds_toArray, List.set_cons_zero, List.set_cons_succ])
              obtain ⟨ywr20x3, hwx⟩ : ∃ wx, (ywr20x2.setCell ⟨GA, 0, none⟩ (.int .i64 R)).setCell ⟨GA, 1, none⟩ (.int .i64 S) = wx := ⟨_, rfl⟩; rw [hwx] at HM HE HA hHeld ⊢; clear hwx
              refine wpAnyH_done (by kernel_rfl) ?_ _
              have le_A : w.heap.size ≤ GA := Nat.le_trans HB.out.size le_A
              have HB := Lib.hid (HB.out.trans (hHeld.mono HB.out.size))
              clear hHeld HXX
              obtain ⟨⟨qM0, qM1, qM2, qM3⟩, ⟨fM0, fM1, fM2, fM3⟩, zM⟩ := HM.out
              obtain ⟨⟨qE0, qE1⟩, ⟨fE0, fE1⟩, zE⟩ := HE.out
              obtain ⟨⟨qA0, qA1⟩, ⟨fA0, fA1⟩, zA⟩ := HA.out
              have hni := isS_at (by rw [HIL.out]; exact hlt) HIK.out hss
              obtain ⟨e1, e2⟩ := HNO.out hni
              have E1 := Lib.hid e1
              have E2 := Lib.hid e2
              clear hni e1 e2 hss
              go_wp2_with (go_at_call 62; refine (l01In_any _ _ _ _).mono ?_; rintro e wn ⟨rfl, rfl⟩)
              refine bodyPost_ret (v := .tuple #[.slice none 0 0, .int .i64 3]) (by simp (maxDischargeDepth := 8) [results, Try.results55, go_sem, *]) rfl ?_
              rw [E1.out, E2.out]
              exact rtnM_nil HB.out
            · skip
              go_simp; obtain ⟨GA, hGA⟩ : ∃ G, ywr20x0.heap.size = G := ⟨_, rfl⟩; have le_A : wr.heap.size ≤ GA := by rw [← hGA]; exact Below.size hHeld
              have ne_A_M : GA ≠ GM := by have := HM.out.2.2; omega
              have ne_M_A : GM ≠ GA := Ne.symm ne_A_M
              have ne_A_E : GA ≠ GE := by have := HE.out.2.2; omega
              have ne_E_A : GE ≠ GA := Ne.symm ne_A_E
              have HM := Lib.hid (HM.out.below ((Below.refl _ _).alloc (Nat.le_refl _) (Obj.cells #[Value.int .i64 (0), Value.int .i64 (0)] 32))); have HE := Lib.hid (HE.out.below ((Below.refl _ _).alloc (Nat.le_refl _) (Obj.cells #[Value.int .i64 (0), Value.int .i64 (0)] 32))); skip
              have HA : Hid (Bk2 (ywr20x0.alloc (Obj.cells #[Value.int .i64 (0), Value.int .i64 (0)] 32)) GA 0 0) := by rw [← hGA]; exact bk2_new ywr20x0 0 0 _
              refine hK.out _ _ (Below.alloc hHeld (Below.size hHeld) _) (fun hHeld2 => ?_); (clear hHeld; rename _ => hHeld; clear hK K; have hHeld : Below wr.heap.size wr _ := hHeld); (try simp only [Act.put, List.getElem_toArray, List.getElem_cons_succ, List.getElem_cons_zero, List.setIfInBounds_toArray, List.set_cons_zero, List.set_cons_succ])
              rw [hGA]; clear hGA; obtain ⟨ywr20x1, hwx⟩ : ∃ wx, ywr20x0.alloc (Obj.cells #[Value.int .i64 (0), Value.int .i64 (0)] 32) = wx := ⟨_, rfl⟩; rw [hwx] at HM HE HA hHeld ⊢; clear hwx
              refine wpAnyH_ready (rs := [7]) (by kernel_rfl) (by simp) ?_; refine AllReadyH.cons rfl (fun K hK => ?_) AllReadyH.nil
              go_simp; (go_at_call 97; refine (CQ.out _).mono ?_; rintro en ywr20x2 ⟨rfl, hb2⟩); have HM := Lib.hid (HM.out.below hb2); have HE := Lib.hid (HE.out.below hb2); have HA := Lib.hid (HA.out.below hb2); refine hK.out _ _ (below_after hb2 hHeld) (fun hHeld2 => ?_); clear hb2; (clear hHeld; rename _ => hHeld; clear hK K; have hHeld : Below wr.heap.size wr _ := hHeld); (try simp only [Act.put, List.getElem_toArray, List.getElem_cons_succ, List.getElem_cons_zero, List.setIfInBounds_toArray, List.set_cons_zero, List.set_cons_succ])
              refine wpAnyH_ready (rs := [9]) (by kernel_rfl) (by simp) ?_; refine AllReadyH.cons rfl (fun K hK => ?_) AllReadyH.nil
              obtain ⟨⟨a0, a1⟩, ⟨f0, f1⟩, az⟩ := HA.out; go_simp; clear a0 f0 a1 f1 az
              have HM := Lib.hid ((HM.out.far ⟨GA, 0, none⟩ (.int .i64 R) (by show GM ≠ GA; exact ne_M_A)).far ⟨GA, 1, none⟩ (.int .i64 S) (by show GM ≠ GA; exact ne_M_A))
              have HE := Lib.hid ((HE.out.far ⟨GA, 0, none⟩ (.int .i64 R) (by show GE ≠ GA; exact ne_E_A)).far ⟨GA, 1, none⟩ (.int .i64 S) (by show GE ≠ GA; exact ne_E_A))
              have HA := Lib.hid ((HA.out.set0 R).set1 S)
              refine hK.out _ _ (Below.setCell (Below.setCell hHeld (p := ⟨GA, 0, none⟩) le_A _) (p := ⟨GA, 1, none⟩) le_A _) (fun hHeld2 => ?_); (clear hHeld; rename _ => hHeld; clear hK K; have hHeld : Below wr.heap.size wr _ := hHeld); (try simp only [Act.put, List.getElem_toArray, List.getElem_cons_succ, List.getElem_cons_zero, List.setIfInBounds_toArray, List.set_cons_zero, List.set_cons_succ])
              obtain ⟨ywr20x3, hwx⟩ : ∃ wx, (ywr20x2.setCell ⟨GA, 0, none⟩ (.int .i64 R)).setCell ⟨GA, 1, none⟩ (.int .i64 S) = wx := ⟨_, rfl⟩; rw [hwx] at HM HE HA hHeld ⊢; clear hwx
              refine wpAnyH_done (by kernel_rfl) ?_ _
              have le_A : w.heap.size ≤ GA := Nat.le_trans HB.out.size le_A
              have HB := Lib.hid (HB.out.trans (hHeld.mono HB.out.size))
              clear hHeld HXX
              obtain ⟨⟨qM0, qM1, qM2, qM3⟩, ⟨fM0, fM1, fM2, fM3⟩, zM⟩ := HM.out
              obtain ⟨⟨qE0, qE1⟩, ⟨fE0, fE1⟩, zE⟩ := HE.out
              obtain ⟨⟨qA0, qA1⟩, ⟨fA0, fA1⟩, zA⟩ := HA.out
              have hni := isS_at (by rw [HIL.out]; exact hlt) HIK.out hss
              obtain ⟨e1, e2⟩ := HNO.out hni
              have E1 := Lib.hid e1
              have E2 := Lib.hid e2
              clear hni e1 e2 hss
              go_wp2_with (go_at_call 62; refine (l01In_any _ _ _ _).mono ?_; rintro e wn ⟨rfl, rfl⟩)
              refine bodyPost_ret (v := .tuple #[.slice none 0 0, .int .i64 3]) (by simp (maxDischargeDepth := 8) [results, Try.results55, go_sem, *]) rfl ?_
              rw [E1.out, E2.out]
              exact rtnM_nil HB.out
          · skip
            go_simp; obtain ⟨GA, hGA⟩ : ∃ G, wD20.heap.size = G := ⟨_, rfl⟩; have le_A : wr.heap.size ≤ GA := by rw [← hGA]; exact Below.size hHeld
            have ne_A_M : GA ≠ GM := by have := HM.out.2.2; omega
            have ne_M_A : GM ≠ GA := Ne.symm ne_A_M
            have ne_A_E : GA ≠ GE := by have := HE.out.2.2; omega
            have ne_E_A : GE ≠ GA := Ne.symm ne_A_E
            have HM := Lib.hid (HM.out.below ((Below.refl _ _).alloc (Nat.le_refl _) (Obj.cells #[Value.int .i64 (0), Value.int .i64 (0)] 32))); have HE := Lib.hid (HE.out.below ((Below.refl _ _).alloc (Nat.le_refl _) (Obj.cells #[Value.int .i64 (0), Value.int .i64 (0)] 32))); skip
            have HA : Hid (Bk2 (wD20.alloc (Obj.cells #[Value.int .i64 (0), Value.int .i64 (0)] 32)) GA 0 0) := by rw [← hGA]; exact bk2_new wD20 0 0 _
            refine hK.out _ _ (Below.alloc hHeld (Below.size hHeld) _) (fun hHeld2 => ?_); (clear hHeld; rename _ => hHeld; clear hK K; have hHeld : Below wr.heap.size wr _ := hHeld); (try simp only [Act.put, List.getElem_toArray, List.getElem_cons_succ, List.getElem_cons_zero, List.setIfInBounds_toArray, List.set_cons_zero, List.set_cons_succ])
            rw [hGA]; clear hGA; obtain ⟨ywr20x0, hwx⟩ : ∃ wx, wD20.alloc (Obj.cells #[Value.int .i64 (0), Value.int .i64 (0)] 32) = wx := ⟨_, rfl⟩; rw [hwx] at HM HE HA hHeld ⊢; clear hwx
            refine wpAnyH_ready (rs := [5]) (by kernel_rfl) (by simp) ?_; refine AllReadyH.cons rfl (fun K hK => ?_) AllReadyH.nil
            go_simp; (go_at_call 98; refine (CI.out _).mono ?_; rintro en ywr20x1 ⟨rfl, hb2⟩); have HM := Lib.hid (HM.out.below hb2); have HE := Lib.hid (HE.out.below hb2); have HA := Lib.hid (HA.out.below hb2); refine hK.out _ _ (below_after hb2 hHeld) (fun hHeld2 => ?_); clear hb2; (clear hHeld; rename _ => hHeld; clear hK K; have hHeld : Below wr.heap.size wr _ := hHeld); (try simp only [Act.put, List.getElem_toArray, List.getElem_cons_succ, List.getElem_cons_zero, List.setIfInBounds_toArray, List.set_cons_zero, List.set_cons_succ])
            refine wpAnyH_ready (rs := [7]) (by kernel_rfl) (by simp) ?_; refine AllReadyH.cons rfl (fun K hK => ?_) AllReadyH.nil
            go_simp; (go_at_call 97; refine (CQ.out _).mono ?_; rintro en ywr20x2 ⟨rfl, hb2⟩); have HM := Lib.hid (HM.out.below hb2); have HE := Lib.hid (HE.out.below hb2); have HA := Lib.hid (HA.out.below hb2); refine hK.out _ _ (below_after hb2 hHeld) (fun hHeld2 => ?_); clear hb2; (clear hHeld; rename _ => hHeld; clear hK K; have hHeld : Below wr.heap.size wr _ := hHeld); (try simp only [Act.put, List.getElem_toArray, List.getElem_cons_succ, List.getElem_cons_zero, List.setIfInBounds_toArray, List.set_cons_zero, List.set_cons_succ])
            refine wpAnyH_ready (rs := [9]) (by kernel_rfl) (by simp) ?_; refine AllReadyH.cons rfl (fun K hK => ?_) AllReadyH.nil
            obtain ⟨⟨a0, a1⟩, ⟨f0, f1⟩, az⟩ := HA.out; go_simp; clear a0 f0 a1 f1 az
            have HM := Lib.hid ((HM.out.far ⟨GA, 0, none⟩ (.int .i64 R) (by show GM ≠ GA; exact ne_M_A)).far ⟨GA, 1, none⟩ (.int .i64 S) (by show GM ≠ GA; exact ne_M_A))
            have HE := Lib.hid ((HE.out.far ⟨GA, 0, none⟩ (.int .i64 R) (by show GE ≠ GA; exact ne_E_A)).far ⟨GA, 1, none⟩ (.int .i64 S) (by show GE ≠ GA; exact ne_E_A))
            have HA := Lib.hid ((HA.out.set0 R).set1 S)
            refine hK.out _ _ (Below.setCell (Below.setCell hHeld (p := ⟨GA, 0, none⟩) le_A _) (p := ⟨GA, 1, none⟩) le_A _) (fun hHeld2 => ?_); (clear hHeld; rename _ => hHeld; clear hK K; have hHeld : Below wr.heap.size wr _ := hHeld); (try simp only [Act.put, List.getElem_toArray, List.getElem_cons_succ, List.getElem_cons_zero, List.setIfInBounds_toArray, List.set_cons_zero, List.set_cons_succ])
            obtain ⟨ywr20x3, hwx⟩ : ∃ wx, (ywr20x2.setCell ⟨GA, 0, none⟩ (.int .i64 R)).setCell ⟨GA, 1, none⟩ (.int .i64 S) = wx := ⟨_, rfl⟩; rw [hwx] at HM HE HA hHeld ⊢; clear hwx
            refine wpAnyH_done (by kernel_rfl) ?_ _
            have le_A : w.heap.size ≤ GA := Nat.le_trans HB.out.size le_A
            have HB := Lib.hid (HB.out.trans (hHeld.mono HB.out.size))
            clear hHeld HXX
            obtain ⟨⟨qM0, qM1, qM2, qM3⟩, ⟨fM0, fM1, fM2, fM3⟩, zM⟩ := HM.out
            obtain ⟨⟨qE0, qE1⟩, ⟨fE0, fE1⟩, zE⟩ := HE.out
            obtain ⟨⟨qA0, qA1⟩, ⟨fA0, fA1⟩, zA⟩ := HA.out
            have hni := isS_at (by rw [HIL.out]; exact hlt) HIK.out hss
            obtain ⟨e1, e2⟩ := HNO.out hni
            have E1 := Lib.hid e1
            have E2 := Lib.hid e2
            clear hni e1 e2 hss
            go_wp2_with (go_at_call 62; refine (l01In_any _ _ _ _).mono ?_; rintro e wn ⟨rfl, rfl⟩)
            refine bodyPost_ret (v := .tuple #[.slice none 0 0, .int .i64 3]) (by simp (maxDischargeDepth := 8) [results, Try.results55, go_sem, *]) rfl ?_
            rw [E1.out, E2.out]
            exact rtnM_nil HB.out
        · have hss : isS R S = true := by rw [HSS.out, h1, h2]; rfl
          have HXX : Hid (∀ W, Below wr.heap.size wr W → Bk4 W GM m0 m1 m2 m3 ∧ Bk2 W GE b0 b1) := fun W hW => ⟨HM.out.below hW, HE.out.below hW⟩
          go_wp2_with fail
          refine wp_region_held_drew (S := fun W => Below wr.heap.size wr W) (by kernel_rfl) ?_ (fun hHeld => ?_); focus ((try dsimp only); exact (Below.refl _ _).drew)
          have HM := Lib.hid (HM.out.below (Below.drew (Below.refl _ _)))
          have HE := Lib.hid (HE.out.below (Below.drew (Below.refl _ _)))
          have hHeld : Below wr.heap.size wr _ := hHeld
          obtain ⟨wD20, hwD20⟩ : ∃ wD, wr.drew = wD := ⟨_, rfl⟩
          rw [hwD20] at hHeld HM HE ⊢
          clear hwD20
          (refine wpAnyH_take (i := 0) (v := ?_) rfl (by kernel_rfl) (by kernel_rfl) (by kernel_rfl) (fun _ _ _ h => h) (Or.inl ⟨rfl, ?_⟩) (by assumption) ?_; rotate_left; focus (intro W hSw; (try dsimp only at hSw); have hxx := HXX.out _ hSw; obtain ⟨hxM, hxE⟩ := hxx; obtain ⟨k0, k1⟩ := HCPr.out _ hSw; have hgw := World.block_lt_of_cell? _ _ k0; obtain ⟨⟨iM0, iM1, iM2, iM3⟩, _, _⟩ := hxM; obtain ⟨⟨iE0, iE1⟩, _, _⟩ := hxE; go_simp; try (with_reducible rfl))); (try simp only [Act.put, List.getElem_toArray, List.getElem_cons_succ, List.getElem_cons_zero, List.setIfInBounds_toArray, List.set_cons_zero, List.set_cons_succ])
          (refine wpAnyH_take (i := 1) (v := ?_) rfl (by kernel_rfl) (by kernel_rfl) (by kernel_rfl) (fun _ _ _ h => h) (Or.inl ⟨rfl, ?_⟩) (by assumption) ?_; rotate_left; focus (intro W hSw; (try dsimp only at hSw); have hxx := HXX.out _ hSw; obtain ⟨hxM, hxE⟩ := hxx; obtain ⟨k0, k1⟩ := HCPr.out _ hSw; have hgw := World.block_lt_of_cell? _ _ k0; obtain ⟨⟨iM0, iM1, iM2, iM3⟩, _, _⟩ := hxM; obtain ⟨⟨iE0, iE1⟩, _, _⟩ := hxE; go_simp; try (with_reducible rfl))); (try simp only [Act.put, List.getElem_toArray, List.getElem_cons_succ, List.getElem_cons_zero, List.setIfInBounds_toArray, List.set_cons_zero, List.set_cons_succ])
          (refine wpAnyH_take (i := 2) (v := ?_) rfl (by kernel_rfl) (by kernel_rfl) (by kernel_rfl) (fun _ _ _ h => h) (Or.inl ⟨rfl, ?_⟩) (by assumption) ?_; rotate_left; focus (intro W hSw; (try dsimp only at hSw); have hxx := HXX.out _ hSw; obtain ⟨hxM, hxE⟩ := hxx; obtain ⟨k0, k1⟩ := HCPr.out _ hSw; have hgw := World.block_lt_of_cell? _ _ k0; obtain ⟨⟨iM0, iM1, iM2, iM3⟩, _, _⟩ := hxM; obtain ⟨⟨iE0, iE1⟩, _, _⟩ := hxE; go_simp; try (with_reducible rfl))); (try simp only [Act.put, List.getElem_toArray, List.getElem_cons_succ, List.getElem_cons_zero, List.setIfInBounds_toArray, List.set_cons_zero, List.set_cons_succ])
          (refine wpAnyH_take (i := 3) (v := ?_) rfl (by kernel_rfl) (by kernel_rfl) (by kernel_rfl) (fun _ _ _ h => h) (Or.inl ⟨rfl, ?_⟩) (by assumption) ?_; rotate_left; focus (intro W hSw; (try dsimp only at hSw); have hxx := HXX.out _ hSw; obtain ⟨hxM, hxE⟩ := hxx; obtain ⟨k0, k1⟩ := HCPr.out _ hSw; have hgw := World.block_lt_of_cell? _ _ k0; obtain ⟨⟨iM0, iM1, iM2, iM3⟩, _, _⟩ := hxM; obtain ⟨⟨iE0, iE1⟩, _, _⟩ := hxE; go_simp; try (with_reducible rfl))); (try simp only [Act.put, List.getElem_toArray, List.getElem_cons_succ, List.getElem_cons_zero, List.setIfInBounds_toArray, List.set_cons_zero, List.set_cons_succ])
          (refine wpAnyH_take (i := 4) (v := ?_) rfl (by kernel_rfl) (by kernel_rfl) (by kernel_rfl) (fun _ _ _ h => h) (Or.inl ⟨rfl, ?_⟩) (by assumption) ?_; rotate_left; focus (intro W hSw; (try dsimp only at hSw); have hxx := HXX.out _ hSw; obtain ⟨hxM, hxE⟩ := hxx; obtain ⟨k0, k1⟩ := HCPr.out _ hSw; have hgw := World.block_lt_of_cell? _ _ k0; obtain ⟨⟨iM0, iM1, iM2, iM3⟩, _, _⟩ := hxM; obtain ⟨⟨iE0, iE1⟩, _, _⟩ := hxE; go_simp; try (with_reducible rfl))); (try simp only [Act.put, List.getElem_toArray, List.getElem_cons_succ, List.getElem_cons_zero, List.setIfInBounds_toArray, List.set_cons_zero, List.set_cons_succ])
          (refine wpAnyH_take (i := 6) (v := ?_) rfl (by kernel_rfl) (by kernel_rfl) (by kernel_rfl) (fun _ _ _ h => h) (Or.inl ⟨rfl, ?_⟩) (by assumption) ?_; rotate_left; focus (intro W hSw; (try dsimp only at hSw); have hxx := HXX.out _ hSw; obtain ⟨hxM, hxE⟩ := hxx; obtain ⟨k0, k1⟩ := HCPr.out _ hSw; have hgw := World.block_lt_of_cell? _ _ k0; obtain ⟨⟨iM0, iM1, iM2, iM3⟩, _, _⟩ := hxM; obtain ⟨⟨iE0, iE1⟩, _, _⟩ := hxE; go_simp; try (with_reducible rfl))); (try simp only [Act.put, List.getElem_toArray, List.getElem_cons_succ, List.getElem_cons_zero, List.setIfInBounds_toArray, List.set_cons_zero, List.set_cons_succ])
          refine wpAnyH_ready (rs := [5, 8]) (by kernel_rfl) (by simp) ?_; refine AllReadyH.cons rfl (fun K hK => ?_) (AllReadyH.cons rfl (fun K hK => ?_) AllReadyH.nil)
          · skip
            go_simp; (go_at_call 98; refine (CI.out _).mono ?_; rintro en ywr20x0 ⟨rfl, hb2⟩); have HM := Lib.hid (HM.out.below hb2); have HE := Lib.hid (HE.out.below hb2); refine hK.out _ _ (below_after hb2 hHeld) (fun hHeld2 => ?_); clear hb2; (clear hHeld; rename _ => hHeld; clear hK K; have hHeld : Below wr.heap.size wr _ := hHeld); (try simp only [Act.put, List.getElem_toArray, List.getElem_cons_succ, List.getElem_cons_zero, List.setIfInBounds_toArray, List.set_cons_zero, List.set_cons_succ])
            refine wpAnyH_ready (rs := [7, 8]) (by kernel_rfl) (by simp) ?_; refine AllReadyH.cons rfl (fun K hK => ?_) (AllReadyH.cons rfl (fun K hK => ?_) AllReadyH.nil)
            · skip
              go_simp; (go_at_call 97; refine (CQ.out _).mono ?_; rintro en ywr20x1 ⟨rfl, hb2⟩); have HM := Lib.hid (HM.out.below hb2); have HE := Lib.hid (HE.out.below hb2); refine hK.out _ _ (below_after hb2 hHeld) (fun hHeld2 => ?_); clear hb2; (clear hHeld; rename _ => hHeld; clear hK K; have hHeld : Below wr.heap.size wr _ := hHeld); (try simp only [Act.put, List.getElem_toArray, List.getElem_cons_succ, List.getElem_cons_zero, List.setIfInBounds_toArray, List.set_cons_zero, List.set_cons_succ])
              refine wpAnyH_ready (rs := [8]) (by kernel_rfl) (by simp) ?_; refine AllReadyH.cons rfl (fun K hK => ?_) AllReadyH.nil
              go_simp; obtain ⟨GA, hGA⟩ : ∃ G, ywr20x1.heap.size = G := ⟨_, rfl⟩; have le_A : wr.heap.size ≤ GA := by rw [← hGA]; exact Below.size hHeld
              have ne_A_M : GA ≠ GM := by have := HM.out.2.2; omega
              have ne_M_A : GM ≠ GA := Ne.symm ne_A_M
              have ne_A_E : GA ≠ GE := by have := HE.out.2.2; omega
              have ne_E_A : GE ≠ GA := Ne.symm ne_A_E
              have HM := Lib.hid (HM.out.below ((Below.refl _ _).alloc (Nat.le_refl _) (Obj.cells #[Value.int .i64 (0), Value.int .i64 (0)] 32))); have HE := Lib.hid (HE.out.below ((Below.refl _ _).alloc (Nat.le_refl _) (Obj.cells #[Value.int .i64 (0), Value.int .i64 (0)] 32))); skip
              have HA : Hid (Bk2 (ywr20x1.alloc (Obj.cells #[Value.int .i64 (0), Value.int .i64 (0)] 32)) GA 0 0) := by rw [← hGA]; exact bk2_new ywr20x1 0 0 _
              refine hK.out _ _ (Below.alloc hHeld (Below.size hHeld) _) (fun hHeld2 => ?_); (clear hHeld; rename _ => hHeld; clear hK K; have hHeld : Below wr.heap.size wr _ := hHeld); (try simp only [Act.put, List.getElem_toArray, List.getElem_cons_succ, List.getElem_cons_zero, List.setIfInBounds_toArray, List.set_cons_zero, List.set_cons_succ])
              rw [hGA]; clear hGA; obtain ⟨ywr20x2, hwx⟩ : ∃ wx, ywr20x1.alloc (Obj.cells #[Value.int .i64 (0), Value.int .i64 (0)] 32) = wx := ⟨_, rfl⟩; rw [hwx] at HM HE HA hHeld ⊢; clear hwx
              refine wpAnyH_ready (rs := [9]) (by kernel_rfl) (by simp) ?_; refine AllReadyH.cons rfl (fun K hK => ?_) AllReadyH.nil
              obtain ⟨⟨a0, a1⟩, ⟨f0, f1⟩, az⟩ := HA.out; go_simp; clear a0 f0 a1 f1 az
              have HM := Lib.hid ((HM.out.far ⟨GA, 0, none⟩ (.int .i64 R) (by show GM ≠ GA; exact ne_M_A)).far ⟨GA, 1, none⟩ (.int .i64 S) (by show GM ≠ GA; exact ne_M_A))
              have HE := Lib.hid ((HE.out.far ⟨GA, 0, none⟩ (.int .i64 R) (by show GE ≠ GA; exact ne_E_A)).far ⟨GA, 1, none⟩ (.int .i64 S) (by show GE ≠ GA; exact ne_E_A))
              have HA := Lib.hid ((HA.out.set0 R).set1 S)
              refine hK.out _ _ (Below.setCell (Below.setCell hHeld (p := ⟨GA, 0, none⟩) le_A _) (p := ⟨GA, 1, none⟩) le_A _) (fun hHeld2 => ?_); (clear hHeld; rename _ => hHeld; clear hK K; have hHeld : Below wr.heap.size wr _ := hHeld); (try simp only [Act.put, List.getElem_toArray, List.getElem_cons_succ, List.getElem_cons_zero, List.setIfInBounds_toArray, List.set_cons_zero, List.set_cons_succ])
              obtain ⟨ywr20x3, hwx⟩ : ∃ wx, (ywr20x2.setCell ⟨GA, 0, none⟩ (.int .i64 R)).setCell ⟨GA, 1, none⟩ (.int .i64 S) = wx := ⟨_, rfl⟩; rw [hwx] at HM HE HA hHeld ⊢; clear hwx
              refine wpAnyH_done (by kernel_rfl) ?_ _
              have le_A : w.heap.size ≤ GA := Nat.le_trans HB.out.size le_A
              have HBQ : Hid (Below w4.heap.size w4 _) := below_after hHeld HBr.out
              have HO := Lib.hid (HO0.out.below hHeld)
              have HB := Lib.hid (HB.out.trans (hHeld.mono HB.out.size))
              clear hHeld HXX
              have HBZ := HBQ
              obtain ⟨⟨qM0, qM1, qM2, qM3⟩, ⟨fM0, fM1, fM2, fM3⟩, zM⟩ := HM.out
              obtain ⟨⟨qE0, qE1⟩, ⟨fE0, fE1⟩, zE⟩ := HE.out
              obtain ⟨⟨qA0, qA1⟩, ⟨fA0, fA1⟩, zA⟩ := HA.out
              have hs9 := HBZ.out.size
              have HBX := Lib.hid (HBZ.out.alloc hs9 (.cells #[.int .i64 R, .int .i64 S] 32))
              go_wp2_with (first | (go_at_call 62; refine (l01In_any _ _ _ _).mono ?_; rintro e wn ⟨rfl, rfl⟩) | (at_builtin; refine wpList_app_F1m w4 (g := ywr20x3.heap.size) (a0 := R) (a1 := S) rfl _ _ rfl (World.ownsRow.alloc HO.out _) (by go_cell) (by go_cell) HBX.out rfl rfl (by omega) ?_; intro v' w9 hO9 hB9; have hO9 := Lib.hid hO9; have hB9 := Lib.hid hB9; obtain ⟨va', vc', rfl, _⟩ := own_viewF hO9.out))
              go_roundw
              case rel => exact ⟨k + 1, va', vc', by omega, rfl, by go_num, by rw [flat_take (by rw [HIL.out]; exact hlt) HIK.out]; exact hO9.out, inC_take (by rw [HIL.out]; exact hlt) HIK.out hss HIC.out, hB9.out⟩
              case measure => simp only [intOf]; omega
            · skip
              go_simp; obtain ⟨GA, hGA⟩ : ∃ G, ywr20x0.heap.size = G := ⟨_, rfl⟩; have le_A : wr.heap.size ≤ GA := by rw [← hGA]; exact Below.size hHeld
              have ne_A_M : GA ≠ GM := by have := HM.out.2.2; omega
              have ne_M_A : GM ≠ GA := Ne.symm ne_A_M
              have ne_A_E : GA ≠ GE := by have := HE.out.2.2; omega
              have ne_E_A : GE ≠ GA := Ne.symm ne_A_E
              have HM := Lib.hid (HM.out.below ((Below.refl _ _).alloc (Nat.le_refl _) (Obj.cells #[Value.int .i64 (0), Value.int .i64 (0)] 32))); have HE := Lib.hid (HE.out.below ((Below.refl _ _).alloc (Nat.le_refl _) (Obj.cells #[Value.int .i64 (0), Value.int .i64 (0)] 32))); skip
              have HA : Hid (Bk2 (ywr20x0.alloc (Obj.cells #[Value.int .i64 (0), Value.int .i64 (0)] 32)) GA 0 0) := by rw [← hGA]; exact bk2_new ywr20x0 0 0 _
              refine hK.out _ _ (Below.alloc hHeld (Below.size hHeld) _) (fun hHeld2 => ?_); (clear hHeld; rename _ => hHeld; clear hK K; have hHeld : Below wr.heap.size wr _ := hHeld); (try simp only [Act.put, List.getElem_toArray, List.getElem_cons_succ, List.getElem_cons_zero, List.setIfInBounds_toArray, List.set_cons_zero, List.set_cons_succ])
              rw [hGA]; clear hGA; obtain ⟨ywr20x1, hwx⟩ : ∃ wx, ywr20x0.alloc (Obj.cells #[Value.int .i64 (0), Value.int .i64 (0)] 32) = wx := ⟨_, rfl⟩; rw [hwx] at HM HE HA hHeld ⊢; clear hwx
              refine wpAnyH_ready (rs := [7]) (by kernel_rfl) (by simp) ?_; refine AllReadyH.cons rfl (fun K hK => ?_) AllReadyH.nil
              go_simp; (go_at_call 97; refine (CQ.out _).mono ?_; rintro en ywr20x2 ⟨rfl, hb2⟩); have HM := Lib.hid (HM.out.below hb2); have HE := Lib.hid (HE.out.below hb2); have HA := Lib.hid (HA.out.below hb2); refine hK.out _ _ (below_after hb2 hHeld) (fun hHeld2 => ?_); clear hb2; (clear hHeld; rename _ => hHeld; clear hK K; have hHeld : Below wr.heap.size wr _ := hHeld); (try simp only [Act.put, List.getElem_toArray, List.getElem_cons_succ, List.getElem_cons_zero, List.setIfInBounds_toArray, List.set_cons_zero, List.set_cons_succ])
              refine wpAnyH_ready (rs := [9]) (by kernel_rfl) (by simp) ?_; refine AllReadyH.cons rfl (fun K hK => ?_) AllReadyH.nil
              obtain ⟨⟨a0, a1⟩, ⟨f0, f1⟩, az⟩ := HA.out; go_simp; clear a0 f0 a1 f1 az
              have HM := Lib.hid ((HM.out.far ⟨GA, 0, none⟩ (.int .i64 R) (by show GM ≠ GA; exact ne_M_A)).far ⟨GA, 1, none⟩ (.int .i64 S) (by show GM ≠ GA; exact ne_M_A))
              have HE := Lib.hid ((HE.out.far ⟨GA, 0, none⟩ (.int .i64 R) (by show GE ≠ GA; exact ne_E_A)).far ⟨GA, 1, none⟩ (.int .i64 S) (by show GE ≠ GA; exact ne_E_A))
              have HA := Lib.hid ((HA.out.set0 R).set1 S)
              refine hK.out _ _ (Below.setCell (Below.setCell hHeld (p := ⟨GA, 0, none⟩) le_A _) (p := ⟨GA, 1, none⟩) le_A _) (fun hHeld2 => ?_); (clear hHeld; rename _ => hHeld; clear hK K; have hHeld : Below wr.heap.size wr _ := hHeld); (try simp only [Act.put, List.getElem_toArray, List.getElem_cons_succ, List.getElem_cons_zero, List.setIfInBounds_toArray, List.set_cons_zero, List.set_cons_succ])
              obtain ⟨ywr20x3, hwx⟩ : ∃ wx, (ywr20x2.setCell ⟨GA, 0, none⟩ (.int .i64 R)).setCell ⟨GA, 1, none⟩ (.int .i64 S) = wx := ⟨_, rfl⟩; rw [hwx] at HM HE HA hHeld ⊢; clear hwx
              refine wpAnyH_done (by kernel_rfl) ?_ _
              have le_A : w.heap.size ≤ GA := Nat.le_trans HB.out.size le_A
              have HBQ : Hid (Below w4.heap.size w4 _) := below_after hHeld HBr.out
              have HO := Lib.hid (HO0.out.below hHeld)
              have HB := Lib.hid (HB.out.trans (hHeld.mono HB.out.size))
              clear hHeld HXX
              have HBZ := HBQ
              obtain ⟨⟨qM0, qM1, qM2, qM3⟩, ⟨fM0, fM1, fM2, fM3⟩, zM⟩ := HM.out
              obtain ⟨⟨qE0, qE1⟩, ⟨fE0, fE1⟩, zE⟩ := HE.out
              obtain ⟨⟨qA0, qA1⟩, ⟨fA0, fA1⟩, zA⟩ := HA.out
              have hs9 := HBZ.out.size
              have HBX := Lib.hid (HBZ.out.alloc hs9 (.cells #[.int .i64 R, .int .i64 S] 32))
              go_wp2_with (first | (go_at_call 62; refine (l01In_any _ _ _ _).mono ?_; rintro e wn ⟨rfl, rfl⟩) | (at_builtin; refine wpList_app_F1m w4 (g := ywr20x3.heap.size) (a0 := R) (a1 := S) rfl _ _ rfl (World.ownsRow.alloc HO.out _) (by go_cell) (by go_cell) HBX.out rfl rfl (by omega) ?_; intro v' w9 hO9 hB9; have hO9 := Lib.hid hO9; have hB9 := Lib.hid hB9; obtain ⟨va', vc', rfl, _⟩ := own_viewF hO9.out))
              go_roundw
              case rel => exact ⟨k + 1, va', vc', by omega, rfl, by go_num, by rw [flat_take (by rw [HIL.out]; exact hlt) HIK.out]; exact hO9.out, inC_take (by rw [HIL.out]; exact hlt) HIK.out hss HIC.out, hB9.out⟩
              case measure => simp only [intOf]; omega
          · skip
            go_simp; obtain ⟨GA, hGA⟩ : ∃ G, wD20.heap.size = G := ⟨_, rfl⟩; have le_A : wr.heap.size ≤ GA := by rw [← hGA]; exact Below.size hHeld
            have ne_A_M : GA ≠ GM := by have := HM.out.2.2; omega
            have ne_M_A : GM ≠ GA := Ne.symm ne_A_M
            have ne_A_E : GA ≠ GE := by have := HE.out.2.2; omega
            have ne_E_A : GE ≠ GA := Ne.symm ne_A_E
            have HM := Lib.hid (HM.out.below ((Below.refl _ _).alloc (Nat.le_refl _) (Obj.cells #[Value.int .i64 (0), Value.int .i64 (0)] 32))); have HE := Lib.hid (HE.out.below ((Below.refl _ _).alloc (Nat.le_refl _) (Obj.cells #[Value.int .i64 (0), Value.int .i64 (0)] 32))); skip
            have HA : Hid (Bk2 (wD20.alloc (Obj.cells #[Value.int .i64 (0), Value.int .i64 (0)] 32)) GA 0 0) := by rw [← hGA]; exact bk2_new wD20 0 0 _
            refine hK.out _ _ (Below.alloc hHeld (Below.size hHeld) _) (fun hHeld2 => ?_); (clear hHeld; rename _ => hHeld; clear hK K; have hHeld : Below wr.heap.size wr _ := hHeld); (try simp only [Act.put, List.getElem_toArray, List.getElem_cons_succ, List.getElem_cons_zero, List.setIfInBounds_toArray, List.set_cons_zero, List.set_cons_succ])
            rw [hGA]; clear hGA; obtain ⟨ywr20x0, hwx⟩ : ∃ wx, wD20.alloc (Obj.cells #[Value.int .i64 (0), Value.int .i64 (0)] 32) = wx := ⟨_, rfl⟩; rw [hwx] at HM HE HA hHeld ⊢; clear hwx
            refine wpAnyH_ready (rs := [5]) (by kernel_rfl) (by simp) ?_; refine AllReadyH.cons rfl (fun K hK => ?_) AllReadyH.nil
            go_simp; (go_at_call 98; refine (CI.out _).mono ?_; rintro en ywr20x1 ⟨rfl, hb2⟩); have HM := Lib.hid (HM.out.below hb2); have HE := Lib.hid (HE.out.below hb2); have HA := Lib.hid (HA.out.below hb2); refine hK.out _ _ (below_after hb2 hHeld) (fun hHeld2 => ?_); clear hb2; (clear hHeld; rename _ => hHeld; clear hK K; have hHeld : Below wr.heap.size wr _ := hHeld); (try simp only [Act.put, List.getElem_toArray, List.getElem_cons_succ, List.getElem_cons_zero, List.setIfInBounds_toArray, List.set_cons_zero, List.set_cons_succ])
            refine wpAnyH_ready (rs := [7]) (by kernel_rfl) (by simp) ?_; refine AllReadyH.cons rfl (fun K hK => ?_) AllReadyH.nil
            go_simp; (go_at_call 97; refine (CQ.out _).mono ?_; rintro en ywr20x2 ⟨rfl, hb2⟩); have HM := Lib.hid (HM.out.below hb2); have HE := Lib.hid (HE.out.below hb2); have HA := Lib.hid (HA.out.below hb2); refine hK.out _ _ (below_after hb2 hHeld) (fun hHeld2 => ?_); clear hb2; (clear hHeld; rename _ => hHeld; clear hK K; have hHeld : Below wr.heap.size wr _ := hHeld); (try simp only [Act.put, List.getElem_toArray, List.getElem_cons_succ, List.getElem_cons_zero, List.setIfInBounds_toArray, List.set_cons_zero, List.set_cons_succ])
            refine wpAnyH_ready (rs := [9]) (by kernel_rfl) (by simp) ?_; refine AllReadyH.cons rfl (fun K hK => ?_) AllReadyH.nil
            obtain ⟨⟨a0, a1⟩, ⟨f0, f1⟩, az⟩ := HA.out; go_simp; clear a0 f0 a1 f1 az
            have HM := Lib.hid ((HM.out.far ⟨GA, 0, none⟩ (.int .i64 R) (by show GM ≠ GA; exact ne_M_A)).far ⟨GA, 1, none⟩ (.int .i64 S) (by show GM ≠ GA; exact ne_M_A))
            have HE := Lib.hid ((HE.out.far ⟨GA, 0, none⟩ (.int .i64 R) (by show GE ≠ GA; exact ne_E_A)).far ⟨GA, 1, none⟩ (.int .i64 S) (by show GE ≠ GA; exact ne_E_A))
            have HA := Lib.hid ((HA.out.set0 R).set1 S)
            refine hK.out _ _ (Below.setCell (Below.setCell hHeld (p := ⟨GA, 0, none⟩) le_A _) (p := ⟨GA, 1, none⟩) le_A _) (fun hHeld2 => ?_); (clear hHeld; rename _ => hHeld; clear hK K; have hHeld : Below wr.heap.size wr _ := hHeld); (try simp only [Act.put, List.getElem_toArray, List.getElem_cons_succ, List.getElem_cons_zero, List.setIfInBounds_toArray, List.set_cons_zero, List.set_cons_succ])
            obtain ⟨ywr20x3, hwx⟩ : ∃ wx, (ywr20x2.setCell ⟨GA, 0, none⟩ (.int .i64 R)).setCell ⟨GA, 1, none⟩ (.int .i64 S) = wx := ⟨_, rfl⟩; rw [hwx] at HM HE HA hHeld ⊢; clear hwx
            refine wpAnyH_done (by kernel_rfl) ?_ _
            have le_A : w.heap.size ≤ GA := Nat.le_trans HB.out.size le_A
            have HBQ : Hid (Below w4.heap.size w4 _) := below_after hHeld HBr.out
            have HO := Lib.hid (HO0.out.below hHeld)
            have HB := Lib.hid (HB.out.trans (hHeld.mono HB.out.size))
            clear hHeld HXX
            have HBZ := HBQ
            obtain ⟨⟨qM0, qM1, qM2, qM3⟩, ⟨fM0, fM1, fM2, fM3⟩, zM⟩ := HM.out
            obtain ⟨⟨qE0, qE1⟩, ⟨fE0, fE1⟩, zE⟩ := HE.out
            obtain ⟨⟨qA0, qA1⟩, ⟨fA0, fA1⟩, zA⟩ := HA.out
            have hs9 := HBZ.out.size
            have HBX := Lib.hid (HBZ.out.alloc hs9 (.cells #[.int .i64 R, .int .i64 S] 32))
            go_wp2_with (first | (go_at_call 62; refine (l01In_any _ _ _ _).mono ?_; rintro e wn ⟨rfl, rfl⟩) | (at_builtin; refine wpList_app_F1m w4 (g := ywr20x3.heap.size) (a0 := R) (a1 := S) rfl _ _ rfl (World.ownsRow.alloc HO.out _) (by go_cell) (by go_cell) HBX.out rfl rfl (by omega) ?_; intro v' w9 hO9 hB9; have hO9 := Lib.hid hO9; have hB9 := Lib.hid hB9; obtain ⟨va', vc', rfl, _⟩ := own_viewF hO9.out))
            go_roundw
            case rel => exact ⟨k + 1, va', vc', by omega, rfl, by go_num, by rw [flat_take (by rw [HIL.out]; exact hlt) HIK.out]; exact hO9.out, inC_take (by rw [HIL.out]; exact hlt) HIK.out hss HIC.out, hB9.out⟩
            case measure => simp only [intOf]; omega
    · skip
      have hkn : k = n := by omega
      subst hkn
      have hta : is.take k = is := List.take_of_length_le (by rw [HIL.out]; omega)
      have hci := HIC.out
      rw [hta] at hci
      obtain ⟨e1, e2⟩ := HYE.out hci
      have E1 := Lib.hid e1
      have E2 := Lib.hid e2
      have hO := HO.out
      rw [hta] at hO
      obtain ⟨hn1, _, hv⟩ := LV.of_own hO HIL.out (by omega)
      obtain ⟨g', e3, hg', hc'⟩ := hv (by omega)
      subst e3
      have HH := Lib.hid (l09Hull_some g' k vc is wr (by omega) HIL.out (by omega) hg' hc' (fun j hj => by have := inC_pt hci (by rw [HIL.out]; omega) j; rwa [pl_lt (by rw [HIL.out]; exact hj)] at this))
      rw [HCX.out.2, HCX.out.1] at HH
      have q3 : ¬ (k : Int) < (k : Int) := by omega
      have hsr := HB.out.size
      clear hta hci e1 e2 hO hn1 hv hc' hg'
      obtain ⟨⟨qM0, qM1, qM2, qM3⟩, ⟨fM0, fM1, fM2, fM3⟩, zM⟩ := HM.out
      obtain ⟨⟨qE0, qE1⟩, ⟨fE0, fE1⟩, zE⟩ := HE.out
      go_wp2_with (first | (go_at_call 99; refine HH.out.mono ?_; rintro e w9 ⟨v9, rfl, ho9, hb9⟩))
      refine bodyPost_ret (v := .tuple #[v9, .int .i64 0]) (by simp (maxDischargeDepth := 8) [results, Try.results55, go_sem, *]) rfl ?_
      rw [E1.out, E2.out]
      exact ⟨_, rfl, by rw [HRLN.out]; exact own_lower ho9 hsr, below_after hb9 HB.out⟩
theorem spec_MapPolygon_any (m0 m1 m2 m3 b0 b1 : Int) (a : Option Addr) (n cap : Nat) (ps : List (Int × Int)) (w : World) (h : LV w a n ps) :
    Calls Try.prog 55 #[.agg #[.int .i64 m0, .int .i64 m1, .int .i64 m2, .int .i64 m3], .slice a n cap, .agg #[.int .i64 b0, .int .i64 b1]] w (RetPC w (mpL m0 m1 m2 m3 b0 b1 ps) (mpC m0 m1 m2 m3 b0 b1 ps)) := by
  cases hk : mpOk m0 m1 m2 m3 b0 b1 ps
  · rw [(mp_no1 hk).1, (mp_no1 hk).2]
    exact spec_Map_no1 m0 m1 m2 m3 b0 b1 a n cap ps w h hk
  · cases hu : mpU m0 m1 m2 m3
    · rw [(mp_no5 hk hu).1, (mp_no5 hk hu).2]
      exact spec_Map_no5 m0 m1 m2 m3 b0 b1 a n cap ps w h hk hu
    · exact spec_Map_yes m0 m1 m2 m3 b0 b1 a n cap ps w h hk hu
end Go.Proofs.Ytmjhejmkmdgikaa
