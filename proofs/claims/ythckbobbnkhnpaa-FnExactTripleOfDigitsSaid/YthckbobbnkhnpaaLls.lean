/-
  Lists of lists of numbers that lie in blocks of their own, and the laws' helpers on them (own work).
-/
import Derived.Test.YthckbobbnkhnpaaMark
namespace Go.Proofs.Ythckbobbnkhnpaa
open Go.ChangeShapes Go.WideShapes Go.ChangeAt Go.RowKit
set_option linter.unusedVariables false
set_option linter.unusedSimpArgs false
set_option maxRecDepth 100000

/-- A list of lists: its row, and each inner list, in blocks from B on, no two inner ones in one block. -/
def OwnSS (B : Nat) (w : World) (v : Value) (vs : List Value) (xss : List (List Int)) : Prop :=
  w.ownsRow B 34 1 v xss.length vs ∧ (∀ i, i < xss.length → OwnI B w (vs.getD i .nilIface) (xss.getD i [])) ∧
  (∀ i j k, i < xss.length → j < xss.length → i ≠ j → (vs.getD i .nilIface).ownBlock = some k → (vs.getD j .nilIface).ownBlock ≠ some k)
theorem OwnSS.below {B : Nat} {w w' : World} {v : Value} {vs : List Value} {xss : List (List Int)} (h : OwnSS B w v vs xss) (hb : Below w.heap.size w w') : OwnSS B w' v vs xss :=
  ⟨own_below h.1 hb, fun i hi => (h.2.1 i hi).below hb, h.2.2⟩
theorem OwnSS.view {B : Nat} {w : World} {v : Value} {vs : List Value} {xss : List (List Int)} (h : OwnSS B w v vs xss) :
    ∃ (a : Option Addr) (cap : Nat), v = .slice a xss.length cap ∧ (0 < xss.length → ∃ g, a = some ⟨g, 0, none⟩ ∧ B ≤ g ∧ g < w.heap.size ∧ (∀ j, j < xss.length → w.cell? ⟨g, j, none⟩ = some (vs.getD j .nilIface))) := by
  have h0 := h.1
  have hl : vs.length = xss.length := by have := h0.1; omega
  rcases h.1.2 with ⟨rfl, hn⟩ | ⟨g, cap, cur, rfl, hb, hg, _⟩
  · exact ⟨none, 0, by rw [hn], fun hp => by omega⟩
  · refine ⟨some ⟨g, 0, none⟩, cap, rfl, fun _ => ⟨g, rfl, hb, (Array.getElem?_eq_some_iff.1 hg).1, fun j hj => ?_⟩⟩
    have := World.ownsRow.cellAt h0 j (by omega)
    rw [this, List.getElem?_eq_getElem (by omega)]
    simp [List.getD, show j < vs.length from by omega]
set_option maxHeartbeats 1600000 in
theorem eqInt64SS_same (B1 B2 : Nat) (v1 v2 : Value) (vs1 vs2 : List Value) (xss : List (List Int)) (w : World) (h1 : OwnSS B1 w v1 vs1 xss) (h2 : OwnSS B2 w v2 vs2 xss) (hx : xss.length ≤ 140737488351232) (hxx : ∀ i, (xss.getD i []).length ≤ 140737488351232) :
    Calls Try.prog 10 #[v1, v2] w fun e w' => e = .returned (.bool true) ∧ Below w.heap.size w w' := by
  obtain ⟨a1, c1, rfl, f1⟩ := h1.view
  obtain ⟨a2, c2, rfl, f2⟩ := h2.view
  have H1 := Lib.hid h1
  have H2 := Lib.hid h2
  have HXX := Lib.hid hxx
  obtain ⟨n, hn⟩ : ∃ n, xss.length = n := ⟨_, rfl⟩
  have HN := Lib.hid hn
  rw [hn] at f1 f2 hx ⊢
  clear h1 h2 hxx hn
  by_cases hz : n = 0
  · subst hz
    clear f1 f2
    go_enter Try.func10, Try.ntmps10
    go_wp2
    refine wp_loop_rounds 1 ?_
    rw [rounds_succ]
    go_wp2
    go_ret
    exact ⟨rfl, by (repeat' (first | (with_reducible exact Below.refl _ _) | (with_reducible refine Below.alloc ?_ ?_ _) | (with_reducible refine Below.setCell ?_ ?_ _) | (with_reducible refine Below.drew ?_) | (with_reducible refine below_drewN ?_ _) | (with_reducible assumption) | (with_reducible refine below_after (by with_reducible assumption) ?_) | go_size))⟩
  · obtain ⟨g1, rfl, _, hg1, hc1⟩ := f1 (by omega)
    obtain ⟨g2, rfl, _, hg2, hc2⟩ := f2 (by omega)
    have HC1 := Lib.hid hc1
    have HC2 := Lib.hid hc2
    clear f1 f2 hc1 hc2 hz
    go_enter Try.func10, Try.ntmps10
    go_wp2
    go_loopw [5] (fun i wr => ∃ k : Nat, k ≤ n ∧ i = .int .i64 k ∧ Below w.heap.size w wr) (fun i _ => n - (intOf i).toNat)
    case atStart => exact ⟨0, by omega, rfl, Below.refl _ _⟩
    case round =>
      obtain ⟨k, hk, rfl, hbel⟩ := hrel
      by_cases hlt : k < n
      · have e1 := (hbel.cell (p := ⟨g1, k, none⟩) hg1).trans (HC1.out k (by omega))
        have e2 := (hbel.cell (p := ⟨g2, k, none⟩) hg2).trans (HC2.out k (by omega))
        have o1 := (H1.out.2.1 k (by rw [HN.out]; omega)).below hbel
        have o2 := (H2.out.2.1 k (by rw [HN.out]; omega)).below hbel
        have hxl := HXX.out k
        obtain ⟨X, hX⟩ : ∃ X, xss.getD k [] = X := ⟨_, rfl⟩
        rw [hX] at o1 o2 hxl
        obtain ⟨u1, hu1⟩ : ∃ u, vs1.getD k .nilIface = u := ⟨_, rfl⟩
        obtain ⟨u2, hu2⟩ : ∃ u, vs2.getD k .nilIface = u := ⟨_, rfl⟩
        rw [hu1] at e1 o1
        rw [hu2] at e2 o2
        obtain ⟨p1, q1, rfl, _⟩ := own_view o1
        obtain ⟨p2, q2, rfl, _⟩ := own_view o2
        obtain ⟨m, hm⟩ : ∃ m, X.length = m := ⟨_, rfl⟩
        rw [hm] at e1 e2 o1 o2 hxl
        have O1 := Lib.hid o1
        have O2 := Lib.hid o2
        have HM := Lib.hid hm
        clear hX hu1 hu2 o1 o2 hm
        have i0 : (0 : Int) ≤ (k : Int) := by omega
        have i1 : (k : Int) < (n : Int) := by omega
        go_wp2
        go_region_with (go_at_call 19; refine (eqInt64S_same _ _ _ _ X _ (O1.out.below (by (repeat' (first | (with_reducible exact Below.refl _ _) | (with_reducible refine Below.alloc ?_ ?_ _) | (with_reducible refine Below.setCell ?_ ?_ _) | (with_reducible refine Below.drew ?_) | (with_reducible refine below_drewN ?_ _) | (with_reducible assumption) | (with_reducible refine below_after (by with_reducible assumption) ?_) | go_size)))) (O2.out.below (by (repeat' (first | (with_reducible exact Below.refl _ _) | (with_reducible refine Below.alloc ?_ ?_ _) | (with_reducible refine Below.setCell ?_ ?_ _) | (with_reducible refine Below.drew ?_) | (with_reducible refine below_drewN ?_ _) | (with_reducible assumption) | (with_reducible refine below_after (by with_reducible assumption) ?_) | go_size)))) (by rw [HM.out]; omega)).mono ?_; rintro e wn ⟨rfl, hbn⟩)
        all_goals
          go_wp2
          go_roundw
          case rel => exact ⟨k + 1, by omega, by go_num, below_after hbn (by (repeat' (first | (with_reducible exact Below.refl _ _) | (with_reducible refine Below.alloc ?_ ?_ _) | (with_reducible refine Below.setCell ?_ ?_ _) | (with_reducible refine Below.drew ?_) | (with_reducible refine below_drewN ?_ _) | (with_reducible assumption) | (with_reducible refine below_after (by with_reducible assumption) ?_) | go_size)))⟩
          case measure => simp [intOf]; omega
      · have hge : n ≤ k := by omega
        clear hlt
        go_wp2
        go_ret
        exact ⟨rfl, by (repeat' (first | (with_reducible exact Below.refl _ _) | (with_reducible refine Below.alloc ?_ ?_ _) | (with_reducible refine Below.setCell ?_ ?_ _) | (with_reducible refine Below.drew ?_) | (with_reducible refine below_drewN ?_ _) | (with_reducible assumption) | (with_reducible refine below_after (by with_reducible assumption) ?_) | go_size))⟩
def totL : List (List Int) → Nat
  | [] => 0
  | X :: t => X.length + totL t
def mkSS : Int → List (List Int) → List (List Int)
  | _, [] => []
  | k, X :: t => marks k X.length :: mkSS (k + X.length) t
theorem totL_append : ∀ (l m : List (List Int)), totL (l ++ m) = totL l + totL m
  | [], m => by simp [totL]
  | X :: t, m => by
    show X.length + totL (t ++ m) = X.length + totL t + totL m
    rw [totL_append t m]; omega
theorem totL_take (xss : List (List Int)) (k : Nat) : totL (xss.take k) ≤ totL xss := by
  have := totL_append (xss.take k) (xss.drop k)
  rw [List.take_append_drop] at this
  omega
theorem mkSS_len : ∀ (xss : List (List Int)) (k : Int), (mkSS k xss).length = xss.length
  | [], _ => rfl
  | X :: t, k => by
    show (mkSS (k + X.length) t).length + 1 = t.length + 1
    rw [mkSS_len t]
theorem mkSS_snoc : ∀ (l : List (List Int)) (k : Int) (X : List Int), mkSS k (l ++ [X]) = mkSS k l ++ [marks (k + totL l) X.length]
  | [], k, X => by simp [mkSS, totL]
  | Y :: t, k, X => by
    show marks k Y.length :: mkSS (k + Y.length) (t ++ [X]) = marks k Y.length :: (mkSS (k + Y.length) t ++ [marks (k + ((Y.length + totL t : Nat) : Int)) X.length])
    rw [mkSS_snoc t]
    congr 3
    congr 1
    omega
/-- The lists, the first k of them marked. -/
def mkTo (k0 : Int) (xss : List (List Int)) (k : Nat) : List (List Int) := mkSS k0 (xss.take k) ++ xss.drop k
theorem mkTo_len (k0 : Int) (xss : List (List Int)) (k : Nat) : (mkTo k0 xss k).length = xss.length := by
  unfold mkTo
  rw [List.length_append, mkSS_len, List.length_take, List.length_drop]; omega
theorem take_snoc {α : Type} (d : α) (xss : List α) (k : Nat) (h : k < xss.length) : xss.take (k + 1) = xss.take k ++ [xss.getD k d] := by
  rw [List.take_succ_eq_append_getElem h]
  simp [List.getD, h]
theorem mkTo_at (k0 : Int) (xss : List (List Int)) (k : Nat) (h : k < xss.length) : (mkTo k0 xss k).getD k [] = xss.getD k [] := by
  have hl : (mkSS k0 (xss.take k)).length = k := by rw [mkSS_len, List.length_take]; omega
  unfold mkTo
  rw [List.getD, List.getD, List.getElem?_append_right (by omega), hl, Nat.sub_self, List.getElem?_drop, Nat.add_zero]
theorem mkTo_succ (k0 : Int) (xss : List (List Int)) (k : Nat) (h : k < xss.length) : mkTo k0 xss (k + 1) = (mkTo k0 xss k).set k (marks (k0 + totL (xss.take k)) (xss.getD k []).length) := by
  unfold mkTo
  rw [take_snoc [] xss k h, mkSS_snoc, List.set_append_right _ _ (by rw [mkSS_len, List.length_take]; omega), mkSS_len, List.length_take, show k - min k xss.length = 0 from by omega, List.drop_eq_getElem_cons h, List.set_cons_zero, List.append_assoc]
  rfl
theorem totL_snoc (xss : List (List Int)) (k : Nat) (h : k < xss.length) : totL (xss.take (k + 1)) = totL (xss.take k) + (xss.getD k []).length := by
  rw [take_snoc [] xss k h, totL_append]; simp [totL]
theorem OwnSS.set {B : Nat} {w w' : World} {v : Value} {vs : List Value} {xss : List (List Int)} {k : Nat} {Y : List Int} (h : OwnSS B w v vs xss) (hk : k < xss.length) (hY : OwnI B w' (vs.getD k .nilIface) Y) (hg : w.grownBy w' (vs.getD k .nilIface).ownBlock) : OwnSS B w' v vs (xss.set k Y) := by
  refine ⟨?_, fun i hi => ?_, fun i j b hi hj hne hb => h.2.2 i j b (by simpa using hi) (by simpa using hj) hne hb⟩
  · rw [List.length_set]
    refine World.ownsRow.kept h.1 hg ?_
    rcases h.1.2 with ⟨hv, _⟩ | ⟨g, cap, cur, hv, _, hgg, _⟩
    · left; rw [hv]; rfl
    · right
      rw [hv]
      intro e
      rcases (h.2.1 k hk).2 with ⟨hv2, _⟩ | ⟨g2, cap2, cur2, hv2, _, hgg2, _⟩
      · rw [hv2] at e; cases e
      · rw [hv2] at e
        have e2 : g = g2 := by simpa [Value.ownBlock] using e
        rw [e2, hgg2] at hgg
        cases hgg
  · rw [List.length_set] at hi
    by_cases hik : i = k
    · subst hik
      rw [show (xss.set i Y).getD i [] = Y from by simp [List.getD, hi]]
      exact hY
    · rw [show (xss.set k Y).getD i [] = xss.getD i [] from by simp [List.getD, List.getElem?_set, Ne.symm hik]]
      refine World.ownsRow.kept (h.2.1 i hi) hg ?_
      cases hb : (vs.getD i .nilIface).ownBlock with
      | none => exact .inl rfl
      | some b => exact .inr (fun e => h.2.2 i k b hi hk hik hb e.symm)
theorem mkSS_at : ∀ (xss : List (List Int)) (k0 : Int) (k : Nat), k < xss.length → (mkSS k0 xss).getD k [] = marks (k0 + totL (xss.take k)) (xss.getD k []).length
  | [], k0, k, h => by simp at h
  | X :: t, k0, 0, h => by
    show marks k0 X.length = marks (k0 + ((0 : Nat) : Int)) X.length
    rw [show k0 + ((0 : Nat) : Int) = k0 from by omega]
  | X :: t, k0, k + 1, h => by
    show (mkSS (k0 + X.length) t).getD k [] = marks (k0 + ((X.length + totL (t.take k) : Nat) : Int)) (t.getD k []).length
    rw [mkSS_at t _ k (by simpa using h)]
    congr 1
    omega
end Go.Proofs.Ythckbobbnkhnpaa
