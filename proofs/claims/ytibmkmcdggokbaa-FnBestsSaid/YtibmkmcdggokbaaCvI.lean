/-
  Contracts of chapter 1's ConvergentsOf in the program (own work).
-/
import Derived.Test.YtibmkmcdggokbaaCvS
import Derived.Deep.DeepCutAuto
import Derived.Deep.RegionWith
namespace Go.Proofs.Ytibmkmcdggokbaa
open Go.ChangeShapes Go.WideShapes Go.ChangeAt Go.RowKit
set_option linter.unusedVariables false
set_option linter.unusedSimpArgs false

theorem own_setCell {w : World} {base : Nat} {e : TypeId} {size : Nat} {v : Value} {n : Nat} {xs : List Value} (h : w.ownsRow base e size v n xs) (b o : Nat) (u : Value) (hne : b < base) : (w.setCell ⟨b, o, none⟩ u).ownsRow base e size v n xs := by
  refine h.kept (row := some b) ⟨rfl, rfl, rfl, by simp, fun k _ hk => heap_setCell_other w ⟨b, o, none⟩ k u (fun e => hk (by simp [e]))⟩ ?_
  cases h0 : v.ownBlock with
  | none => exact .inl rfl
  | some k => right; have := (h.lt k h0).1; simp; omega
/-- The two points of the loop's own, as they stand in a world. -/
def TwoV (b : Nat) (W : World) (X0 Y0 X1 Y1 : Int) : Prop := W.cell? ⟨b, 0, none⟩ = some (.int .i64 X0) ∧ W.cell? ⟨b, 1, none⟩ = some (.int .i64 Y0) ∧ W.cell? ⟨b + 1, 0, none⟩ = some (.int .i64 X1) ∧ W.cell? ⟨b + 1, 1, none⟩ = some (.int .i64 Y1) ∧ W.frozen? ⟨b, 0, none⟩ = false ∧ W.frozen? ⟨b, 1, none⟩ = false ∧ W.frozen? ⟨b + 1, 0, none⟩ = false ∧ W.frozen? ⟨b + 1, 1, none⟩ = false ∧ b + 1 < W.heap.size
theorem TwoV.below {b : Nat} {W W' : World} {X0 Y0 X1 Y1 : Int} (h : TwoV b W X0 Y0 X1 Y1) (hb : Below W.heap.size W W') : TwoV b W' X0 Y0 X1 Y1 := by
  obtain ⟨a1, a2, a3, a4, a5, a6, a7, a8, a9⟩ := h
  have hs := hb.size
  exact ⟨by rw [(bcell hb).1 _ _ (by omega)]; exact a1, by rw [(bcell hb).1 _ _ (by omega)]; exact a2, by rw [(bcell hb).1 _ _ (by omega)]; exact a3, by rw [(bcell hb).1 _ _ (by omega)]; exact a4, by rw [(bcell hb).2 _ _ (by omega)]; exact a5, by rw [(bcell hb).2 _ _ (by omega)]; exact a6, by rw [(bcell hb).2 _ _ (by omega)]; exact a7, by rw [(bcell hb).2 _ _ (by omega)]; exact a8, by omega⟩
theorem TwoV.keep {b B : Nat} {W W' : World} {X0 Y0 X1 Y1 : Int} (h : TwoV b W X0 Y0 X1 Y1) (hb : Below B W W') (hB : b + 1 < B) : TwoV b W' X0 Y0 X1 Y1 := by
  obtain ⟨a1, a2, a3, a4, a5, a6, a7, a8, a9⟩ := h
  have hs := hb.size
  have C : ∀ x o, x < B → W'.cell? ⟨x, o, none⟩ = W.cell? ⟨x, o, none⟩ := fun x o hx => hb.cell (p := ⟨x, o, none⟩) hx
  have F : ∀ x o, x < B → W'.frozen? ⟨x, o, none⟩ = W.frozen? ⟨x, o, none⟩ := fun x o hx => hb.frozen (p := ⟨x, o, none⟩) hx
  exact ⟨by rw [C _ _ (by omega)]; exact a1, by rw [C _ _ (by omega)]; exact a2, by rw [C _ _ (by omega)]; exact a3, by rw [C _ _ (by omega)]; exact a4, by rw [F _ _ (by omega)]; exact a5, by rw [F _ _ (by omega)]; exact a6, by rw [F _ _ (by omega)]; exact a7, by rw [F _ _ (by omega)]; exact a8, by omega⟩
theorem own_keep {w w' : World} {B base : Nat} {e : TypeId} {size : Nat} {v : Value} {n : Nat} {xs : List Value} (h : w.ownsRow base e size v n xs) (hb : Below B w w') (hv : ∀ k, v.ownBlock = some k → k < B) : w'.ownsRow base e size v n xs := by
  refine ⟨h.1, ?_⟩
  rcases h.2 with h' | ⟨g, cap, cur, h1, h2, h3, h4⟩
  · exact .inl h'
  · exact .inr ⟨g, cap, cur, h1, h2, by rw [hb.block g (hv g (by rw [h1]; rfl))]; exact h3, h4⟩
theorem bf_pt {p q : Int} (n : Nat) (hq : 1 ≤ q) (hq2 : q ≤ 1000000) (hp1 : -1000000 ≤ p) (hp2 : p ≤ 1000000) (hn : n ≤ (expI p q).length) : isPt (bf ((expI p q).take n)) = true := by
  cases n with
  | zero => rw [List.take_zero]; rfl
  | succ n =>
    rw [take_snoc (by omega), bf_snoc]
    exact ff_exp n p q hq hq2 hp1 hp2
theorem impl_ConvergentsOf_no (p q : Int) (w : World) (h : ratB p q = false) : Calls Try.prog 30 #[.int .i64 p, .int .i64 q] w (RetPC w [] 2) := by
  have H := Lib.hid h
  clear h
  go_enter Try.func30, Try.ntmps30
  go_wp2_with (first | (go_at_call 31; refine (isRatio_no _ _ _ H.out).mono ?_; rintro e wn ⟨rfl, rfl⟩))
  go_ret2
  exact ⟨_, rfl, World.ownsRow_nil _ _ _ _, Below.refl _ _⟩
set_option maxHeartbeats 2000000 in
theorem impl_ConvergentsOf_yes (p q : Int) (w : World) (h : ratB p q = true) : Calls Try.prog 30 #[.int .i64 p, .int .i64 q] w (RetPC w (cvs (expI p q) (expI p q).length) 0) := by
  obtain ⟨i0, hi, hz0, hz1, hz2⟩ := info_parts info_pt
  obtain ⟨hp, h1, h2⟩ := ratB_iff.1 h
  have H := Lib.hid h
  have HF := Lib.hid (fun n => ff_exp n p q h1 h2 hp.1 hp.2)
  have HB := Lib.hid (fun n hn => bf_pt n h1 h2 hp.1 hp.2 hn)
  have HE := Lib.hid (fun k hk => exp_el k p q h1 h2 hp.1 hp.2 hk)
  have HL := Lib.hid (show (expI p q).length ≤ 1000001 by have := expI_len p q; omega)
  have HP := Lib.hid (show 1 ≤ (expI p q).length by rw [expI_step p q h1]; simp)
  obtain ⟨xs, hxs⟩ : ∃ l, expI p q = l := ⟨_, rfl⟩
  have HXS := Lib.hid hxs
  rw [hxs] at HF HB HE HL HP ⊢
  obtain ⟨n, hn⟩ : ∃ n, xs.length = n := ⟨_, rfl⟩
  have HN := Lib.hid hn
  rw [hn] at HL HP HB HE ⊢
  clear h hxs hn
  have hs20 : w.heap.size < w.heap.size + 1 + 1 := (by omega)
  go_enter Try.func30, Try.ntmps30
  go_wp2_with (first | (go_at_call 31; refine (isRatio_yes _ _ _ H.out).mono ?_; rintro e wn ⟨rfl, rfl⟩) | (go_at_call 45; refine (expansionOf_any _ _ _ h1 h2 hp.1 hp.2).mono ?_; rintro e wn ⟨v, rfl, hown, hb⟩; rw [HXS.out] at hown; obtain ⟨a, cap, rfl, f⟩ := own_view hown; rw [HN.out] at f ⊢))
  have c70 : wn.cell? ⟨w.heap.size, 0, none⟩ = some (.int .i64 0) := by rw [(bcell hb).1 _ _ (by first | (simp; done) | (simp; omega))]; simp
  have c71 : wn.cell? ⟨w.heap.size, 1, none⟩ = some (.int .i64 1) := by rw [(bcell hb).1 _ _ (by first | (simp; done) | (simp; omega))]; simp
  have c80 : wn.cell? ⟨w.heap.size + 1, 0, none⟩ = some (.int .i64 1) := by rw [(bcell hb).1 _ _ (by first | (simp; done) | (simp; omega))]; simp
  have c81 : wn.cell? ⟨w.heap.size + 1, 1, none⟩ = some (.int .i64 0) := by rw [(bcell hb).1 _ _ (by first | (simp; done) | (simp; omega))]; simp
  have f70 : wn.frozen? ⟨w.heap.size, 0, none⟩ = false := by rw [(bcell hb).2 _ _ (by first | (simp; done) | (simp; omega))]; simp
  have f71 : wn.frozen? ⟨w.heap.size, 1, none⟩ = false := by rw [(bcell hb).2 _ _ (by first | (simp; done) | (simp; omega))]; simp
  have f80 : wn.frozen? ⟨w.heap.size + 1, 0, none⟩ = false := by rw [(bcell hb).2 _ _ (by first | (simp; done) | (simp; omega))]; simp
  have f81 : wn.frozen? ⟨w.heap.size + 1, 1, none⟩ = false := by rw [(bcell hb).2 _ _ (by first | (simp; done) | (simp; omega))]; simp
  have hws := hb.size
  simp only [World.size_alloc, World.size_setCell] at hws hown
  have HBW : Hid (Below w.heap.size w wn) := by
    show Below w.heap.size w wn
    (repeat' (first | (with_reducible exact Below.refl _ _) | (with_reducible refine Below.alloc ?_ ?_ _) | (with_reducible refine Below.setCell ?_ ?_ _) | (with_reducible refine Below.drew ?_) | (with_reducible refine below_drewN ?_ _) | (with_reducible assumption) | (with_reducible refine below_after (by with_reducible assumption) ?_) | go_size))
  have HT0 := Lib.hid (show TwoV w.heap.size wn 0 1 1 0 from ⟨c70, c71, c80, c81, f70, f71, f80, f81, by omega⟩)
  have HO := Lib.hid hown
  rw [HN.out] at HO
  obtain ⟨g, rfl, hg0, hg, _, _⟩ := f HP.out
  have hl := HL.out
  clear hown f hb hp c70 c71 c80 c81 f70 f71 f80 f81
  go_loopw [6, 21] (fun o i wr => ∃ k : Nat, k ≤ n ∧ i = .int .i64 k ∧ TwoV w.heap.size wr (bf (xs.take k)).1 (bf (xs.take k)).2 (ff (xs.take k)).1 (ff (xs.take k)).2 ∧ OwnI (w.heap.size + 1 + 1) wr (.slice (some ⟨g, 0, none⟩) n cap) xs ∧ OwnF wn.heap.size wr o k (flat (cvs xs k)) ∧ Below w.heap.size w wr ∧ wn.heap.size ≤ wr.heap.size) (fun _ i _ => n - (intOf i).toNat)
  case atStart => exact ⟨0, by omega, rfl, HT0.out, HO.out, World.ownsRow_nil _ _ _ _, HBW.out, Nat.le_refl _⟩
  case round =>
    obtain ⟨k, hk, rfl, htwo, howni, hof, hbel, hwr⟩ := hrel
    have HOF := Lib.hid hof
    have HOI := Lib.hid howni
    have HTW := Lib.hid htwo
    clear hof howni htwo
    by_cases hlt : k < n
    · have hgr : g < wr.heap.size := by omega
      have e1 : wr.cell? ⟨g, k, none⟩ = some (.int .i64 (xs.getD k 0)) := by
        have := World.ownsRow.cellAt (by have := HOI.out; unfold OwnI at this; rw [HN.out] at this; exact this) k (by omega)
        rw [this, List.getElem?_map, List.getElem?_eq_getElem (by rw [HN.out]; exact hlt)]
        simp [List.getD, HN.out, hlt]
      obtain ⟨ea, eb, _⟩ := HE.out k hlt
      have HFF := Lib.hid (ff_snoc (xs.take k) (xs.getD k 0))
      have HBF := Lib.hid (bf_snoc (xs.take k) (xs.getD k 0))
      have pt0 := HB.out k hk
      have pt1 := HF.out k
      have pt2 := HF.out (k + 1)
      rw [take_snoc (by rw [HN.out]; exact hlt)] at pt2
      obtain ⟨A, hA⟩ : ∃ A, xs.getD k 0 = A := ⟨_, rfl⟩
      rw [hA] at e1 ea eb HFF HBF pt2
      obtain ⟨⟨X0, Y0⟩, hXY0⟩ : ∃ P, bf (xs.take k) = P := ⟨_, rfl⟩
      obtain ⟨⟨X1, Y1⟩, hXY1⟩ : ∃ P, ff (xs.take k) = P := ⟨_, rfl⟩
      rw [hXY0] at HTW HFF pt0
      rw [hXY1] at HTW HFF HBF pt1
      dsimp only at HTW HFF
      have HTK : Hid (xs.take (k + 1) = xs.take k ++ [A]) := by
        show xs.take (k + 1) = _
        rw [take_snoc (by rw [HN.out]; exact hlt), hA]
      have HKK := Lib.hid (show k ≤ 1000001 by omega)
      have HP0 := Lib.hid pt0
      have HP1 := Lib.hid pt1
      have HAB : Hid (Bn A) := by show Bn A; unfold Bn; omega
      have HK : Hid (∀ W, Below wr.heap.size wr W → W.cell? ⟨w.heap.size, 0, none⟩ = some (.int .i64 X0) ∧ W.cell? ⟨w.heap.size, 1, none⟩ = some (.int .i64 Y0) ∧ W.cell? ⟨w.heap.size + 1, 0, none⟩ = some (.int .i64 X1) ∧ W.cell? ⟨w.heap.size + 1, 1, none⟩ = some (.int .i64 Y1) ∧ W.frozen? ⟨w.heap.size, 0, none⟩ = false ∧ W.frozen? ⟨w.heap.size, 1, none⟩ = false ∧ W.frozen? ⟨w.heap.size + 1, 0, none⟩ = false ∧ W.frozen? ⟨w.heap.size + 1, 1, none⟩ = false ∧ w.heap.size + 1 < W.heap.size) := fun W hW => (HTW.out).below hW
      obtain ⟨t1, t2, t3, t4, t5, t6, t7, t8, t9⟩ := HTW.out
      have j0 : (0 : Int) ≤ (k : Int) := by omega
      have j1 : (k : Int) < (n : Int) := by omega
      clear pt0 pt1 pt2 hXY0 hXY1 hA
      go_wp2_with fail
      go_region_with (go_at_call 46; refine (plusTimes_any _ _ _ _ _ _ (isPt_bn1 HP0.out) (isPt_bn2 HP0.out) (isPt_bn1 HP1.out) (isPt_bn2 HP1.out) HAB.out).mono ?_; rintro e w2 ⟨rfl, hb2⟩; have hb3 : Below wr.heap.size wr w2 := ⟨hb2.os, hb2.tape, hb2.output, hb2.size, hb2.block⟩; clear hb2; obtain ⟨d1, d2, d3, d4, d5, d6, d7, d8, d9⟩ := HK.out w2 hb3)
      all_goals
        have hs3 := hb3.size
        obtain ⟨wx, hwx⟩ : ∃ wx, wx = (((w2.setCell ⟨w.heap.size, 0, none⟩ (.int .i64 X1)).setCell ⟨w.heap.size, 1, none⟩ (.int .i64 Y1)).setCell ⟨w.heap.size + 1, 0, none⟩ (.int .i64 (X0 + A * X1))).setCell ⟨w.heap.size + 1, 1, none⟩ (.int .i64 (Y0 + A * Y1)) := ⟨_, rfl⟩
        rw [← hwx]
        have TX : Hid (TwoV w.heap.size wx X1 Y1 (X0 + A * X1) (Y0 + A * Y1)) := by
          rw [hwx]
          show TwoV _ _ _ _ _ _
          refine ⟨?_, ?_, ?_, ?_, ?_, ?_, ?_, ?_, ?_⟩
          all_goals first | (go_cell; done) | (simp; assumption) | (simp [*]; done) | (simp only [World.size_setCell]; omega)
        have OI : Hid (OwnI (w.heap.size + 1 + 1) wx (.slice (some ⟨g, 0, none⟩) n cap) xs) := by
          rw [hwx]
          exact own_setCell (own_setCell (own_setCell (own_setCell (OwnI.below HOI.out hb3) _ _ _ (by omega)) _ _ _ (by omega)) _ _ _ (by omega)) _ _ _ (by omega)
        have OF : Hid (OwnF wn.heap.size wx u6 k (flat (cvs xs k))) := by
          rw [hwx]
          exact own_setCell (own_setCell (own_setCell (own_setCell (OwnF.below HOF.out hb3) _ _ _ (by omega)) _ _ _ (by omega)) _ _ _ (by omega)) _ _ _ (by omega)
        have BX : Below w.heap.size w wx := by
          have h5 := below_after hb3 hbel
          rw [hwx]
          (repeat' (first | (with_reducible exact Below.refl _ _) | (with_reducible refine Below.alloc ?_ ?_ _) | (with_reducible refine Below.setCell ?_ ?_ _) | (with_reducible refine Below.drew ?_) | (with_reducible refine below_drewN ?_ _) | (with_reducible assumption) | (with_reducible refine below_after (by with_reducible assumption) ?_) | go_size))
        have SX : wn.heap.size ≤ wx.heap.size := by rw [hwx]; simp only [World.size_setCell]; omega
        have HPT : Hid (ff (xs.take (k + 1)) = (X0 + A * X1, Y0 + A * Y1)) := by
          show ff (xs.take (k + 1)) = _
          rw [HTK.out]; exact HFF.out
        have HPB : Hid (bf (xs.take (k + 1)) = (X1, Y1)) := by
          show bf (xs.take (k + 1)) = _
          rw [HTK.out]; exact HBF.out
        clear hwx hb3 hbel d1 d2 d3 d4 d5 d6 d7 d8 d9 t1 t2 t3 t4 t5 t6 t7 t8 t9 e1 hs3
        obtain ⟨t1, t2, t3, t4, t5, t6, t7, t8, t9⟩ := TX.out
        go_wp2_with (first | (at_builtin; refine wpList_append_own _ rfl _ _ 26 rfl wn.heap.size 31 i0 (.agg #[.int .i64 0, .int .i64 0]) 2 16 Try.underlying26 hi hz0 hz1 hz2 rfl (by decide) _ _ _ rfl (OF.out.alloc _) ⟨wx.heap.size, 0, none⟩ 1 1 [.int .i64 (X0 + A * X1), .int .i64 (Y0 + A * Y1)] rfl rfl ?c1 ?c2 ?c3 ?c4 ?c5 ?_))
        case c1 =>
          intro j u hj
          match j, hj with
          | 0, hj => simp at hj; subst hj; simp [Addr.add]
          | 1, hj => simp at hj; subst hj; simp [Addr.add]
        case c2 => intro u hu; simp at hu; rcases hu with rfl | rfl <;> rfl
        case c3 => have := HKK.out; unfold maxLen; omega
        case c4 => have := HKK.out; omega
        case c5 => simp only [World.size_alloc]; omega
        · intro v' w1 hown' hgrow _
          have hlo := fun k hk => (OF.out.lt k hk).1
          have hb5 : Below wx.heap.size wx (wx.alloc (.cells #[.int .i64 (X0 + A * X1), .int .i64 (Y0 + A * Y1)] 31)) := by (repeat' (first | (with_reducible exact Below.refl _ _) | (with_reducible refine Below.alloc ?_ ?_ _) | (with_reducible refine Below.setCell ?_ ?_ _) | (with_reducible refine Below.drew ?_) | (with_reducible refine below_drewN ?_ _) | (with_reducible assumption) | (with_reducible refine below_after (by with_reducible assumption) ?_) | go_size))
          have hb6 : Below wn.heap.size wx w1 := Below.grown (hb5.mono SX) hgrow (by simp only [World.size_alloc]; omega) hlo
          have OI2 : Hid (OwnI (w.heap.size + 1 + 1) w1 (.slice (some ⟨g, 0, none⟩) n cap) xs) := own_keep OI.out hb6 (fun k hk => by simp [Value.ownBlock] at hk; omega)
          have TX2 : Hid (TwoV w.heap.size w1 X1 Y1 (X0 + A * X1) (Y0 + A * Y1)) := TwoV.keep TX.out hb6 (by omega)
          have OF2 : Hid (OwnF wn.heap.size w1 v' (k + 1) (flat (cvs xs (k + 1)))) := by
            show World.ownsRow _ _ _ _ _ _ _
            rw [cvs_succ, flat_append, HPT.out, List.map_append]; exact hown'
          have BX2 : Below w.heap.size w w1 := BX.trans (hb6.mono (by omega))
          have SX2 : wn.heap.size ≤ w1.heap.size := by have := hb6.size; omega
          clear hown' hgrow hlo hb5 hb6 BX t1 t2 t3 t4 t5 t6 t7 t8 t9
          go_wp2
          go_roundw
          case rel => exact ⟨k + 1, by omega, by go_num, by rw [HPT.out, HPB.out]; exact TX2.out, OI2.out, OF2.out, BX2, SX2⟩
          case measure => simp [intOf]; omega
    · have hge : n ≤ k := by omega
      clear hlt
      go_wp2
      go_ret2
      obtain rfl : k = n := by omega
      refine ⟨_, rfl, ?_, hbel⟩
      rw [cvs_len]
      exact own_mono HOF.out (by omega)
end Go.Proofs.Ytibmkmcdggokbaa
