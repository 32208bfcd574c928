/-
  Contracts of chapter 3's SequenceOf on both sides: lengths of parts, lists that grow in regions that draw their order (own work; written by tools/mksqn.py).
-/
import Derived.Test.YtjiaokcbhpmodaaPrM
namespace Go.Proofs.Ytjiaokcbhpmodaa
open Go.ChangeShapes Go.WideShapes Go.ChangeAt Go.RowKit
set_option linter.unusedVariables false
set_option linter.unusedSimpArgs false

theorem cramer1 (u v p : Int × Int) : detP u v * p.1 = detP u p * v.1 - detP v p * u.1 := by unfold detP; grind
theorem cramer2 (u v p : Int × Int) : detP u v * p.2 = detP u p * v.2 - detP v p * u.2 := by unfold detP; grind
/-- Points of a sail with c as 2 between them go on by the same step. -/
theorem on_line {L : List (Int × Int)} {cs : List Int} (hnb : Nbr L) (hcs : CsOf L cs) {s e : Nat} (he : e < L.length) (hc : ∀ j, s < j → j < e → ¬ 2 < cs.getD j 0) :
    ∀ t, s + t + 1 ≤ e → (L.getD (s + t) (0, 0)).1 = (L.getD s (0, 0)).1 + t * ((L.getD (s + 1) (0, 0)).1 - (L.getD s (0, 0)).1) ∧ (L.getD (s + t) (0, 0)).2 = (L.getD s (0, 0)).2 + t * ((L.getD (s + 1) (0, 0)).2 - (L.getD s (0, 0)).2) ∧
      (L.getD (s + t + 1) (0, 0)).1 = (L.getD s (0, 0)).1 + (t + 1) * ((L.getD (s + 1) (0, 0)).1 - (L.getD s (0, 0)).1) ∧ (L.getD (s + t + 1) (0, 0)).2 = (L.getD s (0, 0)).2 + (t + 1) * ((L.getD (s + 1) (0, 0)).2 - (L.getD s (0, 0)).2) := by
  intro t
  induction t with
  | zero => intro h; refine ⟨by simp, by simp, ?_, ?_⟩ <;> simp <;> omega
  | succ t ih =>
    intro h
    obtain ⟨h1, h2, h3, h4⟩ := ih (by omega)
    obtain ⟨_, _, n1⟩ := hnb (s + t) (by omega)
    obtain ⟨_, _, n2⟩ := hnb (s + t + 1) (by omega)
    have hd := hcs.2.1 (s + t) (by omega)
    have h5 := hc (s + t + 1) (by omega) (by omega)
    have h6 := (hcs.2.2.2 (s + t + 1) (by rw [hcs.1]; omega)).1
    rw [show s + t + 2 = s + t + 1 + 1 by omega] at hd
    have hd2 : detP (L.getD (s + t) (0, 0)) (L.getD (s + t + 1 + 1) (0, 0)) = 2 := by omega
    have c1 := cramer1 (L.getD (s + t) (0, 0)) (L.getD (s + t + 1) (0, 0)) (L.getD (s + t + 1 + 1) (0, 0))
    have c2 := cramer2 (L.getD (s + t) (0, 0)) (L.getD (s + t + 1) (0, 0)) (L.getD (s + t + 1 + 1) (0, 0))
    rw [n1, hd2, n2] at c1 c2
    rw [show s + (t + 1) = s + t + 1 by omega]
    generalize L.getD (s + t + 1 + 1) (0, 0) = p at *
    generalize L.getD (s + t + 1) (0, 0) = v at *
    generalize L.getD (s + t) (0, 0) = u at *
    push_cast
    refine ⟨h3, h4, ?_, ?_⟩
    · grind
    · grind
theorem lenP_part {L : List (Int × Int)} {cs : List Int} (hnb : Nbr L) (hcs : CsOf L cs) {s e : Nat} (hse : s < e) (he : e < L.length) (hc : ∀ j, s < j → j < e → ¬ 2 < cs.getD j 0) : lenP (L.getD s (0, 0)) (L.getD e (0, 0)) = (e : Int) - s := by
  obtain ⟨_, _, h3, h4⟩ := on_line hnb hcs he hc (e - 1 - s) (by omega)
  rw [show s + (e - 1 - s) + 1 = e by omega] at h3 h4
  obtain ⟨_, _, n1⟩ := hnb s (by omega)
  have ht : ((e - 1 - s : Nat) : Int) + 1 = (e : Int) - s := by omega
  rw [ht] at h3 h4
  obtain ⟨m, hm⟩ : ∃ m, m = e - s := ⟨_, rfl⟩
  have hme : (e : Int) - s = (m : Int) := by omega
  rw [hme] at h3 h4 ⊢
  unfold lenP
  rw [h3, h4]
  generalize L.getD (s + 1) (0, 0) = v at *
  generalize L.getD s (0, 0) = u at *
  have hd : u.1 * (v.2 - u.2) - u.2 * (v.1 - u.1) = 1 := by unfold detP at n1; grind
  rw [show u.1 + (m : Int) * (v.1 - u.1) - u.1 = (m : Int) * (v.1 - u.1) by omega, show u.2 + (m : Int) * (v.2 - u.2) - u.2 = (m : Int) * (v.2 - u.2) by omega]
  generalize v.1 - u.1 = dx at *
  generalize v.2 - u.2 = dy at *
  have hg : Int.gcd dx dy = 1 := by
    have h1 : (Int.gcd dx dy : Int) ∣ dx := Int.gcd_dvd_left ..
    have h2 : (Int.gcd dx dy : Int) ∣ dy := Int.gcd_dvd_right ..
    obtain ⟨p, hp⟩ := h1
    obtain ⟨r, hr⟩ := h2
    have hG : (0 : Int) ≤ (Int.gcd dx dy : Int) := Int.natCast_nonneg _
    obtain ⟨G, hGe⟩ : ∃ G, (Int.gcd dx dy : Int) = G := ⟨_, rfl⟩
    rw [hGe] at hp hr hG
    have h3 : G * (u.1 * r - u.2 * p) = 1 := by rw [hp, hr] at hd; grind
    have h4 : G = 1 := Int.eq_one_of_mul_eq_one_right hG h3
    omega
  unfold gcdI
  rw [Int.gcd_mul_left, hg]
  simp
/-- What holds while the sequence grows: old memory, the points and the parts stay. -/
def Sq (w wr : World) (g q : Nat) (W : World) : Prop := Below w.heap.size w W ∧ Kp wr W g ∧ Kp wr W q
theorem Sq.below {w wr W W' : World} {g q : Nat} (h : Sq w wr g q W) (hb : Below W.heap.size W W') : Sq w wr g q W' :=
  ⟨below_after hb h.1, h.2.1.trans (Kp.below h.2.1.1 hb), h.2.2.trans (Kp.below h.2.2.1 hb)⟩
theorem Sq.alloc {w wr W : World} {g q : Nat} (h : Sq w wr g q W) (o : Obj) : Sq w wr g q (W.alloc o) := h.below ((Below.refl _ _).alloc (Nat.le_refl _) _)
theorem Sq.grown {w wr W W' : World} {g q : Nat} {row : Option Nat} (h : Sq w wr g q W) (hg : W.grownBy W' row) (hr : ∀ k, row = some k → w.heap.size ≤ k) (h1 : row ≠ some g) (h2 : row ≠ some q) : Sq w wr g q W' :=
  ⟨Below.grown h.1 hg h.1.size hr, h.2.1.trans (Kp.grown h.2.1.1 hg h1), h.2.2.trans (Kp.grown h.2.2.1 hg h2)⟩
theorem wp_append_at (B : Nat) {W : World} {o : Oper} {a : Act} {K : Act → World → Prop} {Q : Exit → Act → World → Prop} (s x : Operand)
    (ho : o.op = .call { callee := .builtin .append, args := #[s, x], argTypes := #[32, 32] })
    {v : Value} {xs : List Int} {y : Int} {g c : Nat} (hown : OwnI B W v xs) (hc : W.cell? ⟨g, 0, none⟩ = some (.int .i64 y)) (hb : B ≤ W.heap.size) (hs : a.eval s = v) (hx : a.eval x = .slice (some ⟨g, 0, none⟩) 1 c) (hlen : xs.length ≤ 8388608)
    (hK : ∀ v' w', OwnI B w' v' (xs ++ [y]) → W.grownBy w' v.ownBlock → (v'.ownBlock = v.ownBlock ∨ v'.ownBlock = some W.heap.size) → K (a.put o.dst v') w') : Oper.wp Try.prog o a W K Q := by
  obtain ⟨ti0, hi, hz0, hz1, hz2⟩ := info_parts info_int
  obtain ⟨v', w', hr, h2, h3, h4, h5⟩ := run_append_own_at (P := Try.prog) W B 32 o.type 2 ti0 (.int .i64 0) 1 8 Try.underlying32 hi hz0 hz1 hz2 rfl (by decide) v _ _ hown ⟨g, 0, none⟩ 1 c [.int .i64 y] rfl
    (by intro j u hj
        match j, hj with
        | 0, hj => simp at hj; subst hj; simpa [Addr.add] using hc)
    (by intro u hu; simp at hu; subst hu; rfl) (by unfold maxLen; omega) (by omega) hb
  unfold Oper.wp execOp
  simp only [ho, resolve, invoke, builtin, Sem.run_bind, Sem.run_pure, Result.andThen_ok, List.map_toArray, List.map_cons, List.map_nil, hs, hx, hr]
  exact hK _ _ (own_snocI h2 rfl) h3 h5
theorem ilv_step {xs ys : List Int} {j : Nat} (hj : j < ys.length) (hl : ys.length ≤ xs.length) : ilv (xs.take (j + 1)) (ys.take (j + 1)) = ilv (xs.take j) (ys.take j) ++ [xs.getD j 0] ++ [ys.getD j 0] := by
  rw [take_snoc xs j (by omega), take_snoc ys j hj, ilv_y _ _ _ (by simp; omega), ilv_x _ _ _ (by simp; omega)]
theorem ilv_stepx {xs ys : List Int} {j : Nat} (hj : j < xs.length) (hl : j ≤ ys.length) : ilv (xs.take (j + 1)) (ys.take j) = ilv (xs.take j) (ys.take j) ++ [xs.getD j 0] := by
  rw [take_snoc xs j hj, ilv_x _ _ _ (by simp; omega)]
set_option maxHeartbeats 8000000 in
theorem spec_SequenceOf_some (a b c d : Int) (L : List (Int × Int)) (cs : List Int) (n : Nat) (w : World) (hN : L.length = n) (h2 : 2 ≤ n) (hl : n ≤ 2000) (hcs : CsOf L cs)
    (hSP : ∀ w, Calls Try.prog 46 #[.agg #[.int .i64 a, .int .i64 b], .agg #[.int .i64 c, .int .i64 d]] w (RetPNC w L cs 0)) :
    Calls Try.prog 31 #[.agg #[.int .i64 a, .int .i64 b], .agg #[.int .i64 c, .int .i64 d]] w (RetIC w (sqS cs) 0) := by
  obtain ⟨ti0, hi, hz0, hz1, hz2⟩ := info_parts info_int
  have HSP := Lib.hid hSP
  have HN := Lib.hid hN
  have HL := Lib.hid hl
  have H1 : Hid (1 ≤ n) := by show 1 ≤ n; omega
  have H2 := Lib.hid h2
  have HCN : Hid (cs.length = n) := by show cs.length = n; rw [hcs.1, hN]
  have HCB := Lib.hid hcs.2.2.2
  obtain ⟨m, hm⟩ : ∃ m, (lnS cs).length = m := ⟨_, rfl⟩
  obtain ⟨mz, hmz⟩ : ∃ m, (snS cs).length = m := ⟨_, rfl⟩
  have HX := Lib.hid hm
  have HY := Lib.hid hmz
  rw [lnS_len] at hm
  rw [snS_len, hm] at hmz
  have hmp : 1 ≤ m := by rw [← hm]; exact ptsL_ne (by rw [HCN.out]; exact h2)
  have hmn : m ≤ n := by rw [← hm, ← HCN.out]; exact ptsL_len cs
  have HMP := Lib.hid hmp
  have HMN := Lib.hid hmn
  have HMZ : Hid (m = mz + 1) := by show m = mz + 1; omega
  obtain ⟨R, hR⟩ : ∃ R, sqS cs = R := ⟨_, rfl⟩
  rw [hR]
  have HR : Hid (ilv (lnS cs) (snS cs) = R) := hR
  clear hSP hN hl h2 hcs hm hmz hmp hmn hR
  have hs20 : w.heap.size < w.heap.size + 1 + 1 := (by omega); have hs30 : w.heap.size < w.heap.size + 1 + 1 + 1 := (by omega); have hs31 : w.heap.size + 1 < w.heap.size + 1 + 1 + 1 := (by omega)
  go_enter Try.func31, Try.ntmps31
  go_wp2_with (first | (go_at_call 46; refine (HSP.out _).mono ?_; rintro e wA hr; obtain ⟨g, cp, q, nc, rfl, hge, hpt, hqw, hnum, hb⟩ := retpnc_num hr HN.out HCN.out H1.out; clear hr; have HNUM := Lib.hid hnum; clear hnum hpt; first | (have h2 := after_call2 hb hcl hfr hlt (by ((repeat' (first | (with_reducible exact Below.refl _ _) | (with_reducible refine Below.alloc ?_ ?_ _) | (with_reducible refine Below.setCell ?_ ?_ _) | (with_reducible refine Below.drew ?_) | (with_reducible refine below_drewN ?_ _) | (with_reducible assumption) | (with_reducible refine below_after (by with_reducible assumption) ?_) | go_size)); done)); obtain ⟨hclx, hfrx, hltx, hsz⟩ := after_call hb; (try simp only [World.size_alloc, World.size_setCell, World.size_drew] at hclx hfrx hltx hsz); (try (have hszl := Nat.lt_of_succ_le hsz)); obtain ⟨hcl, hfr, hlt⟩ := h2) | (obtain ⟨hcl, hfr, hlt, hsz⟩ := after_call hb; (try simp only [World.size_alloc, World.size_setCell, World.size_drew] at hcl hfr hlt hsz))) | (go_at_call 50; refine (l03Parts_some cs q nc n _ HCN.out H2.out HL.out HNUM.out HCB.out).mono ?_; rintro e wB ⟨v1, v2, rfl, ho1, ho2, hb⟩; have HO1 := Lib.hid ho1; have HO2 := Lib.hid ho2; obtain ⟨a1, c1, rfl⟩ := own_viewI ho1; obtain ⟨a2, c2, rfl⟩ := own_viewI ho2; clear ho1 ho2; rw [HX.out, HY.out]; first | (have h2 := after_call2 hb hcl hfr hlt (by ((repeat' (first | (with_reducible exact Below.refl _ _) | (with_reducible refine Below.alloc ?_ ?_ _) | (with_reducible refine Below.setCell ?_ ?_ _) | (with_reducible refine Below.drew ?_) | (with_reducible refine below_drewN ?_ _) | (with_reducible assumption) | (with_reducible refine below_after (by with_reducible assumption) ?_) | go_size)); done)); obtain ⟨hclx, hfrx, hltx, hsz⟩ := after_call hb; (try simp only [World.size_alloc, World.size_setCell, World.size_drew] at hclx hfrx hltx hsz); (try (have hszl := Nat.lt_of_succ_le hsz)); obtain ⟨hcl, hfr, hlt⟩ := h2) | (obtain ⟨hcl, hfr, hlt, hsz⟩ := after_call hb; (try simp only [World.size_alloc, World.size_setCell, World.size_drew] at hcl hfr hlt hsz))))
  have HBW : Hid (Below w.heap.size w wB) := by show Below w.heap.size w wB; (repeat' (first | (with_reducible exact Below.refl _ _) | (with_reducible refine Below.alloc ?_ ?_ _) | (with_reducible refine Below.setCell ?_ ?_ _) | (with_reducible refine Below.drew ?_) | (with_reducible refine below_drewN ?_ _) | (with_reducible assumption) | (with_reducible refine below_after (by with_reducible assumption) ?_) | go_size))
  have hzA : w.heap.size ≤ wA.heap.size := by have := hge; simp only [World.size_alloc] at *; omega
  have hn1 : ∃ q1, a1 = some ⟨q1, 0, none⟩ ∧ NumAt wB q1 (lnS cs) := by
    obtain ⟨a', c', e, hv⟩ := own_view HO1.out
    obtain ⟨q1, rfl, _⟩ := hv (by rw [HX.out]; exact HMP.out)
    simp only [Value.slice.injEq] at e
    obtain ⟨rfl, _, rfl⟩ := e
    exact ⟨q1, rfl, NumAt.own HO1.out (by rw [HX.out]; exact HMP.out)⟩
  obtain ⟨q1, rfl, hnq1⟩ := hn1
  have hn2 : ∃ q2, (0 < mz → a2 = some ⟨q2, 0, none⟩) ∧ NumAt wB q2 (snS cs) := by
    by_cases hz : 0 < mz
    · obtain ⟨a', c', e, hv⟩ := own_view HO2.out
      obtain ⟨q2, rfl, _⟩ := hv (by rw [HY.out]; exact hz)
      simp only [Value.slice.injEq] at e
      obtain ⟨rfl, _, rfl⟩ := e
      exact ⟨q2, fun _ => rfl, NumAt.own HO2.out (by rw [HY.out]; exact hz)⟩
    · exact ⟨q1, fun h => absurd h hz, hnq1.1, fun k hk => by rw [HY.out] at hk; omega⟩
  obtain ⟨q2, ha2, hnq2⟩ := hn2
  have HA2 := Lib.hid ha2
  obtain ⟨wC, hwC⟩ : ∃ wC, wB.alloc (.cells #[] 2) = wC := ⟨_, rfl⟩
  have OV : Hid (OwnI w.heap.size wC (.slice (some ⟨wB.heap.size, 0, none⟩) 0 0) []) := by
    rw [← hwC]
    exact own_up (World.ownsRow_made wB #[] 0 (Nat.le_refl _) (Nat.zero_le _) rfl) HBW.out.size
  have hBC : Below wB.heap.size wB wC := by rw [← hwC]; (repeat' (first | (with_reducible exact Below.refl _ _) | (with_reducible refine Below.alloc ?_ ?_ _) | (with_reducible refine Below.setCell ?_ ?_ _) | (with_reducible refine Below.drew ?_) | (with_reducible refine below_drewN ?_ _) | (with_reducible assumption) | (with_reducible refine below_after (by with_reducible assumption) ?_) | go_size))
  have HBC : Hid (Below w.heap.size w wC) := below_after hBC HBW.out
  have HN1 := Lib.hid (NumAt.kp hnq1 (Kp.below hnq1.1 hBC))
  have HN2 := Lib.hid (NumAt.kp hnq2 (Kp.below hnq2.1 hBC))
  have hq1 : q1 < wB.heap.size := hnq1.1
  have hq2 : q2 < wB.heap.size := hnq2.1
  rw [hwC]
  clear hwC hBC hnq1 hnq2 ha2
  (repeat (first | clear hb | clear hcl | clear hfr | clear hlt | clear hclx | clear hfrx | clear hltx))
  go_loopw [11, 12] (fun v i wr => ∃ (j : Nat) (out : List Int) (va : Option Addr) (vc : Nat), j ≤ m ∧ out = ilv ((lnS cs).take j) ((snS cs).take j) ∧ v = .slice va out.length vc ∧ i = .int .i64 (j : Int) ∧ OwnI w.heap.size wr (.slice va out.length vc) out ∧ (Value.slice va out.length vc).ownBlock ≠ some q1 ∧ (Value.slice va out.length vc).ownBlock ≠ some q2 ∧ Kp wC wr q1 ∧ Kp wC wr q2 ∧ Below w.heap.size w wr) (fun _ i _ => m - (intOf i).toNat)
  case atStart => exact ⟨0, [], _, 0, by omega, rfl, rfl, rfl, OV.out, by show some wB.heap.size ≠ some q1; simp; omega, by show some wB.heap.size ≠ some q2; simp; omega, Kp.refl HN1.out.1, Kp.refl HN2.out.1, HBC.out⟩
  case round =>
    obtain ⟨j, out, va, vc, hjm, hout, rfl, rfl, hO, hv1, hv2, hk1, hk2, hbel⟩ := hrel
    have HO := Lib.hid hO
    have HV1 := Lib.hid hv1
    have HV2 := Lib.hid hv2
    have HK1 := Lib.hid hk1
    have HK2 := Lib.hid hk2
    have HBL := Lib.hid hbel
    have HJM := Lib.hid hjm
    have hol : out.length ≤ 2 * m := by
      rw [hout, ilv_len _ _ (by simp; rw [HX.out, HY.out]; have := HMZ.out; omega)]
      simp; rw [HX.out, HY.out]; omega
    have HOL : Hid (out.length ≤ 4000) := by show out.length ≤ 4000; have := HMN.out; have := HL.out; omega
    by_cases hlt : j < m
    · obtain ⟨x, hx⟩ : ∃ x, (lnS cs).getD j 0 = x := ⟨_, rfl⟩
      have c0 := (NumAt.kp HN1.out hk1).2 j (by rw [HX.out]; exact hlt)
      rw [hx] at c0
      have i0 : (0 : Int) ≤ (j : Int) := by omega
      have i1 : (j : Int) < (m : Int) := by omega
      have i2 : (m : Int) ≤ 2000 := by have := HMN.out; have := HL.out; omega
      have HLT := Lib.hid hlt
      by_cases hz : j < mz
      · obtain ⟨y, hy⟩ : ∃ y, (snS cs).getD j 0 = y := ⟨_, rfl⟩
        have c1 := (NumAt.kp HN2.out hk2).2 j (by rw [HY.out]; exact hz)
        rw [hy] at c1
        have HST : Hid (out ++ [x] ++ [y] = ilv ((lnS cs).take (j + 1)) ((snS cs).take (j + 1))) := by
          show _ = _
          rw [ilv_step (by rw [HY.out]; exact hz) (by rw [HX.out, HY.out]; have := HMZ.out; omega), hx, hy, hout]
        have e := HA2.out (by omega)
        subst e
        have i3 : (j : Int) < (mz : Int) := by omega
        clear hO hv1 hv2 hk1 hk2 hbel hjm hout hol hx hy
        go_wp2_with (first | (at_builtin; refine wpList_append_own_at _ rfl _ _ 32 rfl w.heap.size 2 ti0 (.int .i64 0) 1 8 Try.underlying32 hi hz0 hz1 hz2 rfl (by decide) _ _ _ rfl (own_below HO.out ?hb) ⟨_, 0, none⟩ 1 1 [.int .i64 (x)] rfl rfl ?c1 ?c2 ?c3 ?c4 ?c5 ?_))
        case hb => (repeat' (first | (with_reducible exact Below.refl _ _) | (with_reducible refine Below.alloc ?_ ?_ _) | (with_reducible refine Below.setCell ?_ ?_ _) | (with_reducible refine Below.drew ?_) | (with_reducible refine below_drewN ?_ _) | (with_reducible assumption) | (with_reducible refine below_after (by with_reducible assumption) ?_) | go_size))
        try (case c1 =>
               intro j u hj
               match j, hj with
               | 0, hj => simp at hj; subst hj; simp [Addr.add])
        try (case c2 => first | rfl | (intro u hu; simp at hu; subst hu; rfl))
        case c3 => have := HOL.out; have := HL.out; unfold maxLen; omega
        case c4 => have := HOL.out; have := HL.out; omega
        case c5 => first | (have h1 := HBL.out.size; (try simp only [World.size_alloc]); omega) | exact Below.size (below_after (w := wr) (by (repeat' (first | (with_reducible exact Below.refl _ _) | (with_reducible refine Below.alloc ?_ ?_ _) | (with_reducible refine Below.setCell ?_ ?_ _) | (with_reducible refine Below.drew ?_) | (with_reducible refine below_drewN ?_ _) | (with_reducible assumption) | (with_reducible refine below_after (by with_reducible assumption) ?_) | go_size))) HBL.out)
        intro v' w1 hown' hgrow hnil hat
        have hb1 : Below w.heap.size w w1 := Below.grown (below_after (w := wr) (by (repeat' (first | (with_reducible exact Below.refl _ _) | (with_reducible refine Below.alloc ?_ ?_ _) | (with_reducible refine Below.setCell ?_ ?_ _) | (with_reducible refine Below.drew ?_) | (with_reducible refine below_drewN ?_ _) | (with_reducible assumption) | (with_reducible refine below_after (by with_reducible assumption) ?_) | go_size))) HBL.out) hgrow (Below.size (below_after (w := wr) (by (repeat' (first | (with_reducible exact Below.refl _ _) | (with_reducible refine Below.alloc ?_ ?_ _) | (with_reducible refine Below.setCell ?_ ?_ _) | (with_reducible refine Below.drew ?_) | (with_reducible refine below_drewN ?_ _) | (with_reducible assumption) | (with_reducible refine below_after (by with_reducible assumption) ?_) | go_size))) HBL.out)) (fun k hk => (World.ownsRow.lt HO.out k hk).1)
        have hkq1 : Kp wr w1 q1 := kp_app HK1.out.1 hgrow HV1.out
        have hkq2 : Kp wr w1 q2 := kp_app HK2.out.1 hgrow HV2.out
        have hv1 : v'.ownBlock ≠ some q1 := far_app hat HV1.out HK1.out.1
        have hv2 : v'.ownBlock ≠ some q2 := far_app hat HV2.out HK2.out.1
        have c1b := hkq2.cell.trans c1
        have HO1 := Lib.hid (own_snocI hown' rfl)
        have HB1 := Lib.hid hb1
        have HK11 := Lib.hid (HK1.out.trans hkq1)
        have HK21 := Lib.hid (HK2.out.trans hkq2)
        have HV11 := Lib.hid hv1
        have HV21 := Lib.hid hv2
        clear hown' hgrow hnil hat hb1 hkq1 hkq2 hv1 hv2
        obtain ⟨o1, ho1⟩ : ∃ o, out ++ [x] = o := ⟨_, rfl⟩
        rw [ho1] at HO1
        have HE1 := Lib.hid ho1
        have HOL1 : Hid (o1.length ≤ 4001) := by show o1.length ≤ 4001; rw [← ho1]; have := HOL.out; simp; omega
        clear ho1
        obtain ⟨va1, vc1, rfl⟩ := own_viewI HO1.out
        go_wp2_with (first | (at_builtin; refine wpList_append_own_at _ rfl _ _ 32 rfl w.heap.size 2 ti0 (.int .i64 0) 1 8 Try.underlying32 hi hz0 hz1 hz2 rfl (by decide) _ _ _ rfl (own_below HO1.out ?hd) ⟨_, 0, none⟩ 1 1 [.int .i64 (y)] rfl rfl ?d1 ?d2 ?d3 ?d4 ?d5 ?_))
        case hd => (repeat' (first | (with_reducible exact Below.refl _ _) | (with_reducible refine Below.alloc ?_ ?_ _) | (with_reducible refine Below.setCell ?_ ?_ _) | (with_reducible refine Below.drew ?_) | (with_reducible refine below_drewN ?_ _) | (with_reducible assumption) | (with_reducible refine below_after (by with_reducible assumption) ?_) | go_size))
        try (case d1 =>
               intro j u hj
               match j, hj with
               | 0, hj => simp at hj; subst hj; simp [Addr.add])
        try (case d2 => first | rfl | (intro u hu; simp at hu; subst hu; rfl))
        case d3 => have := HOL1.out; have := HL.out; unfold maxLen; omega
        case d4 => have := HOL1.out; have := HL.out; omega
        case d5 => first | (have h1 := HB1.out.size; (try simp only [World.size_alloc]); omega) | exact Below.size (below_after (w := w1) (by (repeat' (first | (with_reducible exact Below.refl _ _) | (with_reducible refine Below.alloc ?_ ?_ _) | (with_reducible refine Below.setCell ?_ ?_ _) | (with_reducible refine Below.drew ?_) | (with_reducible refine below_drewN ?_ _) | (with_reducible assumption) | (with_reducible refine below_after (by with_reducible assumption) ?_) | go_size))) HB1.out)
        intro v'' w2 hown' hgrow hnil hat
        have hb1 : Below w.heap.size w w2 := Below.grown (below_after (w := w1) (by (repeat' (first | (with_reducible exact Below.refl _ _) | (with_reducible refine Below.alloc ?_ ?_ _) | (with_reducible refine Below.setCell ?_ ?_ _) | (with_reducible refine Below.drew ?_) | (with_reducible refine below_drewN ?_ _) | (with_reducible assumption) | (with_reducible refine below_after (by with_reducible assumption) ?_) | go_size))) HB1.out) hgrow (Below.size (below_after (w := w1) (by (repeat' (first | (with_reducible exact Below.refl _ _) | (with_reducible refine Below.alloc ?_ ?_ _) | (with_reducible refine Below.setCell ?_ ?_ _) | (with_reducible refine Below.drew ?_) | (with_reducible refine below_drewN ?_ _) | (with_reducible assumption) | (with_reducible refine below_after (by with_reducible assumption) ?_) | go_size))) HB1.out)) (fun k hk => (World.ownsRow.lt HO1.out k hk).1)
        have hkq1 : Kp w1 w2 q1 := kp_app HK11.out.1 hgrow HV11.out
        have hkq2 : Kp w1 w2 q2 := kp_app HK21.out.1 hgrow HV21.out
        have hv1 : v''.ownBlock ≠ some q1 := far_app hat HV11.out HK11.out.1
        have hv2 : v''.ownBlock ≠ some q2 := far_app hat HV21.out HK21.out.1
        have HO2 := Lib.hid (own_snocI hown' rfl)
        have HB2 := Lib.hid hb1
        have HK12 := Lib.hid (HK11.out.trans hkq1)
        have HK22 := Lib.hid (HK21.out.trans hkq2)
        have HV12 := Lib.hid hv1
        have HV22 := Lib.hid hv2
        clear hown' hgrow hnil hat hb1 hkq1 hkq2 hv1 hv2
        obtain ⟨va2, vc2, rfl⟩ := own_viewI HO2.out
        go_wp2
        go_roundw
        case rel => exact ⟨j + 1, o1 ++ [y], va2, vc2, by have := HLT.out; omega, by rw [← HE1.out]; exact HST.out, by first | rfl | (simp; done), by go_num, HO2.out, HV12.out, HV22.out, HK12.out, HK22.out, HB2.out⟩
        case measure => have := HLT.out; simp [intOf]; omega
      · have hz2 : (snS cs).take (j + 1) = (snS cs).take j := by
          rw [List.take_of_length_le (by rw [HY.out]; omega), List.take_of_length_le (by rw [HY.out]; omega)]
        have HST : Hid (out ++ [x] = ilv ((lnS cs).take (j + 1)) ((snS cs).take (j + 1))) := by
          show _ = _
          rw [hz2, ilv_stepx (by rw [HX.out]; exact hlt) (by rw [HY.out]; have := HMZ.out; omega), hx, hout]
        have i3 : ¬ (j : Int) < (mz : Int) := by omega
        clear hO hv1 hv2 hk1 hk2 hbel hjm hout hol hx hz2
        go_wp2_with (first | (at_builtin; refine wpList_append_own_at _ rfl _ _ 32 rfl w.heap.size 2 ti0 (.int .i64 0) 1 8 Try.underlying32 hi hz0 hz1 hz2 rfl (by decide) _ _ _ rfl (own_below HO.out ?hb) ⟨_, 0, none⟩ 1 1 [.int .i64 (x)] rfl rfl ?c1 ?c2 ?c3 ?c4 ?c5 ?_))
        case hb => (repeat' (first | (with_reducible exact Below.refl _ _) | (with_reducible refine Below.alloc ?_ ?_ _) | (with_reducible refine Below.setCell ?_ ?_ _) | (with_reducible refine Below.drew ?_) | (with_reducible refine below_drewN ?_ _) | (with_reducible assumption) | (with_reducible refine below_after (by with_reducible assumption) ?_) | go_size))
        try (case c1 =>
               intro j u hj
               match j, hj with
               | 0, hj => simp at hj; subst hj; simp [Addr.add])
        try (case c2 => first | rfl | (intro u hu; simp at hu; subst hu; rfl))
        case c3 => have := HOL.out; have := HL.out; unfold maxLen; omega
        case c4 => have := HOL.out; have := HL.out; omega
        case c5 => first | (have h1 := HBL.out.size; (try simp only [World.size_alloc]); omega) | exact Below.size (below_after (w := wr) (by (repeat' (first | (with_reducible exact Below.refl _ _) | (with_reducible refine Below.alloc ?_ ?_ _) | (with_reducible refine Below.setCell ?_ ?_ _) | (with_reducible refine Below.drew ?_) | (with_reducible refine below_drewN ?_ _) | (with_reducible assumption) | (with_reducible refine below_after (by with_reducible assumption) ?_) | go_size))) HBL.out)
        intro v' w1 hown' hgrow hnil hat
        have hb1 : Below w.heap.size w w1 := Below.grown (below_after (w := wr) (by (repeat' (first | (with_reducible exact Below.refl _ _) | (with_reducible refine Below.alloc ?_ ?_ _) | (with_reducible refine Below.setCell ?_ ?_ _) | (with_reducible refine Below.drew ?_) | (with_reducible refine below_drewN ?_ _) | (with_reducible assumption) | (with_reducible refine below_after (by with_reducible assumption) ?_) | go_size))) HBL.out) hgrow (Below.size (below_after (w := wr) (by (repeat' (first | (with_reducible exact Below.refl _ _) | (with_reducible refine Below.alloc ?_ ?_ _) | (with_reducible refine Below.setCell ?_ ?_ _) | (with_reducible refine Below.drew ?_) | (with_reducible refine below_drewN ?_ _) | (with_reducible assumption) | (with_reducible refine below_after (by with_reducible assumption) ?_) | go_size))) HBL.out)) (fun k hk => (World.ownsRow.lt HO.out k hk).1)
        have hkq1 : Kp wr w1 q1 := kp_app HK1.out.1 hgrow HV1.out
        have hkq2 : Kp wr w1 q2 := kp_app HK2.out.1 hgrow HV2.out
        have hv1 : v'.ownBlock ≠ some q1 := far_app hat HV1.out HK1.out.1
        have hv2 : v'.ownBlock ≠ some q2 := far_app hat HV2.out HK2.out.1
        have HO1 := Lib.hid (own_snocI hown' rfl)
        have HB1 := Lib.hid hb1
        have HK11 := Lib.hid (HK1.out.trans hkq1)
        have HK21 := Lib.hid (HK2.out.trans hkq2)
        have HV11 := Lib.hid hv1
        have HV21 := Lib.hid hv2
        clear hown' hgrow hnil hat hb1 hkq1 hkq2 hv1 hv2
        obtain ⟨o1, ho1⟩ : ∃ o, out ++ [x] = o := ⟨_, rfl⟩
        rw [ho1] at HO1
        have HE1 := Lib.hid ho1
        have HOL1 : Hid (o1.length ≤ 4001) := by show o1.length ≤ 4001; rw [← ho1]; have := HOL.out; simp; omega
        clear ho1
        obtain ⟨va1, vc1, rfl⟩ := own_viewI HO1.out
        go_wp2
        go_roundw
        case rel => exact ⟨j + 1, o1, va1, vc1, by have := HLT.out; omega, by rw [← HE1.out]; exact HST.out, by first | rfl | (simp; done), by go_num, HO1.out, HV11.out, HV21.out, HK11.out, HK21.out, HB1.out⟩
        case measure => have := HLT.out; simp [intOf]; omega
    · have hjm2 : j = m := by omega
      have hfin : out = R := by
        rw [hout, hjm2, List.take_of_length_le (by rw [HX.out]; omega), List.take_of_length_le (by rw [HY.out]; have := HMZ.out; omega)]
        exact HR.out
      subst hfin
      have i1 : ¬ (j : Int) < (m : Int) := by omega
      clear hO hv1 hv2 hk1 hk2 hbel hjm hout hol hlt
      go_wp2
      go_ret2
      exact ⟨_, rfl, HO.out, HBL.out⟩
theorem spec_SequenceOf_any (a b c d : Int) (w : World) : Calls Try.prog 31 #[.agg #[.int .i64 a, .int .i64 b], .agg #[.int .i64 c, .int .i64 d]] w (RetIC w (sqR (a, b) (c, d)) (slC (a, b) (c, d))) := by
  rcases sl_cases (a, b) (c, d) with ⟨hc, _, _, _, h2, h3⟩ | ⟨hc, hn, _⟩
  · have hSP : ∀ w, Calls Try.prog 46 #[.agg #[.int .i64 a, .int .i64 b], .agg #[.int .i64 c, .int .i64 d]] w (RetPNC w (slL (a, b) (c, d)) (cnL (a, b) (c, d)) 0) := by
      intro w; have := l03Code_any a b c d w; rw [hc] at this; exact this
    unfold sqR
    rw [if_pos hc, hc]
    exact spec_SequenceOf_some a b c d _ _ _ w rfl h2 h3 (cnL_of _ _) hSP
  · have hSP : ∀ w, Calls Try.prog 46 #[.agg #[.int .i64 a, .int .i64 b], .agg #[.int .i64 c, .int .i64 d]] w (RetPNC w (slL (a, b) (c, d)) (cnL (a, b) (c, d)) (slC (a, b) (c, d))) := fun w => l03Code_any a b c d w
    unfold sqR
    rw [if_neg hc]
    generalize slC (a, b) (c, d) = C at *
    have HSP := Lib.hid hSP
    have hc2 : (C == 0) = false := by simpa using hc
    have hc3 : ¬ C = 0 := hc
    have hc4 : (C != 0) = true := by simpa using hc
    clear hSP hn
    have hs20 : w.heap.size < w.heap.size + 1 + 1 := (by omega); have hs30 : w.heap.size < w.heap.size + 1 + 1 + 1 := (by omega); have hs31 : w.heap.size + 1 < w.heap.size + 1 + 1 + 1 := (by omega)
    go_enter Try.func31, Try.ntmps31
    go_wp2_with (first | (go_at_call 46; refine (HSP.out _).mono ?_; rintro e wn hr; obtain ⟨va, vn, vc, na, nm, nc, rfl, hb⟩ := retpnc_none hr; clear hr; first | (have h2 := after_call2 hb hcl hfr hlt (by ((repeat' (first | (with_reducible exact Below.refl _ _) | (with_reducible refine Below.alloc ?_ ?_ _) | (with_reducible refine Below.setCell ?_ ?_ _) | (with_reducible refine Below.drew ?_) | (with_reducible refine below_drewN ?_ _) | (with_reducible assumption) | (with_reducible refine below_after (by with_reducible assumption) ?_) | go_size)); done)); obtain ⟨hclx, hfrx, hltx, hsz⟩ := after_call hb; (try simp only [World.size_alloc, World.size_setCell, World.size_drew] at hclx hfrx hltx hsz); (try (have hszl := Nat.lt_of_succ_le hsz)); obtain ⟨hcl, hfr, hlt⟩ := h2) | (obtain ⟨hcl, hfr, hlt, hsz⟩ := after_call hb; (try simp only [World.size_alloc, World.size_setCell, World.size_drew] at hcl hfr hlt hsz))))
    go_ret2
    exact ⟨_, rfl, World.ownsRow_nil _ _ _ _, by (repeat' (first | (with_reducible exact Below.refl _ _) | (with_reducible refine Below.alloc ?_ ?_ _) | (with_reducible refine Below.setCell ?_ ?_ _) | (with_reducible refine Below.drew ?_) | (with_reducible refine below_drewN ?_ _) | (with_reducible assumption) | (with_reducible refine below_after (by with_reducible assumption) ?_) | go_size))⟩
end Go.Proofs.Ytjiaokcbhpmodaa
