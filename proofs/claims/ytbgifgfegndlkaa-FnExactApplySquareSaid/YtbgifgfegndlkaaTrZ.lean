/-
  Whole runs, their lengths and ends, and the shortest rule (own work).
-/
import Derived.Test.YtbgifgfegndlkaaTrY
namespace Go.Proofs.Ytbgifgfegndlkaa
open Go.ChangeShapes Go.WideShapes Go.ChangeAt Go.RowKit
set_option linter.unusedVariables false
set_option linter.unusedSimpArgs false
set_option maxRecDepth 100000

theorem last_get : ∀ (l : List T3) (m : Nat), l.length = m + 1 → l[m]? = some (lastT l)
  | [], m, h => by simp at h
  | [t], m, h => by
    have : m = 0 := by simpa using h.symm
    subst this
    rfl
  | s :: t :: l, m, h => by
    obtain ⟨m, rfl⟩ : ∃ k, m = k + 1 := ⟨m - 1, by simp at h; omega⟩
    have ih := last_get (t :: l) m (by simpa using h)
    simpa [lastT] using ih
/-- The last triple of a list of the call's own, cell by cell. -/
theorem own_last {B : Nat} {w : World} {v : Value} {l : List T3} {m : Nat} (h : OwnT B w v l) (hm : l.length = m + 1) :
    ∃ g cap, v = .slice (some ⟨g, 0, none⟩) (m + 1) cap ∧ g < w.heap.size ∧ ∀ W, OwnT B W (.slice (some ⟨g, 0, none⟩) (m + 1) cap) l → W.cell? ⟨g, m * 3, none⟩ = some (.int .i64 (lastT l).1) ∧ W.cell? ⟨g, m * 3 + 1, none⟩ = some (.int .i64 (lastT l).2.1) ∧ W.cell? ⟨g, m * 3 + 1 + 1, none⟩ = some (.int .i64 (lastT l).2.2) := by
  obtain ⟨a, cap, rfl, f⟩ := viewOwnTr h
  obtain ⟨g, rfl, _, hg, _⟩ := f (by omega)
  rw [hm]
  refine ⟨g, cap, rfl, hg, fun W hW => ?_⟩
  obtain ⟨a', cap', e, f'⟩ := viewOwnTr hW
  obtain ⟨g', ha, _, _, hc, _⟩ := f' (by omega)
  simp only [Value.slice.injEq] at e
  rw [← e.1] at ha
  simp only [Option.some.injEq, Addr.mk.injEq, and_true] at ha
  subst ha
  obtain ⟨h0, h1, h2⟩ := flT_at l m _ (last_get l m hm)
  exact ⟨by rw [hc _ (by omega), h0], by rw [hc _ (by omega), h1], by rw [hc _ (by omega), h2]⟩
theorem inv_na (k : Nat) (hk : k < 4) : ∀ w, (Go.nilAhead 232 (rt k) (.agg #[]) "loop.example/g01297/impl.hasEnded").run Try.prog w = .ok (some false) w := by
  match k, hk with
  | 0, _ => exact fun _ => by kernel_rfl
  | 1, _ => exact fun _ => by kernel_rfl
  | 2, _ => exact fun _ => by kernel_rfl
  | 3, _ => exact fun _ => by kernel_rfl
/-- What a whole run has. -/
def whV (a b c r : Int) : List T3 := if lnK a b c r = 0 then runT r.toNat 300 (a, b, c) else []
theorem lnK_zero {a b c r : Int} (h : lnK a b c r = 0) : scd a b c r = 0 ∧ eB (enO a b c r) = true := by
  unfold lnK at h
  by_cases h0 : scd a b c r = 0
  · rw [if_pos h0] at h
    by_cases h1 : eB (enO a b c r) = true
    · exact ⟨h0, h1⟩
    · rw [if_neg h1] at h; cases h
  · rw [if_neg h0] at h
    exact absurd h h0
/-- The list of a whole run: one longer than its length, the end last. -/
theorem whV_end {a b c r : Int} (h : lnK a b c r = 0) : ∃ m : Nat, (whV a b c r).length = m + 1 ∧ m ≤ 300 ∧ lnV a b c r = (m : Int) ∧ lastT (whV a b c r) = edV a b c r := by
  obtain ⟨h0, h1⟩ := lnK_zero h
  unfold whV lnV edV
  rw [if_pos h, if_pos h0, if_pos h0]
  unfold enO at *
  have hr := run_end r.toNat 300 (a, b, c)
  cases ho : endF r.toNat 300 (a, b, c) with
  | none => rw [ho] at h1; cases h1
  | some p =>
    rw [ho] at hr
    exact ⟨p.2, hr.1, endF_le _ _ _ ho, rfl, hr.2.1⟩
set_option maxHeartbeats 3200000 in
theorem wholeRun_any (a b c r : Int) (w : World) : Calls Try.prog 68 #[.agg #[.int .i64 a, .int .i64 b, .int .i64 c], .int .i64 r] w fun e w' => ∃ v, e = .returned (.tuple #[v, .int .i64 (lnK a b c r)]) ∧ OwnT w.heap.size w' v (whV a b c r) ∧ Below w.heap.size w w' := by
  have HR := Lib.hid (fun w => impl_RunTriple_any a b c r 300 w)
  rw [← scd_rcd a b c r 300 (by omega)] at HR
  rcases scd_cases a b c r with ⟨h0, hs, k, rfl, hk⟩ | ⟨h0, h1⟩
  · have HRV : runV a b c (k : Int) 300 = runT k 300 (a, b, c) := by
      unfold runV
      rw [if_pos (by rw [← scd_rcd a b c (k : Int) 300 (by omega)]; exact h0)]
      rfl
    rw [HRV, h0] at HR
    have hre := run_end k 300 (a, b, c)
    obtain ⟨m, hm⟩ : ∃ m, (runT k 300 (a, b, c)).length = m + 1 := by
      obtain ⟨l, hl⟩ := runT_cons k 300 (a, b, c)
      exact ⟨l.length, by rw [hl]; rfl⟩
    have hm3 : m ≤ 300 := by
      have h := (runL_len k 300 (s0S (a, b, c))).2
      have e := runT_map k 300 (s0S (a, b, c))
      have e2 := congrArg List.length e
      rw [List.length_map] at e2
      have e3 : (runT k 300 (s0S (a, b, c)).1).length = m + 1 := hm
      omega
    have HRUL := Lib.hid (fun w => ruleOf_b k w hk)
    obtain ⟨FE, hmE, hcE, hE⟩ := inv_end k hk
    have hna := inv_na k hk
    obtain ⟨E, hEn⟩ : ∃ E, enT k (lastT (runT k 300 (a, b, c))) = E := ⟨_, rfl⟩
    have HWH : Hid (whV a b c (k : Int) = if E = true then runT k 300 (a, b, c) else []) := by
      show _ = _
      unfold whV lnK enO
      rw [if_pos h0, Int.toNat_natCast]
      cases ho : endF k 300 (a, b, c) with
      | none => rw [ho] at hre; simp only at hre; rw [← hEn, hre]; simp [eB]
      | some p => rw [ho] at hre; simp only at hre; rw [← hEn, hre.2.1, hre.2.2]; simp [eB]
    have HLK : Hid (lnK a b c (k : Int) = if E = true then 0 else 3) := by
      show _ = _
      unfold lnK enO
      rw [if_pos h0, Int.toNat_natCast]
      cases ho : endF k 300 (a, b, c) with
      | none => rw [ho] at hre; simp only at hre; rw [← hEn, hre]; simp [eB]
      | some p => rw [ho] at hre; simp only at hre; rw [← hEn, hre.2.1, hre.2.2]; simp [eB]
    rw [HLK.out]
    obtain ⟨L, hL⟩ : ∃ L, runT k 300 (a, b, c) = L := ⟨_, rfl⟩
    rw [hL] at HR hm hEn HWH
    obtain ⟨⟨X, Y, Z⟩, hX⟩ : ∃ s, lastT L = s := ⟨_, rfl⟩
    have HE : Hid (∀ w, Calls Try.prog FE #[.agg #[], .agg #[.int .i64 X, .int .i64 Y, .int .i64 Z]] w fun e w' => e = .returned (.bool E) ∧ Below w.heap.size w w') := by
      have := fun w => hE X Y Z w trivial
      rw [hX] at hEn
      rw [show rEnd k Y Z = E from hEn] at this
      exact this
    have HLEN := Lib.hid hm
    obtain ⟨T, hT⟩ : ∃ T, rt k = T := ⟨_, rfl⟩
    rw [hT] at HRUL hmE
    simp only [hT] at hna
    have hmf : ∀ (fn : Fn) (first cap : Array Value) (w : World), (Instr.makeFunc fn first cap).run Try.prog w = .ok (.func fn first cap) w := fun _ _ _ _ => rfl
    have HXE := Lib.hid hX
    cases E
    · simp only [Bool.false_eq_true, if_false] at HWH ⊢
      clear hT hs hk h0 hE hEn hL HRV hre hm HLK hX
      obtain ⟨GT, hG⟩ : ∃ G, w.heap.size = G := ⟨_, rfl⟩
      have HG := Lib.hid hG
      go_enter Try.func68, Try.ntmps68
      go_upto_region 1 with fail
      obtain ⟨w0, hw0⟩ : ∃ w0, w0 = (w.alloc (.cells #[.int .i64 a, .int .i64 b, .int .i64 c] 24)) := ⟨_, rfl⟩
      rw [← hw0]
      have HT : Hid (Bk3 w0 GT a b c) := by
        have h := (bk3_new w a b c 24).below (W' := (w.alloc (.cells #[.int .i64 a, .int .i64 b, .int .i64 c] 24))) (by (repeat' (first | (with_reducible exact Below.refl _ _) | (with_reducible refine Below.alloc ?_ ?_ _) | (with_reducible refine Below.setCell ?_ ?_ _) | (with_reducible refine Below.drew ?_) | (with_reducible refine below_drewN ?_ _) | (with_reducible assumption) | (with_reducible refine below_after (by with_reducible assumption) ?_) | go_size)))
        (try simp only [World.size_alloc] at h)
        rw [hG] at h
        rw [hw0]; exact h
      have HB : Hid (Below w.heap.size w w0) := by show Below w.heap.size w w0; rw [hw0]; (repeat' (first | (with_reducible exact Below.refl _ _) | (with_reducible refine Below.alloc ?_ ?_ _) | (with_reducible refine Below.setCell ?_ ?_ _) | (with_reducible refine Below.drew ?_) | (with_reducible refine below_drewN ?_ _) | (with_reducible assumption) | (with_reducible refine below_after (by with_reducible assumption) ?_) | go_size))
      clear hw0
      have le_T : w.heap.size ≤ GT := by omega
      have HB0 := HB
      obtain ⟨⟨qT0, qT1, qT2⟩, ⟨fT0, fT1, fT2⟩, zT⟩ := HT.out
      go_wp2_with fail
      go_at_call 27
      refine (HR.out _).mono ?_
      rintro e w1 ⟨v, rfl, ho, hb⟩
      clear qT0 fT0 qT1 fT1 qT2 fT2 zT
      have HT := Lib.hid (HT.out.below hb)
      have HB := Lib.hid (below_after hb HB.out)
      clear hb

      have HY : Hid (OwnT w.heap.size _ v L) := own_up ho HB0.out.size
      obtain ⟨g, cap, rfl, hg, hlc⟩ := own_last HY.out HLEN.out
      rw [HXE.out] at hlc
      simp only at hlc
      have HLC := Lib.hid hlc
      clear ho hg hlc
      clear HT
      have hwm : IntKind.i64.wrap ((m : Int) + 1 - 1) = (m : Int) := by rw [IntKind.wrap_i64]; omega
      have hwm2 : IntKind.i64.wrap (m : Int) = (m : Int) := by rw [IntKind.wrap_i64]; omega
      have i0 : (0 : Int) ≤ (m : Int) := by omega
      have i1 : (m : Int) < (m : Int) + 1 := by omega
      go_wp2_with fail
      refine wp_region_held_drew (S := fun W => Below w.heap.size w W ∧ OwnT w.heap.size W (.slice (some ⟨g, 0, none⟩) (m + 1) cap) L) (by kernel_rfl) ?_ (fun hHeld => ?_); focus ((try dsimp only); exact ⟨Below.drew HB.out, HY.out.below (Below.drew (Below.refl _ _))⟩)
      have HY := Lib.hid (HY.out.below (Below.drew (Below.refl _ _)))
      have hHeld : (fun W => Below w.heap.size w W ∧ OwnT w.heap.size W (.slice (some ⟨g, 0, none⟩) (m + 1) cap) L) _ := hHeld
      obtain ⟨wD1, hwD1⟩ : ∃ wD, w1.drew = wD := ⟨_, rfl⟩
      rw [hwD1] at hHeld HY ⊢
      clear hwD1
      (refine wpAnyH_take (i := 0) (v := ?_) rfl (by kernel_rfl) (by kernel_rfl) (by kernel_rfl) (fun _ _ _ h => h) (Or.inl ⟨rfl, ?_⟩) (by assumption) ?_; rotate_left; focus (intro W hSw; (try dsimp only at hSw); obtain ⟨hSb, hxY⟩ := hSw; obtain ⟨l0, l1, l2⟩ := HLC.out _ hxY; obtain jY := hxY; go_simp; try (with_reducible rfl))); (try simp only [Act.put, List.getElem_toArray, List.getElem_cons_succ, List.getElem_cons_zero, List.setIfInBounds_toArray, List.set_cons_zero, List.set_cons_succ])
      (refine wpAnyH_take (i := 2) (v := ?_) rfl (by kernel_rfl) (by kernel_rfl) (by kernel_rfl) (fun _ _ _ h => h) (Or.inl ⟨rfl, ?_⟩) (by assumption) ?_; rotate_left; focus (intro W hSw; (try dsimp only at hSw); obtain ⟨hSb, hxY⟩ := hSw; obtain ⟨l0, l1, l2⟩ := HLC.out _ hxY; obtain jY := hxY; go_simp; try (with_reducible rfl))); (try simp only [Act.put, List.getElem_toArray, List.getElem_cons_succ, List.getElem_cons_zero, List.setIfInBounds_toArray, List.set_cons_zero, List.set_cons_succ])
      (refine wpAnyH_take (i := 3) (v := ?_) rfl (by kernel_rfl) (by kernel_rfl) (by kernel_rfl) (fun _ _ _ h => h) (Or.inl ⟨rfl, ?_⟩) (by assumption) ?_; rotate_left; focus (intro W hSw; (try dsimp only at hSw); obtain ⟨hSb, hxY⟩ := hSw; obtain ⟨l0, l1, l2⟩ := HLC.out _ hxY; obtain jY := hxY; go_simp; try (with_reducible rfl))); (try simp only [Act.put, List.getElem_toArray, List.getElem_cons_succ, List.getElem_cons_zero, List.setIfInBounds_toArray, List.set_cons_zero, List.set_cons_succ])
      (refine wpAnyH_take (i := 4) (v := ?_) rfl (by kernel_rfl) (by kernel_rfl) (by kernel_rfl) (fun _ _ _ h => h) (Or.inl ⟨rfl, ?_⟩) (by assumption) ?_; rotate_left; focus (intro W hSw; (try dsimp only at hSw); obtain ⟨hSb, hxY⟩ := hSw; obtain ⟨l0, l1, l2⟩ := HLC.out _ hxY; obtain jY := hxY; go_simp; try (with_reducible rfl))); (try simp only [Act.put, List.getElem_toArray, List.getElem_cons_succ, List.getElem_cons_zero, List.setIfInBounds_toArray, List.set_cons_zero, List.set_cons_succ])
      (refine wpAnyH_take (i := 5) (v := ?_) rfl (by kernel_rfl) (by kernel_rfl) (by kernel_rfl) (fun _ _ _ h => h) (Or.inl ⟨rfl, ?_⟩) (by assumption) ?_; rotate_left; focus (intro W hSw; (try dsimp only at hSw); obtain ⟨hSb, hxY⟩ := hSw; obtain ⟨l0, l1, l2⟩ := HLC.out _ hxY; obtain jY := hxY; go_simp; try (with_reducible rfl))); (try simp only [Act.put, List.getElem_toArray, List.getElem_cons_succ, List.getElem_cons_zero, List.setIfInBounds_toArray, List.set_cons_zero, List.set_cons_succ])
      (refine wpAnyH_take (i := 6) (v := ?_) rfl (by kernel_rfl) (by kernel_rfl) (by kernel_rfl) (fun _ _ _ h => h) (Or.inl ⟨rfl, ?_⟩) (by assumption) ?_; rotate_left; focus (intro W hSw; (try dsimp only at hSw); obtain ⟨hSb, hxY⟩ := hSw; obtain ⟨l0, l1, l2⟩ := HLC.out _ hxY; obtain jY := hxY; go_simp; try (with_reducible rfl))); (try simp only [Act.put, List.getElem_toArray, List.getElem_cons_succ, List.getElem_cons_zero, List.setIfInBounds_toArray, List.set_cons_zero, List.set_cons_succ])
      (refine wpAnyH_take (i := 7) (v := ?_) rfl (by kernel_rfl) (by kernel_rfl) (by kernel_rfl) (fun _ _ _ h => h) (Or.inl ⟨rfl, ?_⟩) (by assumption) ?_; rotate_left; focus (intro W hSw; (try dsimp only at hSw); obtain ⟨hSb, hxY⟩ := hSw; obtain ⟨l0, l1, l2⟩ := HLC.out _ hxY; obtain jY := hxY; go_simp; try (with_reducible rfl))); (try simp only [Act.put, List.getElem_toArray, List.getElem_cons_succ, List.getElem_cons_zero, List.setIfInBounds_toArray, List.set_cons_zero, List.set_cons_succ])
      refine wpAnyH_ready (rs := [1]) (by kernel_rfl) (by simp) ?_; refine AllReadyH.cons rfl (fun K hK => ?_) AllReadyH.nil
      go_simp; (go_at_call 63; refine (HRUL.out _).mono ?_; rintro en ywr1x0 ⟨rfl, hb2⟩); have HY := Lib.hid (HY.out.below hb2); refine hK.out _ _ ⟨below_after hb2 hHeld.1, HY.out⟩ (fun hHeld2 => ?_); clear hb2; (clear hHeld; rename _ => hHeld; clear hK K; have hHeld : (fun W => Below w.heap.size w W ∧ OwnT w.heap.size W (.slice (some ⟨g, 0, none⟩) (m + 1) cap) L) _ := hHeld); (try simp only [Act.put, List.getElem_toArray, List.getElem_cons_succ, List.getElem_cons_zero, List.setIfInBounds_toArray, List.set_cons_zero, List.set_cons_succ])
      (refine wpAnyH_take (i := 8) (v := ?_) rfl (by kernel_rfl) (by kernel_rfl) (by kernel_rfl) (fun _ _ _ h => h) (Or.inl ⟨rfl, ?_⟩) (by assumption) ?_; rotate_left; focus (intro W hSw; (try dsimp only at hSw); obtain ⟨hSb, hxY⟩ := hSw; obtain ⟨l0, l1, l2⟩ := HLC.out _ hxY; obtain jY := hxY; go_simp; try (with_reducible rfl))); (try simp only [Act.put, List.getElem_toArray, List.getElem_cons_succ, List.getElem_cons_zero, List.setIfInBounds_toArray, List.set_cons_zero, List.set_cons_succ])
      (refine wpAnyH_take (i := 9) (v := ?_) rfl (by kernel_rfl) (by kernel_rfl) (by kernel_rfl) (fun _ _ _ h => h) (Or.inl ⟨rfl, ?_⟩) (by assumption) ?_; rotate_left; focus (intro W hSw; (try dsimp only at hSw); obtain ⟨hSb, hxY⟩ := hSw; obtain ⟨l0, l1, l2⟩ := HLC.out _ hxY; obtain jY := hxY; go_simp; try (with_reducible rfl))); (try simp only [Act.put, List.getElem_toArray, List.getElem_cons_succ, List.getElem_cons_zero, List.setIfInBounds_toArray, List.set_cons_zero, List.set_cons_succ])
      (refine wpAnyH_take (i := 10) (v := ?_) rfl (by kernel_rfl) (by kernel_rfl) (by kernel_rfl) (fun _ _ _ h => h) (Or.inl ⟨rfl, ?_⟩) (by assumption) ?_; rotate_left; focus (intro W hSw; (try dsimp only at hSw); obtain ⟨hSb, hxY⟩ := hSw; obtain ⟨l0, l1, l2⟩ := HLC.out _ hxY; obtain jY := hxY; go_simp; try (with_reducible rfl))); (try simp only [Act.put, List.getElem_toArray, List.getElem_cons_succ, List.getElem_cons_zero, List.setIfInBounds_toArray, List.set_cons_zero, List.set_cons_succ])
      refine wpAnyH_ready (rs := [11]) (by kernel_rfl) (by simp) ?_; refine AllReadyH.cons rfl (fun K hK => ?_) AllReadyH.nil
      go_simp; refine (HE.out _).mono ?_; rintro en ywr1x1 ⟨rfl, hb2⟩; have HY := Lib.hid (HY.out.below hb2); refine hK.out _ _ ⟨below_after hb2 hHeld.1, HY.out⟩ (fun hHeld2 => ?_); clear hb2; (clear hHeld; rename _ => hHeld; clear hK K; have hHeld : (fun W => Below w.heap.size w W ∧ OwnT w.heap.size W (.slice (some ⟨g, 0, none⟩) (m + 1) cap) L) _ := hHeld); (try simp only [Act.put, List.getElem_toArray, List.getElem_cons_succ, List.getElem_cons_zero, List.setIfInBounds_toArray, List.set_cons_zero, List.set_cons_succ])
      (refine wpAnyH_take (i := 12) (v := ?_) rfl (by kernel_rfl) (by kernel_rfl) (by kernel_rfl) (fun _ _ _ h => h) (Or.inl ⟨rfl, ?_⟩) (by assumption) ?_; rotate_left; focus (intro W hSw; (try dsimp only at hSw); obtain ⟨hSb, hxY⟩ := hSw; obtain ⟨l0, l1, l2⟩ := HLC.out _ hxY; obtain jY := hxY; go_simp; try (with_reducible rfl))); (try simp only [Act.put, List.getElem_toArray, List.getElem_cons_succ, List.getElem_cons_zero, List.setIfInBounds_toArray, List.set_cons_zero, List.set_cons_succ])
      refine wpAnyH_done (by kernel_rfl) ?_ _
      have HB := Lib.hid (hHeld.1)
      clear hHeld
      go_wp2_with fail
      refine bodyPost_ret (v := .tuple #[.slice none 0 0, .int .i64 3]) (by simp (maxDischargeDepth := 8) [results, Try.results68, go_sem, *]) rfl ?_
      have hb := HB.out
      refine ⟨_, rfl, ?_, by (repeat' (first | (with_reducible exact Below.refl _ _) | (with_reducible refine Below.alloc ?_ ?_ _) | (with_reducible refine Below.setCell ?_ ?_ _) | (with_reducible refine Below.drew ?_) | (with_reducible refine below_drewN ?_ _) | (with_reducible assumption) | (with_reducible refine below_after (by with_reducible assumption) ?_) | go_size))⟩
      rw [HWH.out]
      exact World.ownsRow_nil _ _ _ _
    · simp only [if_true] at HWH ⊢
      clear hT hs hk h0 hE hEn hL HRV hre hm HLK hX
      obtain ⟨GT, hG⟩ : ∃ G, w.heap.size = G := ⟨_, rfl⟩
      have HG := Lib.hid hG
      go_enter Try.func68, Try.ntmps68
      go_upto_region 1 with fail
      obtain ⟨w0, hw0⟩ : ∃ w0, w0 = (w.alloc (.cells #[.int .i64 a, .int .i64 b, .int .i64 c] 24)) := ⟨_, rfl⟩
      rw [← hw0]
      have HT : Hid (Bk3 w0 GT a b c) := by
        have h := (bk3_new w a b c 24).below (W' := (w.alloc (.cells #[.int .i64 a, .int .i64 b, .int .i64 c] 24))) (by (repeat' (first | (with_reducible exact Below.refl _ _) | (with_reducible refine Below.alloc ?_ ?_ _) | (with_reducible refine Below.setCell ?_ ?_ _) | (with_reducible refine Below.drew ?_) | (with_reducible refine below_drewN ?_ _) | (with_reducible assumption) | (with_reducible refine below_after (by with_reducible assumption) ?_) | go_size)))
        (try simp only [World.size_alloc] at h)
        rw [hG] at h
        rw [hw0]; exact h
      have HB : Hid (Below w.heap.size w w0) := by show Below w.heap.size w w0; rw [hw0]; (repeat' (first | (with_reducible exact Below.refl _ _) | (with_reducible refine Below.alloc ?_ ?_ _) | (with_reducible refine Below.setCell ?_ ?_ _) | (with_reducible refine Below.drew ?_) | (with_reducible refine below_drewN ?_ _) | (with_reducible assumption) | (with_reducible refine below_after (by with_reducible assumption) ?_) | go_size))
      clear hw0
      have le_T : w.heap.size ≤ GT := by omega
      have HB0 := HB
      obtain ⟨⟨qT0, qT1, qT2⟩, ⟨fT0, fT1, fT2⟩, zT⟩ := HT.out
      go_wp2_with fail
      go_at_call 27
      refine (HR.out _).mono ?_
      rintro e w1 ⟨v, rfl, ho, hb⟩
      clear qT0 fT0 qT1 fT1 qT2 fT2 zT
      have HT := Lib.hid (HT.out.below hb)
      have HB := Lib.hid (below_after hb HB.out)
      clear hb

      have HY : Hid (OwnT w.heap.size _ v L) := own_up ho HB0.out.size
      obtain ⟨g, cap, rfl, hg, hlc⟩ := own_last HY.out HLEN.out
      rw [HXE.out] at hlc
      simp only at hlc
      have HLC := Lib.hid hlc
      clear ho hg hlc
      clear HT
      have hwm : IntKind.i64.wrap ((m : Int) + 1 - 1) = (m : Int) := by rw [IntKind.wrap_i64]; omega
      have hwm2 : IntKind.i64.wrap (m : Int) = (m : Int) := by rw [IntKind.wrap_i64]; omega
      have i0 : (0 : Int) ≤ (m : Int) := by omega
      have i1 : (m : Int) < (m : Int) + 1 := by omega
      go_wp2_with fail
      refine wp_region_held_drew (S := fun W => Below w.heap.size w W ∧ OwnT w.heap.size W (.slice (some ⟨g, 0, none⟩) (m + 1) cap) L) (by kernel_rfl) ?_ (fun hHeld => ?_); focus ((try dsimp only); exact ⟨Below.drew HB.out, HY.out.below (Below.drew (Below.refl _ _))⟩)
      have HY := Lib.hid (HY.out.below (Below.drew (Below.refl _ _)))
      have hHeld : (fun W => Below w.heap.size w W ∧ OwnT w.heap.size W (.slice (some ⟨g, 0, none⟩) (m + 1) cap) L) _ := hHeld
      obtain ⟨wD1, hwD1⟩ : ∃ wD, w1.drew = wD := ⟨_, rfl⟩
      rw [hwD1] at hHeld HY ⊢
      clear hwD1
      (refine wpAnyH_take (i := 0) (v := ?_) rfl (by kernel_rfl) (by kernel_rfl) (by kernel_rfl) (fun _ _ _ h => h) (Or.inl ⟨rfl, ?_⟩) (by assumption) ?_; rotate_left; focus (intro W hSw; (try dsimp only at hSw); obtain ⟨hSb, hxY⟩ := hSw; obtain ⟨l0, l1, l2⟩ := HLC.out _ hxY; obtain jY := hxY; go_simp; try (with_reducible rfl))); (try simp only [Act.put, List.getElem_toArray, List.getElem_cons_succ, List.getElem_cons_zero, List.setIfInBounds_toArray, List.set_cons_zero, List.set_cons_succ])
      (refine wpAnyH_take (i := 2) (v := ?_) rfl (by kernel_rfl) (by kernel_rfl) (by kernel_rfl) (fun _ _ _ h => h) (Or.inl ⟨rfl, ?_⟩) (by assumption) ?_; rotate_left; focus (intro W hSw; (try dsimp only at hSw); obtain ⟨hSb, hxY⟩ := hSw; obtain ⟨l0, l1, l2⟩ := HLC.out _ hxY; obtain jY := hxY; go_simp; try (with_reducible rfl))); (try simp only [Act.put, List.getElem_toArray, List.getElem_cons_succ, List.getElem_cons_zero, List.setIfInBounds_toArray, List.set_cons_zero, List.set_cons_succ])
      (refine wpAnyH_take (i := 3) (v := ?_) rfl (by kernel_rfl) (by kernel_rfl) (by kernel_rfl) (fun _ _ _ h => h) (Or.inl ⟨rfl, ?_⟩) (by assumption) ?_; rotate_left; focus (intro W hSw; (try dsimp only at hSw); obtain ⟨hSb, hxY⟩ := hSw; obtain ⟨l0, l1, l2⟩ := HLC.out _ hxY; obtain jY := hxY; go_simp; try (with_reducible rfl))); (try simp only [Act.put, List.getElem_toArray, List.getElem_cons_succ, List.getElem_cons_zero, List.setIfInBounds_toArray, List.set_cons_zero, List.set_cons_succ])
      (refine wpAnyH_take (i := 4) (v := ?_) rfl (by kernel_rfl) (by kernel_rfl) (by kernel_rfl) (fun _ _ _ h => h) (Or.inl ⟨rfl, ?_⟩) (by assumption) ?_; rotate_left; focus (intro W hSw; (try dsimp only at hSw); obtain ⟨hSb, hxY⟩ := hSw; obtain ⟨l0, l1, l2⟩ := HLC.out _ hxY; obtain jY := hxY; go_simp; try (with_reducible rfl))); (try simp only [Act.put, List.getElem_toArray, List.getElem_cons_succ, List.getElem_cons_zero, List.setIfInBounds_toArray, List.set_cons_zero, List.set_cons_succ])
      (refine wpAnyH_take (i := 5) (v := ?_) rfl (by kernel_rfl) (by kernel_rfl) (by kernel_rfl) (fun _ _ _ h => h) (Or.inl ⟨rfl, ?_⟩) (by assumption) ?_; rotate_left; focus (intro W hSw; (try dsimp only at hSw); obtain ⟨hSb, hxY⟩ := hSw; obtain ⟨l0, l1, l2⟩ := HLC.out _ hxY; obtain jY := hxY; go_simp; try (with_reducible rfl))); (try simp only [Act.put, List.getElem_toArray, List.getElem_cons_succ, List.getElem_cons_zero, List.setIfInBounds_toArray, List.set_cons_zero, List.set_cons_succ])
      (refine wpAnyH_take (i := 6) (v := ?_) rfl (by kernel_rfl) (by kernel_rfl) (by kernel_rfl) (fun _ _ _ h => h) (Or.inl ⟨rfl, ?_⟩) (by assumption) ?_; rotate_left; focus (intro W hSw; (try dsimp only at hSw); obtain ⟨hSb, hxY⟩ := hSw; obtain ⟨l0, l1, l2⟩ := HLC.out _ hxY; obtain jY := hxY; go_simp; try (with_reducible rfl))); (try simp only [Act.put, List.getElem_toArray, List.getElem_cons_succ, List.getElem_cons_zero, List.setIfInBounds_toArray, List.set_cons_zero, List.set_cons_succ])
      (refine wpAnyH_take (i := 7) (v := ?_) rfl (by kernel_rfl) (by kernel_rfl) (by kernel_rfl) (fun _ _ _ h => h) (Or.inl ⟨rfl, ?_⟩) (by assumption) ?_; rotate_left; focus (intro W hSw; (try dsimp only at hSw); obtain ⟨hSb, hxY⟩ := hSw; obtain ⟨l0, l1, l2⟩ := HLC.out _ hxY; obtain jY := hxY; go_simp; try (with_reducible rfl))); (try simp only [Act.put, List.getElem_toArray, List.getElem_cons_succ, List.getElem_cons_zero, List.setIfInBounds_toArray, List.set_cons_zero, List.set_cons_succ])
      refine wpAnyH_ready (rs := [1]) (by kernel_rfl) (by simp) ?_; refine AllReadyH.cons rfl (fun K hK => ?_) AllReadyH.nil
      go_simp; (go_at_call 63; refine (HRUL.out _).mono ?_; rintro en ywr1x0 ⟨rfl, hb2⟩); have HY := Lib.hid (HY.out.below hb2); refine hK.out _ _ ⟨below_after hb2 hHeld.1, HY.out⟩ (fun hHeld2 => ?_); clear hb2; (clear hHeld; rename _ => hHeld; clear hK K; have hHeld : (fun W => Below w.heap.size w W ∧ OwnT w.heap.size W (.slice (some ⟨g, 0, none⟩) (m + 1) cap) L) _ := hHeld); (try simp only [Act.put, List.getElem_toArray, List.getElem_cons_succ, List.getElem_cons_zero, List.setIfInBounds_toArray, List.set_cons_zero, List.set_cons_succ])
      (refine wpAnyH_take (i := 8) (v := ?_) rfl (by kernel_rfl) (by kernel_rfl) (by kernel_rfl) (fun _ _ _ h => h) (Or.inl ⟨rfl, ?_⟩) (by assumption) ?_; rotate_left; focus (intro W hSw; (try dsimp only at hSw); obtain ⟨hSb, hxY⟩ := hSw; obtain ⟨l0, l1, l2⟩ := HLC.out _ hxY; obtain jY := hxY; go_simp; try (with_reducible rfl))); (try simp only [Act.put, List.getElem_toArray, List.getElem_cons_succ, List.getElem_cons_zero, List.setIfInBounds_toArray, List.set_cons_zero, List.set_cons_succ])
      (refine wpAnyH_take (i := 9) (v := ?_) rfl (by kernel_rfl) (by kernel_rfl) (by kernel_rfl) (fun _ _ _ h => h) (Or.inl ⟨rfl, ?_⟩) (by assumption) ?_; rotate_left; focus (intro W hSw; (try dsimp only at hSw); obtain ⟨hSb, hxY⟩ := hSw; obtain ⟨l0, l1, l2⟩ := HLC.out _ hxY; obtain jY := hxY; go_simp; try (with_reducible rfl))); (try simp only [Act.put, List.getElem_toArray, List.getElem_cons_succ, List.getElem_cons_zero, List.setIfInBounds_toArray, List.set_cons_zero, List.set_cons_succ])
      (refine wpAnyH_take (i := 10) (v := ?_) rfl (by kernel_rfl) (by kernel_rfl) (by kernel_rfl) (fun _ _ _ h => h) (Or.inl ⟨rfl, ?_⟩) (by assumption) ?_; rotate_left; focus (intro W hSw; (try dsimp only at hSw); obtain ⟨hSb, hxY⟩ := hSw; obtain ⟨l0, l1, l2⟩ := HLC.out _ hxY; obtain jY := hxY; go_simp; try (with_reducible rfl))); (try simp only [Act.put, List.getElem_toArray, List.getElem_cons_succ, List.getElem_cons_zero, List.setIfInBounds_toArray, List.set_cons_zero, List.set_cons_succ])
      refine wpAnyH_ready (rs := [11]) (by kernel_rfl) (by simp) ?_; refine AllReadyH.cons rfl (fun K hK => ?_) AllReadyH.nil
      go_simp; refine (HE.out _).mono ?_; rintro en ywr1x1 ⟨rfl, hb2⟩; have HY := Lib.hid (HY.out.below hb2); refine hK.out _ _ ⟨below_after hb2 hHeld.1, HY.out⟩ (fun hHeld2 => ?_); clear hb2; (clear hHeld; rename _ => hHeld; clear hK K; have hHeld : (fun W => Below w.heap.size w W ∧ OwnT w.heap.size W (.slice (some ⟨g, 0, none⟩) (m + 1) cap) L) _ := hHeld); (try simp only [Act.put, List.getElem_toArray, List.getElem_cons_succ, List.getElem_cons_zero, List.setIfInBounds_toArray, List.set_cons_zero, List.set_cons_succ])
      (refine wpAnyH_take (i := 12) (v := ?_) rfl (by kernel_rfl) (by kernel_rfl) (by kernel_rfl) (fun _ _ _ h => h) (Or.inl ⟨rfl, ?_⟩) (by assumption) ?_; rotate_left; focus (intro W hSw; (try dsimp only at hSw); obtain ⟨hSb, hxY⟩ := hSw; obtain ⟨l0, l1, l2⟩ := HLC.out _ hxY; obtain jY := hxY; go_simp; try (with_reducible rfl))); (try simp only [Act.put, List.getElem_toArray, List.getElem_cons_succ, List.getElem_cons_zero, List.setIfInBounds_toArray, List.set_cons_zero, List.set_cons_succ])
      refine wpAnyH_done (by kernel_rfl) ?_ _
      have HB := Lib.hid (hHeld.1)
      clear hHeld
      go_wp2_with fail
      refine bodyPost_ret (v := .tuple #[.slice (some ⟨g, 0, none⟩) (m + 1) cap, .int .i64 0]) (by simp (maxDischargeDepth := 8) [results, Try.results68, go_sem, *]) rfl ?_
      have hb := HB.out
      refine ⟨_, rfl, ?_, by (repeat' (first | (with_reducible exact Below.refl _ _) | (with_reducible refine Below.alloc ?_ ?_ _) | (with_reducible refine Below.setCell ?_ ?_ _) | (with_reducible refine Below.drew ?_) | (with_reducible refine below_drewN ?_ _) | (with_reducible assumption) | (with_reducible refine below_after (by with_reducible assumption) ?_) | go_size))⟩
      rw [HWH.out]
      exact HY.out
  · have e : lnK a b c r = scd a b c r := by unfold lnK; rw [if_neg h1]
    have e2 : whV a b c r = [] := by unfold whV; rw [if_neg (by rw [e]; exact h1)]
    rw [e, e2]
    obtain ⟨K, hK⟩ : ∃ K, scd a b c r = K := ⟨_, rfl⟩
    rw [hK] at HR h0 ⊢
    clear hK h1 e e2
    obtain ⟨GT, hG⟩ : ∃ G, w.heap.size = G := ⟨_, rfl⟩
    have HG := Lib.hid hG
    go_enter Try.func68, Try.ntmps68
    go_upto_region 1 with fail
    obtain ⟨w0, hw0⟩ : ∃ w0, w0 = (w.alloc (.cells #[.int .i64 a, .int .i64 b, .int .i64 c] 24)) := ⟨_, rfl⟩
    rw [← hw0]
    have HT : Hid (Bk3 w0 GT a b c) := by
      have h := (bk3_new w a b c 24).below (W' := (w.alloc (.cells #[.int .i64 a, .int .i64 b, .int .i64 c] 24))) (by (repeat' (first | (with_reducible exact Below.refl _ _) | (with_reducible refine Below.alloc ?_ ?_ _) | (with_reducible refine Below.setCell ?_ ?_ _) | (with_reducible refine Below.drew ?_) | (with_reducible refine below_drewN ?_ _) | (with_reducible assumption) | (with_reducible refine below_after (by with_reducible assumption) ?_) | go_size)))
      (try simp only [World.size_alloc] at h)
      rw [hG] at h
      rw [hw0]; exact h
    have HB : Hid (Below w.heap.size w w0) := by show Below w.heap.size w w0; rw [hw0]; (repeat' (first | (with_reducible exact Below.refl _ _) | (with_reducible refine Below.alloc ?_ ?_ _) | (with_reducible refine Below.setCell ?_ ?_ _) | (with_reducible refine Below.drew ?_) | (with_reducible refine below_drewN ?_ _) | (with_reducible assumption) | (with_reducible refine below_after (by with_reducible assumption) ?_) | go_size))
    clear hw0
    have le_T : w.heap.size ≤ GT := by omega
    obtain ⟨⟨qT0, qT1, qT2⟩, ⟨fT0, fT1, fT2⟩, zT⟩ := HT.out
    go_wp2_with fail
    go_at_call 27
    refine (HR.out _).mono ?_
    rintro e w1 ⟨v, rfl, ho, hb⟩
    clear qT0 fT0 qT1 fT1 qT2 fT2 zT
    have HT := Lib.hid (HT.out.below hb)
    have HB := Lib.hid (below_after hb HB.out)
    clear hb
    obtain ⟨⟨qT0, qT1, qT2⟩, ⟨fT0, fT1, fT2⟩, zT⟩ := HT.out
    go_wp2_with fail
    refine bodyPost_ret (v := .tuple #[.slice none 0 0, .int .i64 K]) (by simp (maxDischargeDepth := 8) [results, Try.results68, go_sem, *]) rfl ?_
    have hb := HB.out
    exact ⟨_, rfl, World.ownsRow_nil _ _ _ _, by (repeat' (first | (with_reducible exact Below.refl _ _) | (with_reducible refine Below.alloc ?_ ?_ _) | (with_reducible refine Below.setCell ?_ ?_ _) | (with_reducible refine Below.drew ?_) | (with_reducible refine below_drewN ?_ _) | (with_reducible assumption) | (with_reducible refine below_after (by with_reducible assumption) ?_) | go_size))⟩
end Go.Proofs.Ytbgifgfegndlkaa
