/-
  Class numbers, in the program and in the model (own work).
-/
import Derived.Test.YtohnmogejidpdaaKm
namespace Go.Proofs.Ytohnmogejidpdaa
open Go.ChangeShapes Go.WideShapes Go.ChangeAt Go.RowKit
set_option linter.unusedVariables false
set_option linter.unusedSimpArgs false
set_option maxRecDepth 100000

/-- How many cycles the forms of a list are in, besides those that have been met. -/
def cnS : List Tr → List Tr → Nat
  | [], _ => 0
  | x :: t, met => if x ∈ met then cnS t met else cnS t (met ++ cyT x) + 1
theorem cnS_le : ∀ (l met : List Tr), cnS l met ≤ l.length
  | [], _ => Nat.le_refl _
  | x :: t, met => by
    have h1 := cnS_le t met
    have h2 := cnS_le t (met ++ cyT x)
    unfold cnS
    split <;> simp only [List.length_cons] <;> omega
theorem cnS_in {l met : List Tr} {k : Nat} {y : Tr} (hk : l[k]? = some y) (h : y ∈ met) : cnS (l.drop k) met = cnS (l.drop (k + 1)) met := by
  obtain ⟨hlt, e⟩ := List.getElem?_eq_some_iff.1 hk
  rw [List.drop_eq_getElem_cons hlt, e]
  conv => lhs; unfold cnS
  rw [if_pos h]
theorem cnS_out {l met : List Tr} {k : Nat} {y : Tr} (hk : l[k]? = some y) (h : y ∉ met) : cnS (l.drop k) met = cnS (l.drop (k + 1)) (met ++ cyT y) + 1 := by
  obtain ⟨hlt, e⟩ := List.getElem?_eq_some_iff.1 hk
  rw [List.drop_eq_getElem_cons hlt, e]
  conv => lhs; unfold cnS
  rw [if_neg h]
theorem rfP_mem {d w a b : Int} {x : Tr} (h : x ∈ rfP d w a b) : a ≠ 0 ∧ (b * b - d).tmod (4 * a) = 0 ∧ isRd a b w = true ∧ x = (a, b, (b * b - d).tdiv (4 * a)) := by
  unfold rfP at h
  split at h
  · next hc => exact ⟨hc.1, hc.2.1, hc.2.2, by simpa using h⟩
  · cases h
theorem rfB_mem {d w a : Int} {x : Tr} : ∀ j, x ∈ rfB d w a j → ∃ b : Int, 1 ≤ b ∧ x ∈ rfP d w a b
  | 0, h => by cases h
  | j + 1, h => by
    unfold rfB at h
    rcases List.mem_append.1 h with h | h
    · exact rfB_mem j h
    · exact ⟨(j : Int) + 1, by omega, h⟩
theorem rfA_mem {d w : Int} {x : Tr} : ∀ i, x ∈ rfA d w i → ∃ a b : Int, 1 ≤ b ∧ x ∈ rfP d w a b
  | 0, h => by cases h
  | i + 1, h => by
    unfold rfA at h
    rcases List.mem_append.1 h with h | h
    · exact rfA_mem i h
    · obtain ⟨b, hb, hx⟩ := rfB_mem _ h
      exact ⟨_, b, hb, hx⟩
/-- The forms of the list are reduced ones. -/
theorem rfV_mem {d : Int} {x : Tr} (h : x ∈ rfV d) : fmT x = true ∧ rdT x = true := by
  unfold rfV at h
  split at h
  · next ho =>
    have hD := (rfOk_parts ho).1
    obtain ⟨d1, d2, _⟩ := isD_parts hD
    obtain ⟨w0, w1, _, _⟩ := rtB_ok d1 d2
    obtain ⟨a, b, hb, hx⟩ := rfA_mem _ h
    obtain ⟨ha, hm, hr, rfl⟩ := rfP_mem hx
    have hd := rf_dsc ha hm
    obtain ⟨q1, q2, q3, q4⟩ := isRd_iff.1 hr
    have hc := rf_c (a := a) ha hb (by omega) d1 d2
    have hab := absI_le a
    constructor
    · show isFm a b ((b * b - d).tdiv (4 * a)) = true
      unfold isFm
      rw [hd, hD, crd_iff.2 ⟨by omega, by omega⟩, crd_iff.2 ⟨by omega, by omega⟩, crd_iff.2 ⟨by omega, by omega⟩]
      rfl
    · show isRd a b (rtB (dsc a b ((b * b - d).tdiv (4 * a)))) = true
      rw [hd]; exact hr
  · cases h
theorem rfV_small (d : Int) : (rfV d).length ≤ 8001 := by
  unfold rfV
  split
  · next h => exact rfL_len (rfOk_parts h).1
  · simp
def cnV (d : Int) : Int := (cnS (rfV d) [] : Nat)
theorem cnV_bad {d : Int} (h : ¬ rfC d = 0) : cnV d = 0 := by
  unfold cnV
  have : rfV d = [] := by
    unfold rfV
    split
    · next ho => exact absurd (rfV_yes ho).2 h
    · rfl
  rw [this]; rfl
/-- A list that grows by another one. -/
theorem wpList_app_T {B B2 : Nat} {W : World} {ops : Array Oper} {rest : List Oper} {o : Oper} {a : Act} {Q : Exit → Act → World → Prop} (hgd : o.guard = none) (s x : Operand)
    (ho : o.op = .call { callee := .builtin .append, args := #[s, x], argTypes := #[52, 52] })
    {v : Value} {g m c : Nat} {l ys : List Tr} (hown : OwnT B W v l) (hsrc : OwnT B2 W (.slice (some ⟨g, 0, none⟩) m c) ys) (hB : B ≤ W.heap.size) (hs : a.eval s = v) (hx : a.eval x = .slice (some ⟨g, 0, none⟩) m c) (hlen : l.length + ys.length ≤ 4000000000)
    (hK : ∀ v' w', OwnT B w' v' (l ++ ys) → W.grownBy w' v.ownBlock → wpList Try.prog ops Q rest (a.put o.dst v') w') : wpList Try.prog ops Q (o :: rest) a W := by
  obtain ⟨i0, hi, hz0, hz1, hz2⟩ := info_parts info_fo
  obtain ⟨a1, c1, e1⟩ := viewT hsrc
  have hm : m = ys.length := by injection e1
  subst hm
  refine wpList_append_own _ hgd s x 52 ho B 43 i0 (.agg #[.int .i64 0, .int .i64 0, .int .i64 0]) 3 24 Try.underlying52 hi hz0 hz1 hz2 rfl (by decide) v _ _ hs hown ⟨g, 0, none⟩ ys.length c ((flT ys).map (Value.int .i64)) hx ?_ ?_ ?_ ?_ ?_ hB ?_
  · rw [List.length_map, flT_len]
  · intro j u hj
    have hjm : j < ys.length * 3 := by
      have := (List.getElem?_eq_some_iff.1 hj).1
      rw [List.length_map, flT_len] at this
      omega
    have e : (Addr.add ⟨g, 0, none⟩ j) = ⟨g, j, none⟩ := by unfold Addr.add; split <;> simp_all
    rw [e, World.ownsRow.cellAt hsrc j hjm, hj]
  · intro u hu; simp only [List.mem_map] at hu; obtain ⟨y, _, rfl⟩ := hu; rfl
  · unfold maxLen; omega
  · omega
  · intro v' w' h1 h2 _
    refine hK v' w' ?_ h2
    show w'.ownsRow B 43 3 v' (l ++ ys).length ((flT (l ++ ys)).map (Value.int .i64))
    rw [flT_append, List.length_append, List.map_append]
    exact h1
/-- The numbers of a form of a list, in its cells. -/
theorem atT {B : Nat} {W : World} {va : Option Addr} {n vc : Nat} {l : List Tr} {k : Nat} {y : Tr} (h : OwnT B W (.slice va n vc) l) (hk : l[k]? = some y) : ∃ g, va = some ⟨g, 0, none⟩ ∧ g < W.heap.size ∧ W.cell? ⟨g, k * 3, none⟩ = some (.int .i64 y.1) ∧ W.cell? ⟨g, k * 3 + 1, none⟩ = some (.int .i64 y.2.1) ∧ W.cell? ⟨g, k * 3 + 1 + 1, none⟩ = some (.int .i64 y.2.2) := by
  obtain ⟨a, cap, e, f⟩ := viewOwnFo h
  have hlt := (List.getElem?_eq_some_iff.1 hk).1
  obtain ⟨g', e2, _, hg, hc, _⟩ := f (by omega)
  injection e with e3
  obtain ⟨p0, p1, p2⟩ := flT_at l k y hk
  exact ⟨g', by rw [e3, e2], hg, by rw [hc _ (by omega), p0], by rw [hc _ (by omega), p1], by rw [hc _ (by omega), p2]⟩
set_option maxHeartbeats 4000000 in
theorem impl_ClassNumber_any (d : Int) (w : World) : Calls Try.prog 48 #[.int .i64 d] w fun e w' => e = .returned (.tuple #[.int .i64 (cnV d), .int .i64 (rfC d)]) ∧ Below w.heap.size w w' := by
  have HR := Lib.hid (fun w => impl_ReducedForms_any d w)
  have HME : Hid (∀ x, x ∈ rfV d → fmT x = true ∧ rdT x = true) := fun x hx => rfV_mem hx
  have hsm := rfV_small d
  unfold cnV
  obtain ⟨T, hT⟩ : ∃ T, cnS (rfV d) [] = T := ⟨_, rfl⟩
  have HT0 := Lib.hid hT
  rw [hT]
  clear hT
  generalize rfC d = C at *
  generalize rfV d = l at *
  have hmm := @run_makeMap Try.prog
  go_enter Try.func48, Try.ntmps48
  go_wp2_with fail
  go_at_call 46
  refine (HR.out _).mono ?_
  rintro e w1 ⟨v, rfl, hv, hb⟩
  have hv : OwnT w.heap.size w1 v l := hv
  obtain ⟨va, vc, rfl⟩ := viewT hv
  obtain ⟨n, hn⟩ : ∃ n, l.length = n := ⟨_, rfl⟩
  rw [hn] at hv hsm ⊢
  have HL := Lib.hid hv
  have HN := Lib.hid hn
  have HB := Lib.hid hb
  clear hv hn hb
  go_upto_region 4 with fail
  obtain ⟨bm, hbm⟩ : ∃ g, w1.heap.size = g := ⟨_, rfl⟩
  obtain ⟨w2, hw2⟩ : ∃ wx, wx = w1.alloc (.map #[] 0) := ⟨_, rfl⟩
  rw [← hw2, hbm]
  have HK : Hid (KF w2 bm []) := ⟨#[], 0, by rw [hw2, ← hbm]; (show (w1.heap.push _)[w1.heap.size]? = _); simp, rfl, fun e he => by simp at he⟩
  have HNE : Hid (∀ k, (Value.slice va n vc).ownBlock = some k → k ≠ bm) := fun k hk => by have := (World.ownsRow.lt HL.out k hk).2; omega
  have HLB : Hid (w.heap.size ≤ bm) := by have := HB.out.size; show _ ≤ _; omega
  have HL := Lib.hid (HL.out.below ((Below.refl _ _).alloc (Nat.le_refl _) (.map #[] 0)))
  have HB := Lib.hid (Below.alloc HB.out HB.out.size (.map #[] 0))
  rw [← hw2] at HL HB
  clear hw2 hbm
  go_wp2_with fail
  go_loopw [7, 20] (fun cv iv wr => ∃ (k q : Nat) (met ks : List Tr), iv = .int .i64 (k : Int) ∧ k ≤ n ∧ cv = .int .i64 (q : Int) ∧ q ≤ k ∧ (∀ z, z ∈ ks ↔ z ∈ met) ∧ cnS (l.drop k) met + q = T ∧ KF wr bm ks ∧ OwnT w.heap.size wr (.slice va n vc) l ∧ Below w.heap.size w wr) (fun _ iv _ => n - (intOf iv).toNat)
  case atStart => exact ⟨0, 0, [], [], rfl, by omega, rfl, by omega, fun z => Iff.rfl, HT0.out, HK.out, HL.out, HB.out⟩
  case round =>
    obtain ⟨k, q, met, ks, rfl, hk, rfl, hqk, hmem, hcn, hK, hL, hB⟩ := hrel
    clear HK HL HB
    have HK := Lib.hid hK
    have HL := Lib.hid hL
    have HB := Lib.hid hB
    have HMM := Lib.hid hmem
    have HCN := Lib.hid hcn
    clear hK hL hB hmem hcn
    by_cases hlt : k < n
    · have i0 : (0 : Int) ≤ (k : Int) := by omega
      have i1 : (k : Int) < (n : Int) := by omega
      obtain ⟨y, hy⟩ : ∃ y, l[k]? = some y := ⟨_, List.getElem?_eq_getElem (by have := HN.out; omega)⟩
      have HY := Lib.hid hy
      have HYF := Lib.hid (HME.out y (List.mem_of_getElem? hy))
      obtain ⟨g, hgva, hg, e0, e1, e2⟩ := atT HL.out hy
      obtain ⟨y0, y1, y2⟩ := y
      subst hgva
      dsimp only at e0 e1 e2
      clear hy
      go_upto_region 7 with fail
      obtain ⟨wx, hwx⟩ : ∃ wx, wx = wr.alloc (.cells #[.int .i64 y0, .int .i64 y1, .int .i64 y2] 43) := ⟨_, rfl⟩
      obtain ⟨gx, hgx⟩ : ∃ g, wr.heap.size = g := ⟨_, rfl⟩
      rw [← hwx, hgx]
      have HX : Hid (Bk3 wx gx y0 y1 y2) := by rw [hwx, ← hgx]; exact bk3_new wr _ _ _ _
      have HK := Lib.hid (HK.out.below ((Below.refl _ _).alloc (Nat.le_refl _) (.cells #[.int .i64 y0, .int .i64 y1, .int .i64 y2] 43)))
      have HL := Lib.hid (HL.out.below ((Below.refl _ _).alloc (Nat.le_refl _) (.cells #[.int .i64 y0, .int .i64 y1, .int .i64 y2] 43)))
      have HB := Lib.hid (Below.alloc HB.out HB.out.size (.cells #[.int .i64 y0, .int .i64 y1, .int .i64 y2] 43))
      rw [← hwx] at HK HL HB
      clear hwx hgx hg e0 e1 e2
      obtain ⟨⟨x0, x1, x2⟩, ⟨f0, f1, f2⟩, gz⟩ := HX.out
      have hlk : (Instr.lookup 93 (.map (some bm)) (.agg #[.int .i64 y0, .int .i64 y1, .int .i64 y2]) false).run Try.prog wx = .ok (.bool (decide ((y0, y1, y2) ∈ ks))) wx := look_fo HK.out (y0, y1, y2)
      by_cases hin : (y0, y1, y2) ∈ ks
      · rw [decide_eq_true hin] at hlk
        have HC2 : Hid (cnS (l.drop (k + 1)) met + q = T) := by
          show _ = _
          rw [← cnS_in HY.out ((HMM.out _).1 hin)]; exact HCN.out
        clear hin
        go_wp2_with fail
        go_roundw
        case rel => exact ⟨k + 1, q, met, ks, by go_num, by omega, rfl, by omega, HMM.out, HC2.out, HK.out, HL.out, HB.out⟩
        case measure => simp [intOf]; omega
      · rw [decide_eq_false hin] at hlk
        have HC2 : Hid (cnS (l.drop (k + 1)) (met ++ cyT (y0, y1, y2)) + (q + 1) = T) := by
          show _ = _
          have := cnS_out HY.out (fun h => hin ((HMM.out _).2 h))
          have h2 := HCN.out
          omega
        have HCY := Lib.hid (fun w => cycleFrom_any y0 y1 y2 w HYF.out.1 HYF.out.2)
        have HCL := Lib.hid (cyT_len (y0, y1, y2))
        clear hin
        go_wp2_with fail
        go_at_call 81
        refine (HCY.out _).mono ?_
        rintro e wy ⟨v2, rfl, hv2, hby⟩
        obtain ⟨va2, vc2, rfl⟩ := viewT hv2
        obtain ⟨n2, hn2⟩ : ∃ n, (cyT (y0, y1, y2)).length = n := ⟨_, rfl⟩
        rw [hn2] at hv2 HCL ⊢
        have HL2 := Lib.hid hv2
        have HN2 := Lib.hid hn2
        have HNE2 : Hid (∀ k, (Value.slice va2 n2 vc2).ownBlock = some k → k ≠ bm) := fun k hk => by have := (World.ownsRow.lt hv2 k hk).1; have := HK.out.lt; omega
        have HLX : Hid (w.heap.size ≤ wx.heap.size) := HB.out.size
        have HK := Lib.hid (HK.out.below hby)
        have HL := Lib.hid (HL.out.below hby)
        have HB := Lib.hid (below_after hby HB.out)
        clear hv2 hn2 hby x0 x1 x2 f0 f1 f2 gz hlk
        have hcl := HCL.out
        go_wp2_with fail
        go_loopw [32] (fun jv wr => ∃ (m : Nat) (ks2 : List Tr), jv = .int .i64 (m : Int) ∧ m ≤ n2 ∧ (∀ z, z ∈ ks2 ↔ z ∈ ks ∨ z ∈ (cyT (y0, y1, y2)).take m) ∧ KF wr bm ks2 ∧ OwnT w.heap.size wr (.slice (some ⟨g, 0, none⟩) n vc) l ∧ OwnT wx.heap.size wr (.slice va2 n2 vc2) (cyT (y0, y1, y2)) ∧ Below w.heap.size w wr) (fun jv _ => n2 - (intOf jv).toNat)
        case atStart => exact ⟨0, ks, rfl, by omega, fun z => by simp, HK.out, HL.out, HL2.out, HB.out⟩
        case round =>
          obtain ⟨m, ks2, rfl, hm, hmem2, hK, hL, hL2, hB⟩ := hrel
          clear HK HL HL2 HB HX
          have HK := Lib.hid hK
          have HL := Lib.hid hL
          have HL2 := Lib.hid hL2
          have HB := Lib.hid hB
          have HM2 := Lib.hid hmem2
          clear hK hL hL2 hB hmem2
          by_cases hlt2 : m < n2
          · have j0 : (0 : Int) ≤ (m : Int) := by omega
            have j1 : (m : Int) < (n2 : Int) := by omega
            obtain ⟨z, hz⟩ : ∃ z, (cyT (y0, y1, y2))[m]? = some z := ⟨_, List.getElem?_eq_getElem (by have := HN2.out; omega)⟩
            have HZ := Lib.hid hz
            obtain ⟨g2, hgva, hg, e0, e1, e2⟩ := atT HL2.out hz
            obtain ⟨z0, z1, z2⟩ := z
            subst hgva
            dsimp only at e0 e1 e2
            clear hz
            go_upto_region 12 with fail
            obtain ⟨wz, hwz⟩ : ∃ wx, wx = wr.alloc (.cells #[.int .i64 z0, .int .i64 z1, .int .i64 z2] 43) := ⟨_, rfl⟩
            obtain ⟨gq, hgq⟩ : ∃ g, wr.heap.size = g := ⟨_, rfl⟩
            rw [← hwz, hgq]
            have HX : Hid (Bk3 wz gq z0 z1 z2) := by rw [hwz, ← hgq]; exact bk3_new wr _ _ _ _
            have HK := Lib.hid (HK.out.below ((Below.refl _ _).alloc (Nat.le_refl _) (.cells #[.int .i64 z0, .int .i64 z1, .int .i64 z2] 43)))
            have HL := Lib.hid (HL.out.below ((Below.refl _ _).alloc (Nat.le_refl _) (.cells #[.int .i64 z0, .int .i64 z1, .int .i64 z2] 43)))
            have HL2 := Lib.hid (HL2.out.below ((Below.refl _ _).alloc (Nat.le_refl _) (.cells #[.int .i64 z0, .int .i64 z1, .int .i64 z2] 43)))
            have HB := Lib.hid (Below.alloc HB.out HB.out.size (.cells #[.int .i64 z0, .int .i64 z1, .int .i64 z2] 43))
            rw [← hwz] at HK HL HL2 HB
            clear hwz hgq hg e0 e1 e2
            obtain ⟨⟨x0, x1, x2⟩, ⟨f0, f1, f2⟩, gz⟩ := HX.out
            go_wp2_with (at_mapUpdate; refine wpList_store_fo _ rfl _ _ _ rfl bm ks2 (z0, z1, z2) rfl HK.out rfl rfl ?_)
            intro w8 hK8 hgrow
            have HK8 := Lib.hid hK8
            have HL8 := Lib.hid (HL.out.kept hgrow HNE.out)
            have HL28 := Lib.hid (HL2.out.kept hgrow HNE2.out)
            have HB8 := Lib.hid (Below.grown HB.out hgrow HB.out.size (fun k hk => by simp at hk; have := HLB.out; omega))
            have HM8 : Hid (∀ z, z ∈ insF ks2 (z0, z1, z2) ↔ z ∈ ks ∨ z ∈ (cyT (y0, y1, y2)).take (m + 1)) := fun z => by
              rw [insF_mem, HM2.out, List.take_add_one, HZ.out]
              simp only [Option.toList_some, List.mem_append, List.mem_singleton]
              exact or_assoc
            clear hK8 hgrow x0 x1 x2 f0 f1 f2 gz
            go_wp2_with fail
            go_roundw
            case rel => exact ⟨m + 1, _, by go_num, by omega, HM8.out, HK8.out, HL8.out, HL28.out, HB8.out⟩
            case measure => simp [intOf]; omega
          · have hge : n2 ≤ m := by omega
            have HMF : Hid (∀ z, z ∈ ks2 ↔ z ∈ met ++ cyT (y0, y1, y2)) := fun z => by
              rw [HM2.out, List.take_of_length_le (by have := HN2.out; omega), List.mem_append, HMM.out]
            clear hlt2
            go_wp2_with fail
            go_roundw
            case rel => exact ⟨k + 1, q + 1, _, ks2, by go_num, by omega, by go_num, by omega, HMF.out, HC2.out, HK.out, HL.out, HB.out⟩
            case measure => simp [intOf]; omega
    · have hge : k = n := by omega
      have HE : Hid (T = q) := by
        have h := HCN.out
        rw [List.drop_eq_nil_of_le (by have := HN.out; omega)] at h
        show _ = _
        have : cnS [] met = 0 := rfl
        omega
      clear hlt
      go_wp2_with fail
      go_ret2
      exact ⟨by rw [HE.out]; rfl, HB.out⟩
set_option maxHeartbeats 4000000 in
theorem spec_ClassNumber_any (d : Int) (w : World) : Calls Try.prog 47 #[.int .i64 d] w fun e w' => e = .returned (.tuple #[.int .i64 (cnV d), .int .i64 (rfC d)]) ∧ Below w.heap.size w w' := by
  have HR := Lib.hid (fun w => l06All_any d w)
  have HME : Hid (∀ x, x ∈ rfV d → fmT x = true ∧ rdT x = true) := fun x hx => rfV_mem hx
  have hsm := rfV_small d
  have hbad := Lib.hid (cnV_bad (d := d))
  have HV : Hid (cnV d = (cnS (rfV d) [] : Nat)) := rfl
  generalize cnV d = V at *
  generalize rfC d = C at *
  generalize rfV d = l at *
  obtain ⟨T, hT⟩ : ∃ T, cnS l [] = T := ⟨_, rfl⟩
  have HT0 := Lib.hid hT
  rw [hT] at HV
  clear hT
  go_enter Try.func47, Try.ntmps47
  go_wp2_with fail
  go_at_call 85
  refine (HR.out _).mono ?_
  rintro e w1 ⟨v, rfl, hv, hb⟩
  obtain ⟨va, vc, rfl⟩ := viewT hv
  obtain ⟨n, hn⟩ : ∃ n, l.length = n := ⟨_, rfl⟩
  rw [hn] at hv hsm ⊢
  have HL := Lib.hid hv
  have HN := Lib.hid hn
  have HB := Lib.hid hb
  clear hv hn hb
  by_cases hc : C = 0
  · subst hc
    go_upto_region 5 with fail
    obtain ⟨bm, hbm⟩ : ∃ g, w1.heap.size = g := ⟨_, rfl⟩
    obtain ⟨w2, hw2⟩ : ∃ wx, wx = w1.alloc (.cells #[] 43) := ⟨_, rfl⟩
    rw [← hw2, hbm]
    have HM : Hid (OwnT bm w2 (.slice (some ⟨bm, 0, none⟩) 0 0) []) := by
      have h : OwnT bm (w1.alloc (.cells #[] 43)) (.slice (some ⟨w1.heap.size, 0, none⟩) 0 0) [] := World.ownsRow_made w1 #[] 0 (by omega) (Nat.zero_le _) rfl
      rw [hbm] at h
      rw [hw2]; exact h
    have HNE : Hid (∀ k, (Value.slice va n vc).ownBlock = some k → k < bm) := fun k hk => by have := (World.ownsRow.lt HL.out k hk).2; omega
    have HLB : Hid (w.heap.size ≤ bm) := by have := HB.out.size; show _ ≤ _; omega
    have HL := Lib.hid (HL.out.below ((Below.refl _ _).alloc (Nat.le_refl _) (.cells #[] 43)))
    have HB := Lib.hid (Below.alloc HB.out HB.out.size (.cells #[] 43))
    rw [← hw2] at HL HB
    clear hw2 hbm
    go_wp2_with fail
    go_loopw [6, 7, 8] (fun cv mv iv wr => ∃ (k q m : Nat) (met : List Tr) (ma : Option Addr) (mc : Nat), iv = .int .i64 (k : Int) ∧ k ≤ n ∧ cv = .int .i64 (q : Int) ∧ q ≤ k ∧ mv = .slice ma m mc ∧ m = met.length ∧ m ≤ k * 8193 ∧ cnS (l.drop k) met + q = T ∧ OwnT bm wr (.slice ma m mc) met ∧ OwnT w.heap.size wr (.slice va n vc) l ∧ bm ≤ wr.heap.size ∧ Below w.heap.size w wr) (fun _ _ iv _ => n - (intOf iv).toNat)
    case atStart => exact ⟨0, 0, 0, [], _, _, rfl, by omega, rfl, by omega, rfl, rfl, by omega, HT0.out, HM.out, HL.out, by have := (World.ownsRow.lt HM.out bm rfl).2; omega, HB.out⟩
    case round =>
      obtain ⟨k, q, m, met, ma, mc, rfl, hk, rfl, hqk, rfl, hml, hmb, hcn, hM, hL, hbz, hB⟩ := hrel
      clear HM HL HB
      have HM := Lib.hid hM
      have HL := Lib.hid hL
      have HB := Lib.hid hB
      have HML := Lib.hid hml
      have HCN := Lib.hid hcn
      clear hM hL hB hml hcn
      by_cases hlt : k < n
      · have i0 : (0 : Int) ≤ (k : Int) := by omega
        have i1 : (k : Int) < (n : Int) := by omega
        obtain ⟨y, hy⟩ : ∃ y, l[k]? = some y := ⟨_, List.getElem?_eq_getElem (by have := HN.out; omega)⟩
        have HY := Lib.hid hy
        have HYF := Lib.hid (HME.out y (List.mem_of_getElem? hy))
        obtain ⟨g, hgva, hg, e0, e1, e2⟩ := atT HL.out hy
        obtain ⟨y0, y1, y2⟩ := y
        subst hgva
        dsimp only at e0 e1 e2
        clear hy
        have HAS : Hid (∀ W, Below wr.heap.size wr W → Calls Try.prog 83 #[.slice ma m mc, .agg #[.int .i64 y0, .int .i64 y1, .int .i64 y2]] W fun e w' => e = .returned (.bool (decide ((y0, y1, y2) ∈ met))) ∧ Below W.heap.size W w') := fun W hW => l06Has_any bm _ met y0 y1 y2 W (HM.out.below hW) (by rw [← HML.out]; omega)
        go_wp2_with fail
        go_at_call 83
        refine (HAS.out _ (Below.refl _ _)).mono ?_
        rintro e wx ⟨rfl, hbx⟩
        have HM := Lib.hid (HM.out.below hbx)
        have HL := Lib.hid (HL.out.below hbx)
        have HB := Lib.hid (below_after hbx HB.out)
        have HBZ : Hid (bm ≤ wx.heap.size) := Nat.le_trans hbz hbx.size
        have c0 := (hbx.cell (p := ⟨g, k * 3, none⟩) hg).trans e0
        have c1 := (hbx.cell (p := ⟨g, k * 3 + 1, none⟩) hg).trans e1
        have c2 := (hbx.cell (p := ⟨g, k * 3 + 1 + 1, none⟩) hg).trans e2
        have gx := Nat.lt_of_lt_of_le hg hbx.size
        clear hbx e0 e1 e2 hg hbz
        by_cases hin : (y0, y1, y2) ∈ met
        · have hdt : decide ((y0, y1, y2) ∈ met) = true := decide_eq_true hin
          have HC2 : Hid (cnS (l.drop (k + 1)) met + q = T) := by
            show _ = _
            rw [← cnS_in HY.out hin]; exact HCN.out
          clear hin
          rw [hdt]
          clear hdt
          go_wp2_with fail
          go_roundw
          case rel => exact ⟨k + 1, q, m, met, ma, mc, by go_num, by omega, rfl, by omega, rfl, HML.out, by omega, HC2.out, HM.out, HL.out, HBZ.out, HB.out⟩
          case measure => simp [intOf]; omega
        · have hdt : decide ((y0, y1, y2) ∈ met) = false := decide_eq_false hin
          have HC2 : Hid (cnS (l.drop (k + 1)) (met ++ cyT (y0, y1, y2)) + (q + 1) = T) := by
            show _ = _
            have := cnS_out HY.out hin
            have h2 := HCN.out
            omega
          have HCY : Hid (∀ w, Calls Try.prog 80 #[.agg #[.int .i64 y0, .int .i64 y1, .int .i64 y2]] w fun e w' => ∃ v, e = .returned v ∧ OwnT w.heap.size w' v (cyT (y0, y1, y2)) ∧ Below w.heap.size w w') := fun w => by
            have := l06Cycle_any y0 y1 y2 w HYF.out.1
            rwa [frT_rd HYF.out.2] at this
          have HCL := Lib.hid (cyT_len (y0, y1, y2))
          clear hin
          rw [hdt]
          clear hdt
          go_wp2_with fail
          go_at_call 80
          refine (HCY.out _).mono ?_
          rintro e wy ⟨v2, rfl, hv2, hby⟩
          obtain ⟨va2, vc2, rfl, ff⟩ := viewOwnFo hv2
          obtain ⟨g2, rfl, _⟩ := ff (by simp [cyT])
          clear ff
          obtain ⟨n2, hn2⟩ : ∃ n, (cyT (y0, y1, y2)).length = n := ⟨_, rfl⟩
          rw [hn2] at hv2 HCL ⊢
          have HL2 := Lib.hid hv2
          have HN2 := Lib.hid hn2
          have HM := Lib.hid (HM.out.below hby)
          have HL := Lib.hid (HL.out.below hby)
          have HB := Lib.hid (below_after hby HB.out)
          have HBZ : Hid (bm ≤ wy.heap.size) := Nat.le_trans HBZ.out hby.size
          clear hv2 hn2 hby c0 c1 c2 gx
          go_wp2_with (at_builtin; refine wpList_app_T (B := bm) rfl _ _ rfl HM.out HL2.out HBZ.out rfl rfl (by have h1 := HML.out; have h2 := HN2.out; have h3 := HCL.out; omega) ?_)
          intro v' w8 ho hgrow
          have hno : ∀ k, (Value.slice ma m mc).ownBlock = some k → bm ≤ k := fun k hk => (World.ownsRow.lt HM.out k hk).1
          have HL8 : Hid (OwnT w.heap.size w8 (.slice (some ⟨g, 0, none⟩) n vc) l) := by
            refine World.ownsRow.kept HL.out hgrow ?_
            right
            have h1 := HNE.out g rfl
            cases ho2 : (Value.slice ma m mc).ownBlock with
            | none => simp [Value.ownBlock]
            | some k' => have := hno k' ho2; simp [Value.ownBlock]; omega
          have HB8 := Lib.hid (Below.grown HB.out hgrow HB.out.size (fun k hk => by have := hno k hk; have := HLB.out; omega))
          have HZ8 : Hid (bm ≤ w8.heap.size) := Nat.le_trans HBZ.out hgrow.size
          have hl8 : (met ++ cyT (y0, y1, y2)).length = m + n2 := by rw [List.length_append, ← HML.out, HN2.out]
          obtain ⟨ma8, mc8, rfl⟩ := viewT ho
          rw [hl8] at ho ⊢
          have HM8 := Lib.hid (And.intro ho hl8)
          clear ho hl8 hgrow hno
          have hcl := HCL.out
          go_wp2_with fail
          go_roundw
          case rel => exact ⟨k + 1, q + 1, m + n2, _, ma8, mc8, by go_num, by omega, by go_num, by omega, rfl, HM8.out.2.symm, by omega, HC2.out, HM8.out.1, HL8.out, HZ8.out, HB8.out⟩
          case measure => simp [intOf]; omega
      · have hge : k = n := by omega
        have HE : Hid (V = q) := by
          have h := HCN.out
          rw [List.drop_eq_nil_of_le (by have := HN.out; omega)] at h
          have h0 : cnS [] met = 0 := rfl
          show _ = _
          rw [HV.out]
          omega
        clear hlt
        go_wp2_with fail
        go_ret2
        exact ⟨by rw [HE.out]; rfl, HB.out⟩
  · have hc1 : (C == 0) = false := by simpa using hc
    have hc2 : (C != 0) = true := by simpa using hc
    have HE := Lib.hid (hbad.out hc)
    clear hc
    go_wp2_with fail
    go_ret2
    exact ⟨by rw [HE.out]; rfl, HB.out⟩
end Go.Proofs.Ytohnmogejidpdaa
