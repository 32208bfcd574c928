/-
  Paths of fractions in the model (own work).
-/
import Derived.Test.YtcaleapedomfmaaDoorPthM
import Derived.Test.YtcaleapedomfmaaDoorNbPathOf
namespace Go.Proofs.YtcaleapedomfmaaDoor
open Go.ChangeShapes Go.WideShapes Go.ChangeAt Go.RowKit
set_option linter.unusedVariables false
set_option maxRecDepth 100000
set_option linter.unusedSimpArgs false
set_option maxRecDepth 100000

/-- What both sides answer: the path, and the code. -/
def ptV (a b : Int) : ByteArray := if allFr [(a, b)] = true then (if a < 1 ∨ b < 1 then ByteArray.empty else paB a b) else ByteArray.empty
def ptK (a b : Int) : Int := if allFr [(a, b)] = true then (if a < 1 ∨ b < 1 then 5 else paC a b) else frE [(a, b)]
theorem pt_fr {a b : Int} (h : allFr [(a, b)] = false) : ptV a b = ByteArray.empty ∧ ptK a b = frE [(a, b)] := by unfold ptV ptK; rw [h]; exact ⟨rfl, rfl⟩
theorem pt_low {a b : Int} (h : allFr [(a, b)] = true) (k : a < 1 ∨ b < 1) : ptV a b = ByteArray.empty ∧ ptK a b = 5 := by unfold ptV ptK; rw [if_pos h, if_pos h, if_pos k, if_pos k]; exact ⟨rfl, rfl⟩
theorem pt_ok {a b : Int} (h : allFr [(a, b)] = true) (k : ¬ (a < 1 ∨ b < 1)) : ptV a b = paB a b ∧ ptK a b = paC a b := by unfold ptV ptK; rw [if_pos h, if_pos h, if_neg k, if_neg k]; exact ⟨rfl, rfl⟩
theorem bytes_snoc (l : List UInt8) (b : UInt8) : (⟨l.toArray⟩ : ByteArray) ++ ⟨#[b]⟩ = ⟨(l ++ [b]).toArray⟩ := by
  apply ByteArray.ext
  rw [ByteArray.data_append]
  simp
theorem bytes_size (l : List UInt8) : (⟨l.toArray⟩ : ByteArray).size = l.length := by simp [ByteArray.size]
set_option maxHeartbeats 3200000 in
theorem spec_PathOf_any (a b : Int) (w : World) :
    Calls Tryd.prog 28 #[.agg #[.int .i64 a, .int .i64 b]] w fun e w' => e = .returned (.tuple #[.string (ptV a b), .int .i64 (ptK a b)]) ∧ Below w.heap.size w w' := by
  cases h : allFr [(a, b)]
  · obtain ⟨e1, e2⟩ := pt_fr h
    rw [e1, e2]
    exact spec_PathOf_fail a b _ w h rfl
  · have HK := Lib.hid (frE_yes h)
    have f0 := frs1 h
    by_cases hlow : a < 1 ∨ b < 1
    · obtain ⟨e1, e2⟩ := pt_low h hlow
      rw [e1, e2]
      clear h f0 e1 e2
      by_cases ha : a < 1
      · have hs20 : w.heap.size < w.heap.size + 1 + 1 := (by omega); have hs30 : w.heap.size < w.heap.size + 1 + 1 + 1 := (by omega); have hs31 : w.heap.size + 1 < w.heap.size + 1 + 1 + 1 := (by omega)
        go_enter Tryd.func28, Tryd.ntmps28
        go_wp2_with (go_at_call 39; refine (l05Code1_any a b 0 _ _ _ HK.out (by simp) (by go_cell) (by go_cell)).mono ?_; rintro e wn ⟨rfl, hb⟩; first | (have h2 := after_call2 hb hcl hfr hlt (by ((repeat' (first | (with_reducible exact Below.refl _ _) | (with_reducible refine Below.alloc ?_ ?_ _) | (with_reducible refine Below.setCell ?_ ?_ _) | (with_reducible refine Below.drew ?_) | (with_reducible refine below_drewN ?_ _) | (with_reducible assumption) | (with_reducible refine below_after (by with_reducible assumption) ?_) | go_size)); done)); obtain ⟨hclx, hfrx, hltx, hsz⟩ := after_call hb; (try simp only [World.size_alloc, World.size_setCell, World.size_drew] at hclx hfrx hltx hsz); (try (have hszl := Nat.lt_of_succ_le hsz)); obtain ⟨hcl, hfr, hlt⟩ := h2) | (obtain ⟨hcl, hfr, hlt, hsz⟩ := after_call hb; (try simp only [World.size_alloc, World.size_setCell, World.size_drew] at hcl hfr hlt hsz)))
        go_ret2
        exact ⟨rfl, by (repeat' (first | (with_reducible exact Below.refl _ _) | (with_reducible refine Below.alloc ?_ ?_ _) | (with_reducible refine Below.setCell ?_ ?_ _) | (with_reducible refine Below.drew ?_) | (with_reducible refine below_drewN ?_ _) | (with_reducible assumption) | (with_reducible refine below_after (by with_reducible assumption) ?_) | go_size))⟩
      · have hb : b < 1 := by omega
        clear hlow
        have hs20 : w.heap.size < w.heap.size + 1 + 1 := (by omega); have hs30 : w.heap.size < w.heap.size + 1 + 1 + 1 := (by omega); have hs31 : w.heap.size + 1 < w.heap.size + 1 + 1 + 1 := (by omega)
        go_enter Tryd.func28, Tryd.ntmps28
        go_wp2_with (go_at_call 39; refine (l05Code1_any a b 0 _ _ _ HK.out (by simp) (by go_cell) (by go_cell)).mono ?_; rintro e wn ⟨rfl, hb⟩; first | (have h2 := after_call2 hb hcl hfr hlt (by ((repeat' (first | (with_reducible exact Below.refl _ _) | (with_reducible refine Below.alloc ?_ ?_ _) | (with_reducible refine Below.setCell ?_ ?_ _) | (with_reducible refine Below.drew ?_) | (with_reducible refine below_drewN ?_ _) | (with_reducible assumption) | (with_reducible refine below_after (by with_reducible assumption) ?_) | go_size)); done)); obtain ⟨hclx, hfrx, hltx, hsz⟩ := after_call hb; (try simp only [World.size_alloc, World.size_setCell, World.size_drew] at hclx hfrx hltx hsz); (try (have hszl := Nat.lt_of_succ_le hsz)); obtain ⟨hcl, hfr, hlt⟩ := h2) | (obtain ⟨hcl, hfr, hlt, hsz⟩ := after_call hb; (try simp only [World.size_alloc, World.size_setCell, World.size_drew] at hcl hfr hlt hsz)))
        go_ret2
        exact ⟨rfl, by (repeat' (first | (with_reducible exact Below.refl _ _) | (with_reducible refine Below.alloc ?_ ?_ _) | (with_reducible refine Below.setCell ?_ ?_ _) | (with_reducible refine Below.drew ?_) | (with_reducible refine below_drewN ?_ _) | (with_reducible assumption) | (with_reducible refine below_after (by with_reducible assumption) ?_) | go_size))⟩
    · obtain ⟨e1, e2⟩ := pt_ok h hlow
      rw [e1, e2]
      have ha : 1 ≤ a := by omega
      have hb : 1 ≤ b := by omega
      have na : ¬ a < 1 := by omega
      have nb : ¬ b < 1 := by omega
      have b1 := isPt_c1 (isFr_pt f0)
      have b2 := isPt_c2 (isFr_pt f0)
      obtain ⟨R, hR⟩ : ∃ R, ptN 60 a b = R := ⟨_, rfl⟩
      have HS : Hid (∀ l, R = some l → paB a b = ⟨l.toArray⟩ ∧ paC a b = 0) := fun l hl => pa_some (hR.trans hl)
      have HN : Hid (R = none → paB a b = ⟨#[]⟩ ∧ paC a b = 3) := fun hl => pa_none (hR.trans hl)
      have HR : Hid ((ptN 60 a b).map (([] : List UInt8) ++ ·) = R) := by
        show _ = R
        rw [hR]; cases R <;> simp
      have HB : Hid (1 ≤ a ∧ a ≤ 1000000 ∧ 1 ≤ b ∧ b ≤ 1000000) := ⟨ha, b1.2, hb, b2.2⟩
      generalize paB a b = V at *
      generalize paC a b = C at *
      clear h f0 e1 e2 hlow hR b1 b2 ha hb
      have hs20 : w.heap.size < w.heap.size + 1 + 1 := (by omega); have hs30 : w.heap.size < w.heap.size + 1 + 1 + 1 := (by omega); have hs31 : w.heap.size + 1 < w.heap.size + 1 + 1 + 1 := (by omega)
      go_enter Tryd.func28, Tryd.ntmps28
      go_wp2_with (go_at_call 39; refine (l05Code1_any a b 0 _ _ _ HK.out (by simp) (by go_cell) (by go_cell)).mono ?_; rintro e wn ⟨rfl, hb⟩; first | (have h2 := after_call2 hb hcl hfr hlt (by ((repeat' (first | (with_reducible exact Below.refl _ _) | (with_reducible refine Below.alloc ?_ ?_ _) | (with_reducible refine Below.setCell ?_ ?_ _) | (with_reducible refine Below.drew ?_) | (with_reducible refine below_drewN ?_ _) | (with_reducible assumption) | (with_reducible refine below_after (by with_reducible assumption) ?_) | go_size)); done)); obtain ⟨hclx, hfrx, hltx, hsz⟩ := after_call hb; (try simp only [World.size_alloc, World.size_setCell, World.size_drew] at hclx hfrx hltx hsz); (try (have hszl := Nat.lt_of_succ_le hsz)); obtain ⟨hcl, hfr, hlt⟩ := h2) | (obtain ⟨hcl, hfr, hlt, hsz⟩ := after_call hb; (try simp only [World.size_alloc, World.size_setCell, World.size_drew] at hcl hfr hlt hsz)))
      go_quiet (fail)
      go_wp2_with fail
      go_loopw [5, 6, 7] (fun t x y wr => ∃ (p q : Int) (l : List UInt8) (m : Nat), t = .string ⟨l.toArray⟩ ∧ x = .int .i64 p ∧ y = .int .i64 q ∧ 1 ≤ p ∧ p ≤ 1000000 ∧ 1 ≤ q ∧ q ≤ 1000000 ∧ m + l.length = 60 ∧ (ptN m p q).map (l ++ ·) = R ∧ Below w.heap.size w wr) (fun _ x y _ => (intOf x + intOf y).toNat)
      case atStart => exact ⟨a, b, [], 60, rfl, rfl, rfl, HB.out.1, HB.out.2.1, HB.out.2.2.1, HB.out.2.2.2, rfl, HR.out, by (repeat' (first | (with_reducible exact Below.refl _ _) | (with_reducible refine Below.alloc ?_ ?_ _) | (with_reducible refine Below.setCell ?_ ?_ _) | (with_reducible refine Below.drew ?_) | (with_reducible refine below_drewN ?_ _) | (with_reducible assumption) | (with_reducible refine below_after (by with_reducible assumption) ?_) | go_size))⟩
      case round =>
        obtain ⟨p, q, l, m, rfl, rfl, rfl, p1, p2, q1, q2, hm, hr, hbel⟩ := hrel
        have HM := Lib.hid hr
        have HP : Hid (1 ≤ p ∧ p ≤ 1000000 ∧ 1 ≤ q ∧ q ≤ 1000000 ∧ m + l.length = 60) := ⟨p1, p2, q1, q2, hm⟩
        have hsz := bytes_size l
        clear hr
        by_cases hpq : p = q
        · subst hpq
          have HL : Hid (V = ⟨l.toArray⟩ ∧ C = 0) := HS.out l (by rw [← HM.out, ptN_end]; simp)
          clear p1 p2 q1 q2 hm
          go_wp2_with fail
          refine bodyPost_ret (v := .tuple #[.string ⟨l.toArray⟩, .int .i64 0]) (by simp (maxDischargeDepth := 8) [results, Tryd.results28, go_sem, *]) rfl ?_
          exact ⟨by rw [HL.out.1, HL.out.2], by (repeat' (first | (with_reducible exact Below.refl _ _) | (with_reducible refine Below.alloc ?_ ?_ _) | (with_reducible refine Below.setCell ?_ ?_ _) | (with_reducible refine Below.drew ?_) | (with_reducible refine below_drewN ?_ _) | (with_reducible assumption) | (with_reducible refine below_after (by with_reducible assumption) ?_) | go_size))⟩
        · have hne : (p == q) = false := by simpa using hpq
          have hne2 : (p != q) = true := by simpa using hpq
          rcases Nat.eq_zero_or_pos m with hm0 | hm0
          · have HL : Hid (V = ⟨#[]⟩ ∧ C = 3) := HN.out (by rw [← HM.out, hm0, ptN_none hpq]; rfl)
            have hl60 : l.length = 60 := by omega
            clear p1 p2 q1 q2 hm hpq hm0
            go_wp2_with fail
            refine bodyPost_ret (v := .tuple #[.string ⟨#[]⟩, .int .i64 3]) (by simp (maxDischargeDepth := 8) [results, Tryd.results28, go_sem, *]) rfl ?_
            exact ⟨by rw [HL.out.1, HL.out.2], by (repeat' (first | (with_reducible exact Below.refl _ _) | (with_reducible refine Below.alloc ?_ ?_ _) | (with_reducible refine Below.setCell ?_ ?_ _) | (with_reducible refine Below.drew ?_) | (with_reducible refine below_drewN ?_ _) | (with_reducible assumption) | (with_reducible refine below_after (by with_reducible assumption) ?_) | go_size))⟩
          · have hlb : ((l.length : Int) == 60) = false := by simp; omega
            have hbig : ¬ 9223372036854775807 < l.length + 1 := by omega
            obtain ⟨m', hm'⟩ : ∃ m', m = m' + 1 := ⟨m - 1, by omega⟩
            by_cases hlt : p < q
            · have hlt2 : decide (p < q) = true := by simpa using hlt
              have hsub : IntKind.i64.wrap (q - p) = q - p := by rw [IntKind.wrap_i64]; omega
              have HM2 : Hid ((ptN m' p (q - p)).map ((l ++ [76]) ++ ·) = R) := by
                show _ = R
                rw [← HM.out, hm', ptN_L hlt, map_pre]
              clear p1 p2 q1 q2 hm hpq hm0
              go_wp2_with fail
              go_roundw
              case rel => exact ⟨p, q - p, l ++ [76], m', by rw [bytes_snoc], rfl, rfl, HP.out.1, HP.out.2.1, by omega, by have := HP.out; omega, by have := HP.out; rw [List.length_append]; simp; omega, HM2.out, by (repeat' (first | (with_reducible exact Below.refl _ _) | (with_reducible refine Below.alloc ?_ ?_ _) | (with_reducible refine Below.setCell ?_ ?_ _) | (with_reducible refine Below.drew ?_) | (with_reducible refine below_drewN ?_ _) | (with_reducible assumption) | (with_reducible refine below_after (by with_reducible assumption) ?_) | go_size))⟩
              case measure => have := HP.out; simp only [intOf]; omega
            · have hgt : q < p := by omega
              have hlt2 : decide (p < q) = false := by simpa using hlt
              have hsub : IntKind.i64.wrap (p - q) = p - q := by rw [IntKind.wrap_i64]; omega
              have HM2 : Hid ((ptN m' (p - q) q).map ((l ++ [82]) ++ ·) = R) := by
                show _ = R
                rw [← HM.out, hm', ptN_R hgt, map_pre]
              clear p1 p2 q1 q2 hm hpq hm0
              go_wp2_with fail
              go_roundw
              case rel => exact ⟨p - q, q, l ++ [82], m', by rw [bytes_snoc], rfl, rfl, by omega, by have := HP.out; omega, HP.out.2.2.1, HP.out.2.2.2.1, by have := HP.out; rw [List.length_append]; simp; omega, HM2.out, by (repeat' (first | (with_reducible exact Below.refl _ _) | (with_reducible refine Below.alloc ?_ ?_ _) | (with_reducible refine Below.setCell ?_ ?_ _) | (with_reducible refine Below.drew ?_) | (with_reducible refine below_drewN ?_ _) | (with_reducible assumption) | (with_reducible refine below_after (by with_reducible assumption) ?_) | go_size))⟩
              case measure => have := HP.out; simp only [intOf]; omega
end Go.Proofs.YtcaleapedomfmaaDoor
