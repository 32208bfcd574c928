/-
  Contracts of chapter 3's SplitPoint: the place of the part in which a point lies, on both sides (own work; written by tools/mkspl.py).
-/
import Derived.Test.YtjiaokcbhpmodaaPla
import Derived.Test.YtjiaokcbhpmodaaAng
import Derived.Deep.RegionWith
namespace Go.Proofs.Ytjiaokcbhpmodaa
open Go.ChangeShapes Go.WideShapes Go.ChangeAt Go.RowKit
set_option linter.unusedVariables false
set_option linter.unusedSimpArgs false

/-- The first place behind whose next point c isn't, the last part at most. -/
def spF (c : Int × Int) : List (Int × Int) → Nat → Nat
  | _ :: v :: z :: l, k => if 0 < detP c v then k else spF c (v :: z :: l) (k + 1)
  | _, k => k
theorem spF_at {c : Int × Int} : ∀ (i : Nat) (l : List (Int × Int)) (k : Nat), (∀ j, j < i → detP c (l.getD (j + 1) (0, 0)) ≤ 0) → i + 2 ≤ l.length → (i + 2 < l.length → 0 < detP c (l.getD (i + 1) (0, 0))) → spF c l k = k + i
  | i, [], k, _, h, _ => by simp at h
  | i, [_], k, _, h, _ => by simp at h
  | 0, [u, v], k, _, _, _ => by rw [spF]; rfl; intro _ _ _ _ h; simp at h
  | 0, u :: v :: z :: l, k, _, _, hd => by
    rw [spF, if_pos (by simpa using hd (by simp))]; rfl
  | i + 1, [u, v], k, _, h, _ => by simp at h
  | i + 1, u :: v :: z :: l, k, hn, h, hd => by
    have h0 := hn 0 (by omega)
    rw [spF, if_neg (by have h0 : detP c v ≤ 0 := by simpa using h0
                        omega), spF_at i (v :: z :: l) (k + 1) (fun j hj => by simpa using hn (j + 1) (by omega)) (by simpa using h) (fun hl => by simpa using hd (by simpa using hl))]
    omega
def splV (L : List (Int × Int)) (c : Int × Int) : List Int := [(spF c L 0 : Int), detP c (L.getD (spF c L 0 + 1) (0, 0)), detP (L.getD (spF c L 0) (0, 0)) c]
theorem splV_at {L : List (Int × Int)} {c : Int × Int} {i : Nat} (hn : ∀ j, j < i → detP c (L.getD (j + 1) (0, 0)) ≤ 0) (hl : i + 2 ≤ L.length) (hd : i + 2 < L.length → 0 < detP c (L.getD (i + 1) (0, 0))) :
    splV L c = [(i : Int), detP c (L.getD (i + 1) (0, 0)), detP (L.getD i (0, 0)) c] := by
  unfold splV
  rw [spF_at i L 0 hn hl hd, Nat.zero_add]
def spC (a b c : Int × Int) : Int := if (isAn a b && isPt c) = true then (if inA a b c = true ∧ c ≠ (0, 0) then slC a b else 4) else 1
def spL (a b c : Int × Int) : List Int := if spC a b c = 0 then splV (slL a b) c else []
theorem spL_len (a b c : Int × Int) : (spL a b c).length ≤ 3 := by
  unfold spL
  split <;> simp [splV]
theorem ia_no {a b c : Int × Int} (h : (isAn a b && isPt c) = false) : iaV a b c = false ∧ iaC a b c = 1 := by simp [iaV, iaC, h]
theorem ia_yes {a b c : Int × Int} (h : (isAn a b && isPt c) = true) : iaV a b c = inA a b c ∧ iaC a b c = 0 := by simp [iaV, iaC, h]
theorem own_3 (w : World) (x y z : Int) : OwnI w.heap.size (w.alloc (.cells #[.int .i64 x, .int .i64 y, .int .i64 z] 2)) (.slice (some ⟨w.heap.size, 0, none⟩) 3 3) [x, y, z] :=
  ⟨rfl, .inr ⟨w.heap.size, 3, _, rfl, Nat.le_refl _, Go.heap_alloc_new w _, Nat.le_refl _, by unfold maxLen; omega, rfl, rfl⟩⟩
def RetIC (w : World) (xs : List Int) (c : Int) (e : Ending) (w' : World) : Prop := ∃ v, e = .returned (.tuple #[v, .int .i64 c]) ∧ OwnI w.heap.size w' v xs ∧ Below w.heap.size w w'
theorem ne_pt {x y : Int} (h : ((x, y) : Int × Int) ≠ (0, 0)) : (x == 0 && y == 0) = false := by
  cases hq : (x == 0 && y == 0)
  · rfl
  · simp only [Bool.and_eq_true, beq_iff_eq] at hq
    exact absurd (by rw [hq.1, hq.2]) h
set_option maxHeartbeats 8000000 in
theorem impl_SplitPoint_some (a b c d x y : Int) (L : List (Int × Int)) (n : Nat) (w : World) (han : isAn (a, b) (c, d) = true) (hp : isPt (x, y) = true) (hin : inA (a, b) (c, d) (x, y) = true) (hne : ((x, y) : Int × Int) ≠ (0, 0)) (hN : L.length = n) (h2 : 2 ≤ n) (hl : n ≤ 2000) (hnb : Nbr L)
    (hSP : ∀ w, Calls Try.prog 18 #[.agg #[.int .i64 a, .int .i64 b], .agg #[.int .i64 c, .int .i64 d]] w (RetPC w L 0)) :
    Calls Try.prog 42 #[.agg #[.int .i64 a, .int .i64 b], .agg #[.int .i64 c, .int .i64 d], .agg #[.int .i64 x, .int .i64 y]] w (RetIC w (splV L (x, y)) 0) := by
  have heq := eq_pt
  have hIA : ∀ w, Calls Try.prog 38 #[.agg #[.int .i64 a, .int .i64 b], .agg #[.int .i64 c, .int .i64 d], .agg #[.int .i64 x, .int .i64 y]] w fun e w' => e = .returned (.tuple #[.bool true, .int .i64 0]) ∧ Below w.heap.size w w' := by
    intro w
    have := impl_IsInAngle_any a b c d x y w
    have hb : (isAn (a, b) (c, d) && isPt (x, y)) = true := by rw [han, hp]; rfl
    rw [(ia_yes hb).1, (ia_yes hb).2, hin] at this
    exact this
  have HIA := Lib.hid hIA
  clear hIA
  have hne1 := ne_pt hne
  have hne2 : ¬ (x = 0 ∧ y = 0) := fun h => hne (by rw [h.1, h.2])
  have hne3 : x = 0 → ¬ y = 0 := fun h h' => hne (by rw [h, h'])
  have HSP := Lib.hid hSP
  have HN := Lib.hid hN
  have HL := Lib.hid hl
  have H1 : Hid (1 ≤ n) := by show 1 ≤ n; omega
  have H2 := Lib.hid h2
  have HP := Lib.hid hp
  have HNB := Lib.hid hnb
  obtain ⟨R, hR⟩ : ∃ R, splV L (x, y) = R := ⟨_, rfl⟩
  rw [hR]
  have HR := Lib.hid hR
  clear hSP hN hl h2 hnb hR hin hne han
  have hs20 : w.heap.size < w.heap.size + 1 + 1 := (by omega); have hs30 : w.heap.size < w.heap.size + 1 + 1 + 1 := (by omega); have hs31 : w.heap.size + 1 < w.heap.size + 1 + 1 + 1 := (by omega); have hs40 : w.heap.size < w.heap.size + 1 + 1 + 1 + 1 := (by omega); have hs41 : w.heap.size + 1 < w.heap.size + 1 + 1 + 1 + 1 := (by omega); have hs42 : w.heap.size + 1 + 1 < w.heap.size + 1 + 1 + 1 + 1 := (by omega)
  go_enter Try.func42, Try.ntmps42
  go_wp2_with (first | (go_at_call 38; refine (HIA.out _).mono ?_; rintro e wn ⟨rfl, hb⟩; first | (have h2 := after_call2 hb hcl hfr hlt (by ((repeat' (first | (with_reducible exact Below.refl _ _) | (with_reducible refine Below.alloc ?_ ?_ _) | (with_reducible refine Below.setCell ?_ ?_ _) | (with_reducible refine Below.drew ?_) | (with_reducible refine below_drewN ?_ _) | (with_reducible assumption) | (with_reducible refine below_after (by with_reducible assumption) ?_) | go_size)); done)); obtain ⟨hclx, hfrx, hltx, hsz⟩ := after_call hb; (try simp only [World.size_alloc, World.size_setCell, World.size_drew] at hclx hfrx hltx hsz); (try (have hszl := Nat.lt_of_succ_le hsz)); obtain ⟨hcl, hfr, hlt⟩ := h2) | (obtain ⟨hcl, hfr, hlt, hsz⟩ := after_call hb; (try simp only [World.size_alloc, World.size_setCell, World.size_drew] at hcl hfr hlt hsz))) | (go_at_call 18; refine (HSP.out _).mono ?_; rintro e wA hr; obtain ⟨g, cp, rfl, hge, hpt, hb⟩ := retpc_some hr HN.out H1.out; clear hr; have HPT := Lib.hid hpt; clear hpt; first | (have h2 := after_call2 hb hcl hfr hlt (by ((repeat' (first | (with_reducible exact Below.refl _ _) | (with_reducible refine Below.alloc ?_ ?_ _) | (with_reducible refine Below.setCell ?_ ?_ _) | (with_reducible refine Below.drew ?_) | (with_reducible refine below_drewN ?_ _) | (with_reducible assumption) | (with_reducible refine below_after (by with_reducible assumption) ?_) | go_size)); done)); obtain ⟨hclx, hfrx, hltx, hsz⟩ := after_call hb; (try simp only [World.size_alloc, World.size_setCell, World.size_drew] at hclx hfrx hltx hsz); (try (have hszl := Nat.lt_of_succ_le hsz)); obtain ⟨hcl, hfr, hlt⟩ := h2) | (obtain ⟨hcl, hfr, hlt, hsz⟩ := after_call hb; (try simp only [World.size_alloc, World.size_setCell, World.size_drew] at hcl hfr hlt hsz))))
  have HBA : Hid (Below w.heap.size w wA) := by show Below w.heap.size w wA; (repeat' (first | (with_reducible exact Below.refl _ _) | (with_reducible refine Below.alloc ?_ ?_ _) | (with_reducible refine Below.setCell ?_ ?_ _) | (with_reducible refine Below.drew ?_) | (with_reducible refine below_drewN ?_ _) | (with_reducible assumption) | (with_reducible refine below_after (by with_reducible assumption) ?_) | go_size))
  have HKA : Hid (∀ W', Below wA.heap.size wA W' → W'.cell? ⟨w.heap.size + 1 + 1, 0, none⟩ = some (.int .i64 x) ∧ W'.cell? ⟨w.heap.size + 1 + 1, 1, none⟩ = some (.int .i64 y) ∧ PtsAt W' g L) := by
    intro W' hB
    have c0 : wA.cell? ⟨w.heap.size + 1 + 1, 0, none⟩ = some (.int .i64 x) := by go_cell
    have c1 : wA.cell? ⟨w.heap.size + 1 + 1, 1, none⟩ = some (.int .i64 y) := by go_cell
    have hz := World.block_lt_of_cell? wA _ c0
    exact ⟨((bcell hB).1 _ _ hz).trans c0, ((bcell hB).1 _ _ hz).trans c1, PtsAt.below HPT.out hB⟩
  (repeat (first | clear hb | clear hcl | clear hfr | clear hlt | clear hclx | clear hfrx | clear hltx))
  go_loopw [11] (fun i wr => ∃ k : Nat, k + 2 ≤ n ∧ i = .int .i64 (k : Int) ∧ (∀ j, j < k → detP (x, y) (L.getD (j + 1) (0, 0)) ≤ 0) ∧ Below wA.heap.size wA wr) (fun i _ => n - (intOf i).toNat)
  case atStart => exact ⟨0, H2.out, rfl, fun j hj => by omega, Below.refl _ _⟩
  case round =>
    obtain ⟨k, hk, rfl, hno, hbel⟩ := hrel
    have HNO := Lib.hid hno
    have HBL := Lib.hid hbel
    have HKN := Lib.hid hk
    obtain ⟨k1, hk1⟩ : ∃ k1, k1 = k + 1 := ⟨_, rfl⟩
    have HK1 := Lib.hid hk1
    obtain ⟨s0, s1, _⟩ := HNB.out k (by rw [HN.out]; omega)
    rw [← hk1] at s1
    obtain ⟨⟨u0, v0⟩, hu0⟩ : ∃ u, L.getD k (0, 0) = u := ⟨_, rfl⟩
    obtain ⟨⟨u1, v1⟩, hu1⟩ : ∃ u, L.getD k1 (0, 0) = u := ⟨_, rfl⟩
    rw [hu0] at s0
    rw [hu1] at s1
    have HS0 : Hid (Bn u0 ∧ Bn v0) := sm_bn s0
    have HS1 : Hid (Bn u1 ∧ Bn v1) := sm_bn s1
    have HU0 := Lib.hid hu0
    have HU1 := Lib.hid hu1
    have HVV : Hid ((k + 2 < n → 0 < detP (x, y) (u1, v1)) → R = [(k : Int), detP (x, y) (u1, v1), detP (u0, v0) (x, y)]) := by
      intro hd
      rw [← HR.out, splV_at HNO.out (by rw [HN.out]; exact HKN.out) (fun h => by rw [← HK1.out, HU1.out]; exact hd (by rw [HN.out] at h; exact h)), ← HK1.out, HU0.out, HU1.out]
    have HKR : Hid (∀ W', Below wr.heap.size wr W' → W'.cell? ⟨w.heap.size + 1 + 1, 0, none⟩ = some (.int .i64 x) ∧ W'.cell? ⟨w.heap.size + 1 + 1, 1, none⟩ = some (.int .i64 y) ∧ W'.cell? ⟨g, k1 * 2, none⟩ = some (.int .i64 u1) ∧ W'.cell? ⟨g, k1 * 2 + 1, none⟩ = some (.int .i64 v1) ∧ W'.cell? ⟨g, k * 2, none⟩ = some (.int .i64 u0) ∧ W'.cell? ⟨g, k * 2 + 1, none⟩ = some (.int .i64 v0)) := by
      intro W' hB
      obtain ⟨a1, a2, a3⟩ := HKA.out W' (below_after hB HBL.out)
      obtain ⟨b1, b2⟩ := a3.2 k1 (by rw [HN.out]; omega)
      obtain ⟨b3, b4⟩ := a3.2 k (by rw [HN.out]; omega)
      rw [HU1.out] at b1 b2
      rw [HU0.out] at b3 b4
      exact ⟨a1, a2, b1, b2, b3, b4⟩
    obtain ⟨x0, x1, x2, x3, x4, x5⟩ := HKR.out wr (Below.refl _ _)
    have i0 : (0 : Int) ≤ (k : Int) := by omega
    have i1 : (k : Int) < (n : Int) := by omega
    have i2 : (0 : Int) ≤ (k1 : Int) := by omega
    have i3 : (k1 : Int) < (n : Int) := by omega
    have i4 : (k : Int) + 1 = (k1 : Int) := by omega
    have i5 : IntKind.i64.wrap (k1 : Int) = (k1 : Int) := by rw [IntKind.wrap_i64]; have := HL.out; omega
    have i6 : (n : Int) ≤ 2000 := by have := HL.out; omega
    have i7 : IntKind.i64.wrap (k : Int) = (k : Int) := by rw [IntKind.wrap_i64]; have := HL.out; omega
    have i8 : (2 : Int) ≤ (n : Int) := by have := H2.out; omega
    have i9 : IntKind.i64.wrap ((n : Int) - 2) = (n : Int) - 2 := by rw [IntKind.wrap_i64]; have := HL.out; omega
    have ia : IntKind.i64.wrap ((k : Int) + 2) = (k : Int) + 2 := by rw [IntKind.wrap_i64]; have := HL.out; omega
    clear s0 s1 hu0 hu1 hno hbel
    by_cases hlt : k + 2 < n
    · have l1 : (k : Int) < (n : Int) - 2 := by omega
      have l9 : decide ((k : Int) < (n : Int) - 2) = true := decide_eq_true l1
      by_cases he : detP (x, y) (u1, v1) ≤ 0
      · have HE := Lib.hid he
        clear hk hk1
        go_wp2
        go_region_held3 (fun W' => W'.cell? ⟨w.heap.size + 1 + 1, 0, none⟩ = some (.int .i64 x) ∧ W'.cell? ⟨w.heap.size + 1 + 1, 1, none⟩ = some (.int .i64 y) ∧ W'.cell? ⟨g, k1 * 2, none⟩ = some (.int .i64 u1) ∧ W'.cell? ⟨g, k1 * 2 + 1, none⟩ = some (.int .i64 v1) ∧ W'.cell? ⟨g, k * 2, none⟩ = some (.int .i64 u0) ∧ W'.cell? ⟨g, k * 2 + 1, none⟩ = some (.int .i64 v0)) ((refine (HKR.out _ ?_); repeat' (first | (with_reducible refine Below.alloc ?_ ?_ _) | (with_reducible refine Below.setCell ?_ ?_ _) | (with_reducible refine Below.drew ?_) | (with_reducible exact Below.refl _ _) | (with_reducible refine below_after (by with_reducible assumption) ?_) | (first | omega | (simp only [World.size_alloc, World.size_drew, World.size_setCell]; omega))))) (first | (go_at_call 45; refine (determinant_any _ _ _ _ _ (by first | exact (isPt_bn1 HP.out) | exact HS0.out.1 | exact HS1.out.1) (by first | exact (isPt_bn2 HP.out) | exact HS0.out.2 | exact HS1.out.2) (by first | exact (isPt_bn1 HP.out) | exact HS0.out.1 | exact HS1.out.1) (by first | exact (isPt_bn2 HP.out) | exact HS0.out.2 | exact HS1.out.2)).mono ?_; rintro e wn ⟨rfl, hb⟩; have hsz := hb.size; (try simp only [World.size_alloc, World.size_setCell, World.size_drew] at hsz); first | (revert hb; with_reducible change Below (World.heap (World.alloc _ _)).size (World.alloc _ _) _ → _; intro hb; have hnw := after_new hb; (try simp only [World.size_alloc, World.size_drew] at hnw)) | (revert hb; with_reducible change Below (World.heap (World.drew (World.alloc _ _))).size (World.drew (World.alloc _ _)) _ → _; intro hb; have hnw := after_newd hb; (try simp only [World.size_alloc, World.size_drew] at hnw)) | (revert hnw; with_reducible change (World.cell? _ _ = some _ ∧ World.cell? _ _ = some _ ∧ World.frozen? _ _ = false ∧ World.frozen? _ _ = false ∧ (_ : Nat) < _) → _; intro hnw; have hnw := after_old hb hnw) | skip))
        all_goals
          go_wp2
          go_roundw
          case rel =>
            refine ⟨k1, by have := HK1.out; omega, rfl, fun j hj => ?_, below_after (by (repeat' (first | (with_reducible exact Below.refl _ _) | (with_reducible refine Below.alloc ?_ ?_ _) | (with_reducible refine Below.setCell ?_ ?_ _) | (with_reducible refine Below.drew ?_) | (with_reducible refine below_drewN ?_ _) | (with_reducible assumption) | (with_reducible refine below_after (by with_reducible assumption) ?_) | go_size))) HBL.out⟩
            by_cases hj2 : j = k
            · rw [hj2, ← HK1.out, HU1.out]; exact HE.out
            · exact HNO.out j (by have := HK1.out; omega)
          case measure => have := HK1.out; simp [intOf]; omega
      · have HV := Lib.hid (HVV.out (fun _ => by omega))
        have he2 : ¬ detP (x, y) (u1, v1) ≤ 0 := he
        clear hk hk1
        go_wp2
        go_region_held3 (fun W' => W'.cell? ⟨w.heap.size + 1 + 1, 0, none⟩ = some (.int .i64 x) ∧ W'.cell? ⟨w.heap.size + 1 + 1, 1, none⟩ = some (.int .i64 y) ∧ W'.cell? ⟨g, k1 * 2, none⟩ = some (.int .i64 u1) ∧ W'.cell? ⟨g, k1 * 2 + 1, none⟩ = some (.int .i64 v1) ∧ W'.cell? ⟨g, k * 2, none⟩ = some (.int .i64 u0) ∧ W'.cell? ⟨g, k * 2 + 1, none⟩ = some (.int .i64 v0)) ((refine (HKR.out _ ?_); repeat' (first | (with_reducible refine Below.alloc ?_ ?_ _) | (with_reducible refine Below.setCell ?_ ?_ _) | (with_reducible refine Below.drew ?_) | (with_reducible exact Below.refl _ _) | (with_reducible refine below_after (by with_reducible assumption) ?_) | (first | omega | (simp only [World.size_alloc, World.size_drew, World.size_setCell]; omega))))) (first | (go_at_call 45; refine (determinant_any _ _ _ _ _ (by first | exact (isPt_bn1 HP.out) | exact HS0.out.1 | exact HS1.out.1) (by first | exact (isPt_bn2 HP.out) | exact HS0.out.2 | exact HS1.out.2) (by first | exact (isPt_bn1 HP.out) | exact HS0.out.1 | exact HS1.out.1) (by first | exact (isPt_bn2 HP.out) | exact HS0.out.2 | exact HS1.out.2)).mono ?_; rintro e wn ⟨rfl, hb⟩; have hsz := hb.size; (try simp only [World.size_alloc, World.size_setCell, World.size_drew] at hsz); first | (revert hb; with_reducible change Below (World.heap (World.alloc _ _)).size (World.alloc _ _) _ → _; intro hb; have hnw := after_new hb; (try simp only [World.size_alloc, World.size_drew] at hnw)) | (revert hb; with_reducible change Below (World.heap (World.drew (World.alloc _ _))).size (World.drew (World.alloc _ _)) _ → _; intro hb; have hnw := after_newd hb; (try simp only [World.size_alloc, World.size_drew] at hnw)) | (revert hnw; with_reducible change (World.cell? _ _ = some _ ∧ World.cell? _ _ = some _ ∧ World.frozen? _ _ = false ∧ World.frozen? _ _ = false ∧ (_ : Nat) < _) → _; intro hnw; have hnw := after_old hb hnw) | skip))
        all_goals
          go_wp2
          go_region_held3 (fun W' => W'.cell? ⟨w.heap.size + 1 + 1, 0, none⟩ = some (.int .i64 x) ∧ W'.cell? ⟨w.heap.size + 1 + 1, 1, none⟩ = some (.int .i64 y) ∧ W'.cell? ⟨g, k1 * 2, none⟩ = some (.int .i64 u1) ∧ W'.cell? ⟨g, k1 * 2 + 1, none⟩ = some (.int .i64 v1) ∧ W'.cell? ⟨g, k * 2, none⟩ = some (.int .i64 u0) ∧ W'.cell? ⟨g, k * 2 + 1, none⟩ = some (.int .i64 v0)) ((refine (HKR.out _ ?_); repeat' (first | (with_reducible refine Below.alloc ?_ ?_ _) | (with_reducible refine Below.setCell ?_ ?_ _) | (with_reducible refine Below.drew ?_) | (with_reducible exact Below.refl _ _) | (with_reducible refine below_after (by with_reducible assumption) ?_) | (first | omega | (simp only [World.size_alloc, World.size_drew, World.size_setCell]; omega))))) (first | (go_at_call 45; refine (determinant_any _ _ _ _ _ (by first | exact (isPt_bn1 HP.out) | exact HS0.out.1 | exact HS1.out.1) (by first | exact (isPt_bn2 HP.out) | exact HS0.out.2 | exact HS1.out.2) (by first | exact (isPt_bn1 HP.out) | exact HS0.out.1 | exact HS1.out.1) (by first | exact (isPt_bn2 HP.out) | exact HS0.out.2 | exact HS1.out.2)).mono ?_; rintro e wn ⟨rfl, hb⟩; have hsz := hb.size; (try simp only [World.size_alloc, World.size_setCell, World.size_drew] at hsz); first | (revert hb; with_reducible change Below (World.heap (World.alloc _ _)).size (World.alloc _ _) _ → _; intro hb; have hnw := after_new hb; (try simp only [World.size_alloc, World.size_drew] at hnw)) | (revert hb; with_reducible change Below (World.heap (World.drew (World.alloc _ _))).size (World.drew (World.alloc _ _)) _ → _; intro hb; have hnw := after_newd hb; (try simp only [World.size_alloc, World.size_drew] at hnw)) | (revert hnw; with_reducible change (World.cell? _ _ = some _ ∧ World.cell? _ _ = some _ ∧ World.frozen? _ _ = false ∧ World.frozen? _ _ = false ∧ (_ : Nat) < _) → _; intro hnw; have hnw := after_old hb hnw) | skip))
          all_goals
            go_wp2
            go_ret2
            have hv := HV.out
            subst hv
            exact ⟨_, rfl, own_up (own_3 _ _ _ _) (Below.size (below_after (w := wr) (by (repeat' (first | (with_reducible exact Below.refl _ _) | (with_reducible refine Below.alloc ?_ ?_ _) | (with_reducible refine Below.setCell ?_ ?_ _) | (with_reducible refine Below.drew ?_) | (with_reducible refine below_drewN ?_ _) | (with_reducible assumption) | (with_reducible refine below_after (by with_reducible assumption) ?_) | go_size))) (below_after HBL.out HBA.out))), below_after (w := wr) (by (repeat' (first | (with_reducible exact Below.refl _ _) | (with_reducible refine Below.alloc ?_ ?_ _) | (with_reducible refine Below.setCell ?_ ?_ _) | (with_reducible refine Below.drew ?_) | (with_reducible refine below_drewN ?_ _) | (with_reducible assumption) | (with_reducible refine below_after (by with_reducible assumption) ?_) | go_size))) (below_after HBL.out HBA.out)⟩
    · have l1 : ¬ (k : Int) < (n : Int) - 2 := by omega
      have l9 : decide ((k : Int) < (n : Int) - 2) = false := decide_eq_false l1
      have l2 : (n : Int) - 2 ≤ (k : Int) := by omega
      have HV := Lib.hid (HVV.out (fun h => absurd h hlt))
      clear hk hk1
      go_wp2
      refine wp_region_held_drew (S := fun W' => W'.cell? ⟨w.heap.size + 1 + 1, 0, none⟩ = some (.int .i64 x) ∧ W'.cell? ⟨w.heap.size + 1 + 1, 1, none⟩ = some (.int .i64 y) ∧ W'.cell? ⟨g, k1 * 2, none⟩ = some (.int .i64 u1) ∧ W'.cell? ⟨g, k1 * 2 + 1, none⟩ = some (.int .i64 v1) ∧ W'.cell? ⟨g, k * 2, none⟩ = some (.int .i64 u0) ∧ W'.cell? ⟨g, k * 2 + 1, none⟩ = some (.int .i64 v0)) (by kernel_rfl) ?_ (fun hHeld => ?_); focus ((try dsimp only); (first | (go_keep; done) | ((repeat' apply And.intro) <;> first | (go_keep; done) | (go_cell; done) | (refine (Below.cell (B := w.heap.size + 1) ?_ ?_).trans ?_; focus (repeat' (first | (with_reducible refine Below.alloc ?_ ?_ _) | (with_reducible refine Below.setCell ?_ ?_ _) | (with_reducible refine Below.drew ?_) | (with_reducible exact Below.refl _ _) | (first | omega | (simp only [World.size_alloc, World.size_drew, World.size_setCell]; omega) | (simp; omega)))); focus (first | omega | (simp only [World.size_alloc, World.size_drew, World.size_setCell]; omega) | (simp; omega)); first | (go_keep; done) | ((refine (Below.cell (by with_reducible assumption) ?_).trans ?_) <;> first | (go_keep; done) | (first | omega | (simp only [World.size_alloc, World.size_drew, World.size_setCell]; omega) | (simp; omega)))) | ((refine (Below.cell (by with_reducible assumption) ?_).trans ?_) <;> first | (go_keep; done) | (simp only [World.size_alloc, World.size_drew, World.size_setCell]; omega) | omega) | (simp only [World.size_alloc, World.size_drew, World.size_setCell]; omega) | omega)))
      (refine wpAnyH_take (i := 0) (v := ?_) rfl (by kernel_rfl) (by kernel_rfl) (by kernel_rfl) (fun _ _ _ h => h) (Or.inl ⟨rfl, ?_⟩) (by assumption) ?_; rotate_left; focus (intro w hSw; (try dsimp only at hSw); go_simp; try (with_reducible rfl))); (try simp only [Act.put, List.getElem_toArray, List.getElem_cons_succ, List.getElem_cons_zero, List.setIfInBounds_toArray, List.set_cons_zero, List.set_cons_succ])
      (refine wpAnyH_take (i := 1) (v := ?_) rfl (by kernel_rfl) (by kernel_rfl) (by kernel_rfl) (fun _ _ _ h => h) (Or.inl ⟨rfl, ?_⟩) (by assumption) ?_; rotate_left; focus (intro w hSw; (try dsimp only at hSw); go_simp; try (with_reducible rfl))); (try simp only [Act.put, List.getElem_toArray, List.getElem_cons_succ, List.getElem_cons_zero, List.setIfInBounds_toArray, List.set_cons_zero, List.set_cons_succ])
      (refine wpAnyH_take (i := 2) (v := ?_) rfl (by kernel_rfl) (by kernel_rfl) (by kernel_rfl) (fun _ _ _ h => h) (Or.inl ⟨rfl, ?_⟩) (by assumption) ?_; rotate_left; focus (intro w hSw; (try dsimp only at hSw); go_simp; try (with_reducible rfl))); (try simp only [Act.put, List.getElem_toArray, List.getElem_cons_succ, List.getElem_cons_zero, List.setIfInBounds_toArray, List.set_cons_zero, List.set_cons_succ])
      (refine wpAnyH_take (i := 3) (v := ?_) rfl (by kernel_rfl) (by kernel_rfl) (by kernel_rfl) (fun _ _ _ h => h) (Or.inl ⟨rfl, ?_⟩) (by assumption) ?_; rotate_left; focus (intro w hSw; (try dsimp only at hSw); go_simp; try (with_reducible rfl))); (try simp only [Act.put, List.getElem_toArray, List.getElem_cons_succ, List.getElem_cons_zero, List.setIfInBounds_toArray, List.set_cons_zero, List.set_cons_succ])
      (refine wpAnyH_take (i := 4) (v := ?_) rfl (by kernel_rfl) (by kernel_rfl) (by kernel_rfl) (fun _ _ _ h => h) (Or.inl ⟨rfl, ?_⟩) (by assumption) ?_; rotate_left; focus (intro w hSw; (try dsimp only at hSw); go_simp; try (with_reducible rfl))); (try simp only [Act.put, List.getElem_toArray, List.getElem_cons_succ, List.getElem_cons_zero, List.setIfInBounds_toArray, List.set_cons_zero, List.set_cons_succ])
      (refine wpAnyH_take (i := 5) (v := ?_) rfl (by kernel_rfl) (by kernel_rfl) (by kernel_rfl) (fun _ _ _ h => h) (Or.inl ⟨rfl, ?_⟩) (by assumption) ?_; rotate_left; focus (intro w hSw; (try dsimp only at hSw); go_simp; try (with_reducible rfl))); (try simp only [Act.put, List.getElem_toArray, List.getElem_cons_succ, List.getElem_cons_zero, List.setIfInBounds_toArray, List.set_cons_zero, List.set_cons_succ])
      (refine wpAnyH_take (i := 6) rfl (by kernel_rfl) (by kernel_rfl) (by kernel_rfl) (fun _ _ _ h => h) (Or.inr ⟨rfl, rfl⟩) (by assumption) ?_); (try simp only [Act.put, List.getElem_toArray, List.getElem_cons_succ, List.getElem_cons_zero, List.setIfInBounds_toArray, List.set_cons_zero, List.set_cons_succ])
      (refine wpAnyH_take (i := 7) rfl (by kernel_rfl) (by kernel_rfl) (by kernel_rfl) (fun _ _ _ h => h) (Or.inr ⟨rfl, rfl⟩) (by assumption) ?_); (try simp only [Act.put, List.getElem_toArray, List.getElem_cons_succ, List.getElem_cons_zero, List.setIfInBounds_toArray, List.set_cons_zero, List.set_cons_succ])
      (refine wpAnyH_take (i := 8) rfl (by kernel_rfl) (by kernel_rfl) (by kernel_rfl) (fun _ _ _ h => h) (Or.inr ⟨rfl, rfl⟩) (by assumption) ?_); (try simp only [Act.put, List.getElem_toArray, List.getElem_cons_succ, List.getElem_cons_zero, List.setIfInBounds_toArray, List.set_cons_zero, List.set_cons_succ])
      (refine wpAnyH_take (i := 9) rfl (by kernel_rfl) (by kernel_rfl) (by kernel_rfl) (fun _ _ _ h => h) (Or.inr ⟨rfl, rfl⟩) (by assumption) ?_); (try simp only [Act.put, List.getElem_toArray, List.getElem_cons_succ, List.getElem_cons_zero, List.setIfInBounds_toArray, List.set_cons_zero, List.set_cons_succ])
      (refine wpAnyH_take (i := 10) rfl (by kernel_rfl) (by kernel_rfl) (by kernel_rfl) (fun _ _ _ h => h) (Or.inr ⟨rfl, rfl⟩) (by assumption) ?_); (try simp only [Act.put, List.getElem_toArray, List.getElem_cons_succ, List.getElem_cons_zero, List.setIfInBounds_toArray, List.set_cons_zero, List.set_cons_succ])
      (refine wpAnyH_take (i := 11) rfl (by kernel_rfl) (by kernel_rfl) (by kernel_rfl) (fun _ _ _ h => h) (Or.inr ⟨rfl, rfl⟩) (by assumption) ?_); (try simp only [Act.put, List.getElem_toArray, List.getElem_cons_succ, List.getElem_cons_zero, List.setIfInBounds_toArray, List.set_cons_zero, List.set_cons_succ])
      (refine wpAnyH_take (i := 12) rfl (by kernel_rfl) (by kernel_rfl) (by kernel_rfl) (fun _ _ _ h => h) (Or.inr ⟨rfl, rfl⟩) (by assumption) ?_); (try simp only [Act.put, List.getElem_toArray, List.getElem_cons_succ, List.getElem_cons_zero, List.setIfInBounds_toArray, List.set_cons_zero, List.set_cons_succ])
      (refine wpAnyH_take (i := 13) rfl (by kernel_rfl) (by kernel_rfl) (by kernel_rfl) (fun _ _ _ h => h) (Or.inr ⟨rfl, rfl⟩) (by assumption) ?_); (try simp only [Act.put, List.getElem_toArray, List.getElem_cons_succ, List.getElem_cons_zero, List.setIfInBounds_toArray, List.set_cons_zero, List.set_cons_succ])
      (refine wpAnyH_take (i := 14) (v := ?_) rfl (by kernel_rfl) (by kernel_rfl) (by kernel_rfl) (fun _ _ _ h => h) (Or.inl ⟨rfl, ?_⟩) (by assumption) ?_; rotate_left; focus (intro w hSw; (try dsimp only at hSw); go_simp; try (with_reducible rfl))); (try simp only [Act.put, List.getElem_toArray, List.getElem_cons_succ, List.getElem_cons_zero, List.setIfInBounds_toArray, List.set_cons_zero, List.set_cons_succ])
      refine wpAnyH_done (by kernel_rfl) ?_ _
      go_wp2
      go_region_held3 (fun W' => W'.cell? ⟨w.heap.size + 1 + 1, 0, none⟩ = some (.int .i64 x) ∧ W'.cell? ⟨w.heap.size + 1 + 1, 1, none⟩ = some (.int .i64 y) ∧ W'.cell? ⟨g, k1 * 2, none⟩ = some (.int .i64 u1) ∧ W'.cell? ⟨g, k1 * 2 + 1, none⟩ = some (.int .i64 v1) ∧ W'.cell? ⟨g, k * 2, none⟩ = some (.int .i64 u0) ∧ W'.cell? ⟨g, k * 2 + 1, none⟩ = some (.int .i64 v0)) ((refine (HKR.out _ ?_); repeat' (first | (with_reducible refine Below.alloc ?_ ?_ _) | (with_reducible refine Below.setCell ?_ ?_ _) | (with_reducible refine Below.drew ?_) | (with_reducible exact Below.refl _ _) | (with_reducible refine below_after (by with_reducible assumption) ?_) | (first | omega | (simp only [World.size_alloc, World.size_drew, World.size_setCell]; omega))))) (first | (go_at_call 45; refine (determinant_any _ _ _ _ _ (by first | exact (isPt_bn1 HP.out) | exact HS0.out.1 | exact HS1.out.1) (by first | exact (isPt_bn2 HP.out) | exact HS0.out.2 | exact HS1.out.2) (by first | exact (isPt_bn1 HP.out) | exact HS0.out.1 | exact HS1.out.1) (by first | exact (isPt_bn2 HP.out) | exact HS0.out.2 | exact HS1.out.2)).mono ?_; rintro e wn ⟨rfl, hb⟩; have hsz := hb.size; (try simp only [World.size_alloc, World.size_setCell, World.size_drew] at hsz); first | (revert hb; with_reducible change Below (World.heap (World.alloc _ _)).size (World.alloc _ _) _ → _; intro hb; have hnw := after_new hb; (try simp only [World.size_alloc, World.size_drew] at hnw)) | (revert hb; with_reducible change Below (World.heap (World.drew (World.alloc _ _))).size (World.drew (World.alloc _ _)) _ → _; intro hb; have hnw := after_newd hb; (try simp only [World.size_alloc, World.size_drew] at hnw)) | (revert hnw; with_reducible change (World.cell? _ _ = some _ ∧ World.cell? _ _ = some _ ∧ World.frozen? _ _ = false ∧ World.frozen? _ _ = false ∧ (_ : Nat) < _) → _; intro hnw; have hnw := after_old hb hnw) | skip))
      all_goals
        go_wp2
        go_ret2
        have hv := HV.out
        subst hv
        exact ⟨_, rfl, own_up (own_3 _ _ _ _) (Below.size (below_after (w := wr) (by (repeat' (first | (with_reducible exact Below.refl _ _) | (with_reducible refine Below.alloc ?_ ?_ _) | (with_reducible refine Below.setCell ?_ ?_ _) | (with_reducible refine Below.drew ?_) | (with_reducible refine below_drewN ?_ _) | (with_reducible assumption) | (with_reducible refine below_after (by with_reducible assumption) ?_) | go_size))) (below_after HBL.out HBA.out))), below_after (w := wr) (by (repeat' (first | (with_reducible exact Below.refl _ _) | (with_reducible refine Below.alloc ?_ ?_ _) | (with_reducible refine Below.setCell ?_ ?_ _) | (with_reducible refine Below.drew ?_) | (with_reducible refine below_drewN ?_ _) | (with_reducible assumption) | (with_reducible refine below_after (by with_reducible assumption) ?_) | go_size))) (below_after HBL.out HBA.out)⟩
set_option maxHeartbeats 8000000 in
theorem impl_SplitPoint_any (a b c d x y : Int) (w : World) : Calls Try.prog 42 #[.agg #[.int .i64 a, .int .i64 b], .agg #[.int .i64 c, .int .i64 d], .agg #[.int .i64 x, .int .i64 y]] w (RetIC w (spL (a, b) (c, d) (x, y)) (spC (a, b) (c, d) (x, y))) := by
  have heq := eq_pt
  cases han : isAn (a, b) (c, d)
  · have hb : (isAn (a, b) (c, d) && isPt (x, y)) = false := by rw [han]; rfl
    have e1 : spC (a, b) (c, d) (x, y) = 1 := by unfold spC; rw [hb]; rfl
    have e2 : spL (a, b) (c, d) (x, y) = [] := by unfold spL; rw [e1]; rfl
    rw [e1, e2]
    have hIA : ∀ w, Calls Try.prog 38 #[.agg #[.int .i64 a, .int .i64 b], .agg #[.int .i64 c, .int .i64 d], .agg #[.int .i64 x, .int .i64 y]] w fun e w' => e = .returned (.tuple #[.bool false, .int .i64 1]) ∧ Below w.heap.size w w' := by
      intro w
      have := impl_IsInAngle_any a b c d x y w
      rw [(ia_no hb).1, (ia_no hb).2] at this
      exact this
    have HIA := Lib.hid hIA
    clear hIA
    clear han hb e1 e2
    have hs20 : w.heap.size < w.heap.size + 1 + 1 := (by omega); have hs30 : w.heap.size < w.heap.size + 1 + 1 + 1 := (by omega); have hs31 : w.heap.size + 1 < w.heap.size + 1 + 1 + 1 := (by omega); have hs40 : w.heap.size < w.heap.size + 1 + 1 + 1 + 1 := (by omega); have hs41 : w.heap.size + 1 < w.heap.size + 1 + 1 + 1 + 1 := (by omega); have hs42 : w.heap.size + 1 + 1 < w.heap.size + 1 + 1 + 1 + 1 := (by omega)
    go_enter Try.func42, Try.ntmps42
    go_wp2_with (go_at_call 38; refine (HIA.out _).mono ?_; rintro e wn ⟨rfl, hb⟩; first | (have h2 := after_call2 hb hcl hfr hlt (by ((repeat' (first | (with_reducible exact Below.refl _ _) | (with_reducible refine Below.alloc ?_ ?_ _) | (with_reducible refine Below.setCell ?_ ?_ _) | (with_reducible refine Below.drew ?_) | (with_reducible refine below_drewN ?_ _) | (with_reducible assumption) | (with_reducible refine below_after (by with_reducible assumption) ?_) | go_size)); done)); obtain ⟨hclx, hfrx, hltx, hsz⟩ := after_call hb; (try simp only [World.size_alloc, World.size_setCell, World.size_drew] at hclx hfrx hltx hsz); (try (have hszl := Nat.lt_of_succ_le hsz)); obtain ⟨hcl, hfr, hlt⟩ := h2) | (obtain ⟨hcl, hfr, hlt, hsz⟩ := after_call hb; (try simp only [World.size_alloc, World.size_setCell, World.size_drew] at hcl hfr hlt hsz)))
    go_ret2
    exact ⟨_, rfl, World.ownsRow_nil _ _ _ _, by (repeat' (first | (with_reducible exact Below.refl _ _) | (with_reducible refine Below.alloc ?_ ?_ _) | (with_reducible refine Below.setCell ?_ ?_ _) | (with_reducible refine Below.drew ?_) | (with_reducible refine below_drewN ?_ _) | (with_reducible assumption) | (with_reducible refine below_after (by with_reducible assumption) ?_) | go_size))⟩
  · cases hp : isPt (x, y)
    · have hb : (isAn (a, b) (c, d) && isPt (x, y)) = false := by rw [han, hp]; rfl
      have e1 : spC (a, b) (c, d) (x, y) = 1 := by unfold spC; rw [hb]; rfl
      have e2 : spL (a, b) (c, d) (x, y) = [] := by unfold spL; rw [e1]; rfl
      rw [e1, e2]
      have hIA : ∀ w, Calls Try.prog 38 #[.agg #[.int .i64 a, .int .i64 b], .agg #[.int .i64 c, .int .i64 d], .agg #[.int .i64 x, .int .i64 y]] w fun e w' => e = .returned (.tuple #[.bool false, .int .i64 1]) ∧ Below w.heap.size w w' := by
        intro w
        have := impl_IsInAngle_any a b c d x y w
        rw [(ia_no hb).1, (ia_no hb).2] at this
        exact this
      have HIA := Lib.hid hIA
      clear hIA
      clear han hb e1 e2
      clear hp
      have hs20 : w.heap.size < w.heap.size + 1 + 1 := (by omega); have hs30 : w.heap.size < w.heap.size + 1 + 1 + 1 := (by omega); have hs31 : w.heap.size + 1 < w.heap.size + 1 + 1 + 1 := (by omega); have hs40 : w.heap.size < w.heap.size + 1 + 1 + 1 + 1 := (by omega); have hs41 : w.heap.size + 1 < w.heap.size + 1 + 1 + 1 + 1 := (by omega); have hs42 : w.heap.size + 1 + 1 < w.heap.size + 1 + 1 + 1 + 1 := (by omega)
      go_enter Try.func42, Try.ntmps42
      go_wp2_with (go_at_call 38; refine (HIA.out _).mono ?_; rintro e wn ⟨rfl, hb⟩; first | (have h2 := after_call2 hb hcl hfr hlt (by ((repeat' (first | (with_reducible exact Below.refl _ _) | (with_reducible refine Below.alloc ?_ ?_ _) | (with_reducible refine Below.setCell ?_ ?_ _) | (with_reducible refine Below.drew ?_) | (with_reducible refine below_drewN ?_ _) | (with_reducible assumption) | (with_reducible refine below_after (by with_reducible assumption) ?_) | go_size)); done)); obtain ⟨hclx, hfrx, hltx, hsz⟩ := after_call hb; (try simp only [World.size_alloc, World.size_setCell, World.size_drew] at hclx hfrx hltx hsz); (try (have hszl := Nat.lt_of_succ_le hsz)); obtain ⟨hcl, hfr, hlt⟩ := h2) | (obtain ⟨hcl, hfr, hlt, hsz⟩ := after_call hb; (try simp only [World.size_alloc, World.size_setCell, World.size_drew] at hcl hfr hlt hsz)))
      go_ret2
      exact ⟨_, rfl, World.ownsRow_nil _ _ _ _, by (repeat' (first | (with_reducible exact Below.refl _ _) | (with_reducible refine Below.alloc ?_ ?_ _) | (with_reducible refine Below.setCell ?_ ?_ _) | (with_reducible refine Below.drew ?_) | (with_reducible refine below_drewN ?_ _) | (with_reducible assumption) | (with_reducible refine below_after (by with_reducible assumption) ?_) | go_size))⟩
    · have hb : (isAn (a, b) (c, d) && isPt (x, y)) = true := by rw [han, hp]; rfl
      cases hin : inA (a, b) (c, d) (x, y)
      · have e1 : spC (a, b) (c, d) (x, y) = 4 := by unfold spC; rw [if_pos hb, hin]; simp
        have e2 : spL (a, b) (c, d) (x, y) = [] := by unfold spL; rw [e1]; rfl
        rw [e1, e2]
        have hIA : ∀ w, Calls Try.prog 38 #[.agg #[.int .i64 a, .int .i64 b], .agg #[.int .i64 c, .int .i64 d], .agg #[.int .i64 x, .int .i64 y]] w fun e w' => e = .returned (.tuple #[.bool false, .int .i64 0]) ∧ Below w.heap.size w w' := by
          intro w
          have := impl_IsInAngle_any a b c d x y w
          rw [(ia_yes hb).1, (ia_yes hb).2, hin] at this
          exact this
        have HIA := Lib.hid hIA
        clear hIA
        clear han hb e1 e2 hin
        have hs20 : w.heap.size < w.heap.size + 1 + 1 := (by omega); have hs30 : w.heap.size < w.heap.size + 1 + 1 + 1 := (by omega); have hs31 : w.heap.size + 1 < w.heap.size + 1 + 1 + 1 := (by omega); have hs40 : w.heap.size < w.heap.size + 1 + 1 + 1 + 1 := (by omega); have hs41 : w.heap.size + 1 < w.heap.size + 1 + 1 + 1 + 1 := (by omega); have hs42 : w.heap.size + 1 + 1 < w.heap.size + 1 + 1 + 1 + 1 := (by omega)
        go_enter Try.func42, Try.ntmps42
        go_wp2_with (go_at_call 38; refine (HIA.out _).mono ?_; rintro e wn ⟨rfl, hb⟩; first | (have h2 := after_call2 hb hcl hfr hlt (by ((repeat' (first | (with_reducible exact Below.refl _ _) | (with_reducible refine Below.alloc ?_ ?_ _) | (with_reducible refine Below.setCell ?_ ?_ _) | (with_reducible refine Below.drew ?_) | (with_reducible refine below_drewN ?_ _) | (with_reducible assumption) | (with_reducible refine below_after (by with_reducible assumption) ?_) | go_size)); done)); obtain ⟨hclx, hfrx, hltx, hsz⟩ := after_call hb; (try simp only [World.size_alloc, World.size_setCell, World.size_drew] at hclx hfrx hltx hsz); (try (have hszl := Nat.lt_of_succ_le hsz)); obtain ⟨hcl, hfr, hlt⟩ := h2) | (obtain ⟨hcl, hfr, hlt, hsz⟩ := after_call hb; (try simp only [World.size_alloc, World.size_setCell, World.size_drew] at hcl hfr hlt hsz)))
        go_ret2
        exact ⟨_, rfl, World.ownsRow_nil _ _ _ _, by (repeat' (first | (with_reducible exact Below.refl _ _) | (with_reducible refine Below.alloc ?_ ?_ _) | (with_reducible refine Below.setCell ?_ ?_ _) | (with_reducible refine Below.drew ?_) | (with_reducible refine below_drewN ?_ _) | (with_reducible assumption) | (with_reducible refine below_after (by with_reducible assumption) ?_) | go_size))⟩
      · by_cases hz : ((x, y) : Int × Int) = (0, 0)
        · have e1 : spC (a, b) (c, d) (x, y) = 4 := by unfold spC; rw [if_pos hb, if_neg (fun h => h.2 hz)]
          have e2 : spL (a, b) (c, d) (x, y) = [] := by unfold spL; rw [e1]; rfl
          rw [e1, e2]
          clear e1 e2
          obtain rfl : x = 0 := congrArg Prod.fst hz
          obtain rfl : y = 0 := congrArg Prod.snd hz
          have hIA : ∀ w, Calls Try.prog 38 #[.agg #[.int .i64 a, .int .i64 b], .agg #[.int .i64 c, .int .i64 d], .agg #[.int .i64 0, .int .i64 0]] w fun e w' => e = .returned (.tuple #[.bool true, .int .i64 0]) ∧ Below w.heap.size w w' := by
            intro w
            have := impl_IsInAngle_any a b c d 0 0 w
            rw [(ia_yes hb).1, (ia_yes hb).2, hin] at this
            exact this
          have HIA := Lib.hid hIA
          clear hIA
          clear han hb hin hz
          have hs20 : w.heap.size < w.heap.size + 1 + 1 := (by omega); have hs30 : w.heap.size < w.heap.size + 1 + 1 + 1 := (by omega); have hs31 : w.heap.size + 1 < w.heap.size + 1 + 1 + 1 := (by omega); have hs40 : w.heap.size < w.heap.size + 1 + 1 + 1 + 1 := (by omega); have hs41 : w.heap.size + 1 < w.heap.size + 1 + 1 + 1 + 1 := (by omega); have hs42 : w.heap.size + 1 + 1 < w.heap.size + 1 + 1 + 1 + 1 := (by omega)
          go_enter Try.func42, Try.ntmps42
          go_wp2_with (go_at_call 38; refine (HIA.out _).mono ?_; rintro e wn ⟨rfl, hb⟩; first | (have h2 := after_call2 hb hcl hfr hlt (by ((repeat' (first | (with_reducible exact Below.refl _ _) | (with_reducible refine Below.alloc ?_ ?_ _) | (with_reducible refine Below.setCell ?_ ?_ _) | (with_reducible refine Below.drew ?_) | (with_reducible refine below_drewN ?_ _) | (with_reducible assumption) | (with_reducible refine below_after (by with_reducible assumption) ?_) | go_size)); done)); obtain ⟨hclx, hfrx, hltx, hsz⟩ := after_call hb; (try simp only [World.size_alloc, World.size_setCell, World.size_drew] at hclx hfrx hltx hsz); (try (have hszl := Nat.lt_of_succ_le hsz)); obtain ⟨hcl, hfr, hlt⟩ := h2) | (obtain ⟨hcl, hfr, hlt, hsz⟩ := after_call hb; (try simp only [World.size_alloc, World.size_setCell, World.size_drew] at hcl hfr hlt hsz)))
          go_ret2
          exact ⟨_, rfl, World.ownsRow_nil _ _ _ _, by (repeat' (first | (with_reducible exact Below.refl _ _) | (with_reducible refine Below.alloc ?_ ?_ _) | (with_reducible refine Below.setCell ?_ ?_ _) | (with_reducible refine Below.drew ?_) | (with_reducible refine below_drewN ?_ _) | (with_reducible assumption) | (with_reducible refine below_after (by with_reducible assumption) ?_) | go_size))⟩
        · have e1 : spC (a, b) (c, d) (x, y) = slC (a, b) (c, d) := by unfold spC; rw [if_pos hb, if_pos ⟨hin, hz⟩]
          rcases sl_cases (a, b) (c, d) with ⟨hc, _, _, _, h2, h3⟩ | ⟨hc, hn, _⟩
          · have e2 : spL (a, b) (c, d) (x, y) = splV (slL (a, b) (c, d)) (x, y) := by unfold spL; rw [e1, hc]; rfl
            rw [e1, e2, hc]
            have hSP : ∀ w, Calls Try.prog 18 #[.agg #[.int .i64 a, .int .i64 b], .agg #[.int .i64 c, .int .i64 d]] w (RetPC w (slL (a, b) (c, d)) 0) := by
              intro w; have := impl_SailPoints_any a b c d w; rw [hc] at this; exact this
            exact impl_SplitPoint_some a b c d x y _ _ w han hp hin hz rfl h2 h3 (slL_nbr _ _) hSP
          · have e2 : spL (a, b) (c, d) (x, y) = [] := by unfold spL; rw [e1, if_neg hc]
            rw [e1, e2]
            have hSP : ∀ w, Calls Try.prog 18 #[.agg #[.int .i64 a, .int .i64 b], .agg #[.int .i64 c, .int .i64 d]] w (RetPC w [] (slC (a, b) (c, d))) := by
              intro w; have := impl_SailPoints_any a b c d w; rw [hn] at this; exact this
            generalize slC (a, b) (c, d) = C at *
            have HSP := Lib.hid hSP
            have hc2 : (C == 0) = false := by simpa using hc
            have hc3 : ¬ C = 0 := hc
            have hc4 : (C != 0) = true := by simpa using hc
            have hne1 := ne_pt hz
            have hne2 : ¬ (x = 0 ∧ y = 0) := fun h => hz (by rw [h.1, h.2])
            have hne3 : x = 0 → ¬ y = 0 := fun h h' => hz (by rw [h, h'])
            have hIA : ∀ w, Calls Try.prog 38 #[.agg #[.int .i64 a, .int .i64 b], .agg #[.int .i64 c, .int .i64 d], .agg #[.int .i64 x, .int .i64 y]] w fun e w' => e = .returned (.tuple #[.bool true, .int .i64 0]) ∧ Below w.heap.size w w' := by
              intro w
              have := impl_IsInAngle_any a b c d x y w
              rw [(ia_yes hb).1, (ia_yes hb).2, hin] at this
              exact this
            have HIA := Lib.hid hIA
            clear hIA
            clear han hb hin hz e1 e2 hSP hn
            have hs20 : w.heap.size < w.heap.size + 1 + 1 := (by omega); have hs30 : w.heap.size < w.heap.size + 1 + 1 + 1 := (by omega); have hs31 : w.heap.size + 1 < w.heap.size + 1 + 1 + 1 := (by omega); have hs40 : w.heap.size < w.heap.size + 1 + 1 + 1 + 1 := (by omega); have hs41 : w.heap.size + 1 < w.heap.size + 1 + 1 + 1 + 1 := (by omega); have hs42 : w.heap.size + 1 + 1 < w.heap.size + 1 + 1 + 1 + 1 := (by omega)
            go_enter Try.func42, Try.ntmps42
            go_wp2_with (first | (go_at_call 38; refine (HIA.out _).mono ?_; rintro e wn ⟨rfl, hb⟩; first | (have h2 := after_call2 hb hcl hfr hlt (by ((repeat' (first | (with_reducible exact Below.refl _ _) | (with_reducible refine Below.alloc ?_ ?_ _) | (with_reducible refine Below.setCell ?_ ?_ _) | (with_reducible refine Below.drew ?_) | (with_reducible refine below_drewN ?_ _) | (with_reducible assumption) | (with_reducible refine below_after (by with_reducible assumption) ?_) | go_size)); done)); obtain ⟨hclx, hfrx, hltx, hsz⟩ := after_call hb; (try simp only [World.size_alloc, World.size_setCell, World.size_drew] at hclx hfrx hltx hsz); (try (have hszl := Nat.lt_of_succ_le hsz)); obtain ⟨hcl, hfr, hlt⟩ := h2) | (obtain ⟨hcl, hfr, hlt, hsz⟩ := after_call hb; (try simp only [World.size_alloc, World.size_setCell, World.size_drew] at hcl hfr hlt hsz))) | (go_at_call 18; refine (HSP.out _).mono ?_; rintro e wn hr; obtain ⟨va, vc, rfl, hb⟩ := retpc_none hr rfl; clear hr; first | (have h2 := after_call2 hb hcl hfr hlt (by ((repeat' (first | (with_reducible exact Below.refl _ _) | (with_reducible refine Below.alloc ?_ ?_ _) | (with_reducible refine Below.setCell ?_ ?_ _) | (with_reducible refine Below.drew ?_) | (with_reducible refine below_drewN ?_ _) | (with_reducible assumption) | (with_reducible refine below_after (by with_reducible assumption) ?_) | go_size)); done)); obtain ⟨hclx, hfrx, hltx, hsz⟩ := after_call hb; (try simp only [World.size_alloc, World.size_setCell, World.size_drew] at hclx hfrx hltx hsz); (try (have hszl := Nat.lt_of_succ_le hsz)); obtain ⟨hcl, hfr, hlt⟩ := h2) | (obtain ⟨hcl, hfr, hlt, hsz⟩ := after_call hb; (try simp only [World.size_alloc, World.size_setCell, World.size_drew] at hcl hfr hlt hsz))))
            go_ret2
            exact ⟨_, rfl, World.ownsRow_nil _ _ _ _, by (repeat' (first | (with_reducible exact Below.refl _ _) | (with_reducible refine Below.alloc ?_ ?_ _) | (with_reducible refine Below.setCell ?_ ?_ _) | (with_reducible refine Below.drew ?_) | (with_reducible refine below_drewN ?_ _) | (with_reducible assumption) | (with_reducible refine below_after (by with_reducible assumption) ?_) | go_size))⟩
set_option maxHeartbeats 8000000 in
theorem spec_SplitPoint_some (a b c d x y : Int) (L : List (Int × Int)) (ns : List Int) (n : Nat) (w : World) (han : isAn (a, b) (c, d) = true) (hp : isPt (x, y) = true) (hin : inA (a, b) (c, d) (x, y) = true) (hne : ((x, y) : Int × Int) ≠ (0, 0)) (hN : L.length = n) (h2 : 2 ≤ n) (hl : n ≤ 2000) (hnb : Nbr L)
    (hSP : ∀ w, Calls Try.prog 46 #[.agg #[.int .i64 a, .int .i64 b], .agg #[.int .i64 c, .int .i64 d]] w (RetPNC w L ns 0)) :
    Calls Try.prog 41 #[.agg #[.int .i64 a, .int .i64 b], .agg #[.int .i64 c, .int .i64 d], .agg #[.int .i64 x, .int .i64 y]] w (RetIC w (splV L (x, y)) 0) := by
  have heq := eq_pt
  have HAN := Lib.hid han
  have hIN : ∀ w, Calls Try.prog 56 #[.agg #[.int .i64 a, .int .i64 b], .agg #[.int .i64 c, .int .i64 d], .agg #[.int .i64 x, .int .i64 y]] w fun e w' => e = .returned (.bool true) ∧ Below w.heap.size w w' := by
    intro w
    obtain ⟨q0, q1⟩ := isAn_pts han
    have := l03Inside_any a b c d x y w q0 q1 hp
    rw [hin] at this
    exact this
  have HIN := Lib.hid hIN
  clear hIN
  have hne1 := ne_pt hne
  have hne2 : ¬ (x = 0 ∧ y = 0) := fun h => hne (by rw [h.1, h.2])
  have hne3 : x = 0 → ¬ y = 0 := fun h h' => hne (by rw [h, h'])
  have HSP := Lib.hid hSP
  have HN := Lib.hid hN
  have HL := Lib.hid hl
  have H1 : Hid (1 ≤ n) := by show 1 ≤ n; omega
  have H2 := Lib.hid h2
  have HP := Lib.hid hp
  have HNB := Lib.hid hnb
  obtain ⟨R, hR⟩ : ∃ R, splV L (x, y) = R := ⟨_, rfl⟩
  rw [hR]
  have HR := Lib.hid hR
  clear hSP hN hl h2 hnb hR hin hne han
  have hs20 : w.heap.size < w.heap.size + 1 + 1 := (by omega); have hs30 : w.heap.size < w.heap.size + 1 + 1 + 1 := (by omega); have hs31 : w.heap.size + 1 < w.heap.size + 1 + 1 + 1 := (by omega); have hs40 : w.heap.size < w.heap.size + 1 + 1 + 1 + 1 := (by omega); have hs41 : w.heap.size + 1 < w.heap.size + 1 + 1 + 1 + 1 := (by omega); have hs42 : w.heap.size + 1 + 1 < w.heap.size + 1 + 1 + 1 + 1 := (by omega)
  go_enter Try.func41, Try.ntmps41
  go_wp2_with (first | (go_at_call 43; refine (l03Is_any _ _ _ _ _).mono ?_; rintro e wn ⟨rfl, hb⟩; first | (have h2 := after_call2 hb hcl hfr hlt (by ((repeat' (first | (with_reducible exact Below.refl _ _) | (with_reducible refine Below.alloc ?_ ?_ _) | (with_reducible refine Below.setCell ?_ ?_ _) | (with_reducible refine Below.drew ?_) | (with_reducible refine below_drewN ?_ _) | (with_reducible assumption) | (with_reducible refine below_after (by with_reducible assumption) ?_) | go_size)); done)); obtain ⟨hclx, hfrx, hltx, hsz⟩ := after_call hb; (try simp only [World.size_alloc, World.size_setCell, World.size_drew] at hclx hfrx hltx hsz); (try (have hszl := Nat.lt_of_succ_le hsz)); obtain ⟨hcl, hfr, hlt⟩ := h2) | (obtain ⟨hcl, hfr, hlt, hsz⟩ := after_call hb; (try simp only [World.size_alloc, World.size_setCell, World.size_drew] at hcl hfr hlt hsz))); (try rw [HAN.out]) | (go_at_call 55; refine (l01Is_any _ _ _).mono ?_; rintro e wn ⟨rfl, hb⟩; first | (have h2 := after_call2 hb hcl hfr hlt (by ((repeat' (first | (with_reducible exact Below.refl _ _) | (with_reducible refine Below.alloc ?_ ?_ _) | (with_reducible refine Below.setCell ?_ ?_ _) | (with_reducible refine Below.drew ?_) | (with_reducible refine below_drewN ?_ _) | (with_reducible assumption) | (with_reducible refine below_after (by with_reducible assumption) ?_) | go_size)); done)); obtain ⟨hclx, hfrx, hltx, hsz⟩ := after_call hb; (try simp only [World.size_alloc, World.size_setCell, World.size_drew] at hclx hfrx hltx hsz); (try (have hszl := Nat.lt_of_succ_le hsz)); obtain ⟨hcl, hfr, hlt⟩ := h2) | (obtain ⟨hcl, hfr, hlt, hsz⟩ := after_call hb; (try simp only [World.size_alloc, World.size_setCell, World.size_drew] at hcl hfr hlt hsz))) | (go_at_call 56; refine (HIN.out _).mono ?_; rintro e wn ⟨rfl, hb⟩; first | (have h2 := after_call2 hb hcl hfr hlt (by ((repeat' (first | (with_reducible exact Below.refl _ _) | (with_reducible refine Below.alloc ?_ ?_ _) | (with_reducible refine Below.setCell ?_ ?_ _) | (with_reducible refine Below.drew ?_) | (with_reducible refine below_drewN ?_ _) | (with_reducible assumption) | (with_reducible refine below_after (by with_reducible assumption) ?_) | go_size)); done)); obtain ⟨hclx, hfrx, hltx, hsz⟩ := after_call hb; (try simp only [World.size_alloc, World.size_setCell, World.size_drew] at hclx hfrx hltx hsz); (try (have hszl := Nat.lt_of_succ_le hsz)); obtain ⟨hcl, hfr, hlt⟩ := h2) | (obtain ⟨hcl, hfr, hlt, hsz⟩ := after_call hb; (try simp only [World.size_alloc, World.size_setCell, World.size_drew] at hcl hfr hlt hsz))) | (go_at_call 46; refine (HSP.out _).mono ?_; rintro e wA hr; obtain ⟨g, cp, na, nc, rfl, hge, hpt, _, hb⟩ := retpnc_some hr HN.out H1.out; clear hr; have HPT := Lib.hid hpt; clear hpt; first | (have h2 := after_call2 hb hcl hfr hlt (by ((repeat' (first | (with_reducible exact Below.refl _ _) | (with_reducible refine Below.alloc ?_ ?_ _) | (with_reducible refine Below.setCell ?_ ?_ _) | (with_reducible refine Below.drew ?_) | (with_reducible refine below_drewN ?_ _) | (with_reducible assumption) | (with_reducible refine below_after (by with_reducible assumption) ?_) | go_size)); done)); obtain ⟨hclx, hfrx, hltx, hsz⟩ := after_call hb; (try simp only [World.size_alloc, World.size_setCell, World.size_drew] at hclx hfrx hltx hsz); (try (have hszl := Nat.lt_of_succ_le hsz)); obtain ⟨hcl, hfr, hlt⟩ := h2) | (obtain ⟨hcl, hfr, hlt, hsz⟩ := after_call hb; (try simp only [World.size_alloc, World.size_setCell, World.size_drew] at hcl hfr hlt hsz))))
  have HBA : Hid (Below w.heap.size w wA) := by show Below w.heap.size w wA; (repeat' (first | (with_reducible exact Below.refl _ _) | (with_reducible refine Below.alloc ?_ ?_ _) | (with_reducible refine Below.setCell ?_ ?_ _) | (with_reducible refine Below.drew ?_) | (with_reducible refine below_drewN ?_ _) | (with_reducible assumption) | (with_reducible refine below_after (by with_reducible assumption) ?_) | go_size))
  have HKA : Hid (∀ W', Below wA.heap.size wA W' → W'.cell? ⟨w.heap.size + 1 + 1, 0, none⟩ = some (.int .i64 x) ∧ W'.cell? ⟨w.heap.size + 1 + 1, 1, none⟩ = some (.int .i64 y) ∧ PtsAt W' g L) := by
    intro W' hB
    have c0 : wA.cell? ⟨w.heap.size + 1 + 1, 0, none⟩ = some (.int .i64 x) := by go_cell
    have c1 : wA.cell? ⟨w.heap.size + 1 + 1, 1, none⟩ = some (.int .i64 y) := by go_cell
    have hz := World.block_lt_of_cell? wA _ c0
    exact ⟨((bcell hB).1 _ _ hz).trans c0, ((bcell hB).1 _ _ hz).trans c1, PtsAt.below HPT.out hB⟩
  (repeat (first | clear hb | clear hcl | clear hfr | clear hlt | clear hclx | clear hfrx | clear hltx))
  go_loopw [11] (fun i wr => ∃ k : Nat, k + 2 ≤ n ∧ i = .int .i64 (k : Int) ∧ (∀ j, j < k → detP (x, y) (L.getD (j + 1) (0, 0)) ≤ 0) ∧ Below wA.heap.size wA wr) (fun i _ => n - (intOf i).toNat)
  case atStart => exact ⟨0, H2.out, rfl, fun j hj => by omega, Below.refl _ _⟩
  case round =>
    obtain ⟨k, hk, rfl, hno, hbel⟩ := hrel
    have HNO := Lib.hid hno
    have HBL := Lib.hid hbel
    have HKN := Lib.hid hk
    obtain ⟨k1, hk1⟩ : ∃ k1, k1 = k + 1 := ⟨_, rfl⟩
    have HK1 := Lib.hid hk1
    obtain ⟨s0, s1, _⟩ := HNB.out k (by rw [HN.out]; omega)
    rw [← hk1] at s1
    obtain ⟨⟨u0, v0⟩, hu0⟩ : ∃ u, L.getD k (0, 0) = u := ⟨_, rfl⟩
    obtain ⟨⟨u1, v1⟩, hu1⟩ : ∃ u, L.getD k1 (0, 0) = u := ⟨_, rfl⟩
    rw [hu0] at s0
    rw [hu1] at s1
    have HS0 : Hid (Bn u0 ∧ Bn v0) := sm_bn s0
    have HS1 : Hid (Bn u1 ∧ Bn v1) := sm_bn s1
    have HU0 := Lib.hid hu0
    have HU1 := Lib.hid hu1
    have HVV : Hid ((k + 2 < n → 0 < detP (x, y) (u1, v1)) → R = [(k : Int), detP (x, y) (u1, v1), detP (u0, v0) (x, y)]) := by
      intro hd
      rw [← HR.out, splV_at HNO.out (by rw [HN.out]; exact HKN.out) (fun h => by rw [← HK1.out, HU1.out]; exact hd (by rw [HN.out] at h; exact h)), ← HK1.out, HU0.out, HU1.out]
    have HKR : Hid (∀ W', Below wr.heap.size wr W' → W'.cell? ⟨w.heap.size + 1 + 1, 0, none⟩ = some (.int .i64 x) ∧ W'.cell? ⟨w.heap.size + 1 + 1, 1, none⟩ = some (.int .i64 y) ∧ W'.cell? ⟨g, k1 * 2, none⟩ = some (.int .i64 u1) ∧ W'.cell? ⟨g, k1 * 2 + 1, none⟩ = some (.int .i64 v1) ∧ W'.cell? ⟨g, k * 2, none⟩ = some (.int .i64 u0) ∧ W'.cell? ⟨g, k * 2 + 1, none⟩ = some (.int .i64 v0)) := by
      intro W' hB
      obtain ⟨a1, a2, a3⟩ := HKA.out W' (below_after hB HBL.out)
      obtain ⟨b1, b2⟩ := a3.2 k1 (by rw [HN.out]; omega)
      obtain ⟨b3, b4⟩ := a3.2 k (by rw [HN.out]; omega)
      rw [HU1.out] at b1 b2
      rw [HU0.out] at b3 b4
      exact ⟨a1, a2, b1, b2, b3, b4⟩
    obtain ⟨x0, x1, x2, x3, x4, x5⟩ := HKR.out wr (Below.refl _ _)
    have i0 : (0 : Int) ≤ (k : Int) := by omega
    have i1 : (k : Int) < (n : Int) := by omega
    have i2 : (0 : Int) ≤ (k1 : Int) := by omega
    have i3 : (k1 : Int) < (n : Int) := by omega
    have i4 : (k : Int) + 1 = (k1 : Int) := by omega
    have i5 : IntKind.i64.wrap (k1 : Int) = (k1 : Int) := by rw [IntKind.wrap_i64]; have := HL.out; omega
    have i6 : (n : Int) ≤ 2000 := by have := HL.out; omega
    have i7 : IntKind.i64.wrap (k : Int) = (k : Int) := by rw [IntKind.wrap_i64]; have := HL.out; omega
    have i8 : (2 : Int) ≤ (n : Int) := by have := H2.out; omega
    have i9 : IntKind.i64.wrap ((n : Int) - 2) = (n : Int) - 2 := by rw [IntKind.wrap_i64]; have := HL.out; omega
    have ia : IntKind.i64.wrap ((k : Int) + 2) = (k : Int) + 2 := by rw [IntKind.wrap_i64]; have := HL.out; omega
    clear s0 s1 hu0 hu1 hno hbel
    by_cases hlt : k + 2 < n
    · have l1 : (k : Int) + 2 < (n : Int) := by omega
      by_cases he : 0 < detP (x, y) (u1, v1)
      · have HV := Lib.hid (HVV.out (fun _ => he))
        clear hk hk1
        go_wp2
        go_region_held3 (fun W' => W'.cell? ⟨w.heap.size + 1 + 1, 0, none⟩ = some (.int .i64 x) ∧ W'.cell? ⟨w.heap.size + 1 + 1, 1, none⟩ = some (.int .i64 y) ∧ W'.cell? ⟨g, k1 * 2, none⟩ = some (.int .i64 u1) ∧ W'.cell? ⟨g, k1 * 2 + 1, none⟩ = some (.int .i64 v1) ∧ W'.cell? ⟨g, k * 2, none⟩ = some (.int .i64 u0) ∧ W'.cell? ⟨g, k * 2 + 1, none⟩ = some (.int .i64 v0)) ((refine (HKR.out _ ?_); repeat' (first | (with_reducible refine Below.alloc ?_ ?_ _) | (with_reducible refine Below.setCell ?_ ?_ _) | (with_reducible refine Below.drew ?_) | (with_reducible exact Below.refl _ _) | (with_reducible refine below_after (by with_reducible assumption) ?_) | (first | omega | (simp only [World.size_alloc, World.size_drew, World.size_setCell]; omega))))) (first | (go_at_call 59; refine (l01Det_any _ _ _ _ _ (by first | exact (isPt_bn1 HP.out) | exact HS0.out.1 | exact HS1.out.1) (by first | exact (isPt_bn2 HP.out) | exact HS0.out.2 | exact HS1.out.2) (by first | exact (isPt_bn1 HP.out) | exact HS0.out.1 | exact HS1.out.1) (by first | exact (isPt_bn2 HP.out) | exact HS0.out.2 | exact HS1.out.2)).mono ?_; rintro e wn ⟨rfl, hb⟩; have hsz := hb.size; (try simp only [World.size_alloc, World.size_setCell, World.size_drew] at hsz); first | (revert hb; with_reducible change Below (World.heap (World.alloc _ _)).size (World.alloc _ _) _ → _; intro hb; have hnw := after_new hb; (try simp only [World.size_alloc, World.size_drew] at hnw)) | (revert hb; with_reducible change Below (World.heap (World.drew (World.alloc _ _))).size (World.drew (World.alloc _ _)) _ → _; intro hb; have hnw := after_newd hb; (try simp only [World.size_alloc, World.size_drew] at hnw)) | (revert hnw; with_reducible change (World.cell? _ _ = some _ ∧ World.cell? _ _ = some _ ∧ World.frozen? _ _ = false ∧ World.frozen? _ _ = false ∧ (_ : Nat) < _) → _; intro hnw; have hnw := after_old hb hnw) | skip))
        all_goals
          go_wp2
          go_region_held3 (fun W' => W'.cell? ⟨w.heap.size + 1 + 1, 0, none⟩ = some (.int .i64 x) ∧ W'.cell? ⟨w.heap.size + 1 + 1, 1, none⟩ = some (.int .i64 y) ∧ W'.cell? ⟨g, k1 * 2, none⟩ = some (.int .i64 u1) ∧ W'.cell? ⟨g, k1 * 2 + 1, none⟩ = some (.int .i64 v1) ∧ W'.cell? ⟨g, k * 2, none⟩ = some (.int .i64 u0) ∧ W'.cell? ⟨g, k * 2 + 1, none⟩ = some (.int .i64 v0)) ((refine (HKR.out _ ?_); repeat' (first | (with_reducible refine Below.alloc ?_ ?_ _) | (with_reducible refine Below.setCell ?_ ?_ _) | (with_reducible refine Below.drew ?_) | (with_reducible exact Below.refl _ _) | (with_reducible refine below_after (by with_reducible assumption) ?_) | (first | omega | (simp only [World.size_alloc, World.size_drew, World.size_setCell]; omega))))) (first | (go_at_call 59; refine (l01Det_any _ _ _ _ _ (by first | exact (isPt_bn1 HP.out) | exact HS0.out.1 | exact HS1.out.1) (by first | exact (isPt_bn2 HP.out) | exact HS0.out.2 | exact HS1.out.2) (by first | exact (isPt_bn1 HP.out) | exact HS0.out.1 | exact HS1.out.1) (by first | exact (isPt_bn2 HP.out) | exact HS0.out.2 | exact HS1.out.2)).mono ?_; rintro e wn ⟨rfl, hb⟩; have hsz := hb.size; (try simp only [World.size_alloc, World.size_setCell, World.size_drew] at hsz); first | (revert hb; with_reducible change Below (World.heap (World.alloc _ _)).size (World.alloc _ _) _ → _; intro hb; have hnw := after_new hb; (try simp only [World.size_alloc, World.size_drew] at hnw)) | (revert hb; with_reducible change Below (World.heap (World.drew (World.alloc _ _))).size (World.drew (World.alloc _ _)) _ → _; intro hb; have hnw := after_newd hb; (try simp only [World.size_alloc, World.size_drew] at hnw)) | (revert hnw; with_reducible change (World.cell? _ _ = some _ ∧ World.cell? _ _ = some _ ∧ World.frozen? _ _ = false ∧ World.frozen? _ _ = false ∧ (_ : Nat) < _) → _; intro hnw; have hnw := after_old hb hnw) | skip))
          all_goals
            go_wp2
            go_ret2
            have hv := HV.out
            subst hv
            exact ⟨_, rfl, own_up (own_3 _ _ _ _) (Below.size (below_after (w := wr) (by (repeat' (first | (with_reducible exact Below.refl _ _) | (with_reducible refine Below.alloc ?_ ?_ _) | (with_reducible refine Below.setCell ?_ ?_ _) | (with_reducible refine Below.drew ?_) | (with_reducible refine below_drewN ?_ _) | (with_reducible assumption) | (with_reducible refine below_after (by with_reducible assumption) ?_) | go_size))) (below_after HBL.out HBA.out))), below_after (w := wr) (by (repeat' (first | (with_reducible exact Below.refl _ _) | (with_reducible refine Below.alloc ?_ ?_ _) | (with_reducible refine Below.setCell ?_ ?_ _) | (with_reducible refine Below.drew ?_) | (with_reducible refine below_drewN ?_ _) | (with_reducible assumption) | (with_reducible refine below_after (by with_reducible assumption) ?_) | go_size))) (below_after HBL.out HBA.out)⟩
      · have HE := Lib.hid he
        have he2 : detP (x, y) (u1, v1) ≤ 0 := by omega
        clear hk hk1
        go_wp2
        go_region_held3 (fun W' => W'.cell? ⟨w.heap.size + 1 + 1, 0, none⟩ = some (.int .i64 x) ∧ W'.cell? ⟨w.heap.size + 1 + 1, 1, none⟩ = some (.int .i64 y) ∧ W'.cell? ⟨g, k1 * 2, none⟩ = some (.int .i64 u1) ∧ W'.cell? ⟨g, k1 * 2 + 1, none⟩ = some (.int .i64 v1) ∧ W'.cell? ⟨g, k * 2, none⟩ = some (.int .i64 u0) ∧ W'.cell? ⟨g, k * 2 + 1, none⟩ = some (.int .i64 v0)) ((refine (HKR.out _ ?_); repeat' (first | (with_reducible refine Below.alloc ?_ ?_ _) | (with_reducible refine Below.setCell ?_ ?_ _) | (with_reducible refine Below.drew ?_) | (with_reducible exact Below.refl _ _) | (with_reducible refine below_after (by with_reducible assumption) ?_) | (first | omega | (simp only [World.size_alloc, World.size_drew, World.size_setCell]; omega))))) (first | (go_at_call 59; refine (l01Det_any _ _ _ _ _ (by first | exact (isPt_bn1 HP.out) | exact HS0.out.1 | exact HS1.out.1) (by first | exact (isPt_bn2 HP.out) | exact HS0.out.2 | exact HS1.out.2) (by first | exact (isPt_bn1 HP.out) | exact HS0.out.1 | exact HS1.out.1) (by first | exact (isPt_bn2 HP.out) | exact HS0.out.2 | exact HS1.out.2)).mono ?_; rintro e wn ⟨rfl, hb⟩; have hsz := hb.size; (try simp only [World.size_alloc, World.size_setCell, World.size_drew] at hsz); first | (revert hb; with_reducible change Below (World.heap (World.alloc _ _)).size (World.alloc _ _) _ → _; intro hb; have hnw := after_new hb; (try simp only [World.size_alloc, World.size_drew] at hnw)) | (revert hb; with_reducible change Below (World.heap (World.drew (World.alloc _ _))).size (World.drew (World.alloc _ _)) _ → _; intro hb; have hnw := after_newd hb; (try simp only [World.size_alloc, World.size_drew] at hnw)) | (revert hnw; with_reducible change (World.cell? _ _ = some _ ∧ World.cell? _ _ = some _ ∧ World.frozen? _ _ = false ∧ World.frozen? _ _ = false ∧ (_ : Nat) < _) → _; intro hnw; have hnw := after_old hb hnw) | skip))
        all_goals
          go_wp2
          go_roundw
          case rel =>
            refine ⟨k1, by have := HK1.out; omega, rfl, fun j hj => ?_, below_after (by (repeat' (first | (with_reducible exact Below.refl _ _) | (with_reducible refine Below.alloc ?_ ?_ _) | (with_reducible refine Below.setCell ?_ ?_ _) | (with_reducible refine Below.drew ?_) | (with_reducible refine below_drewN ?_ _) | (with_reducible assumption) | (with_reducible refine below_after (by with_reducible assumption) ?_) | go_size))) HBL.out⟩
            by_cases hj2 : j = k
            · rw [hj2, ← HK1.out, HU1.out]; have := HE.out; omega
            · exact HNO.out j (by have := HK1.out; omega)
          case measure => have := HK1.out; simp [intOf]; omega
    · have l1 : ¬ (k : Int) + 2 < (n : Int) := by omega
      have l2 : (n : Int) ≤ (k : Int) + 2 := by omega
      have l3 : (n : Int) - 2 = (k : Int) := by omega
      have HV := Lib.hid (HVV.out (fun h => absurd h hlt))
      clear hk hk1
      go_wp2
      go_region_held3 (fun W' => W'.cell? ⟨w.heap.size + 1 + 1, 0, none⟩ = some (.int .i64 x) ∧ W'.cell? ⟨w.heap.size + 1 + 1, 1, none⟩ = some (.int .i64 y) ∧ W'.cell? ⟨g, k1 * 2, none⟩ = some (.int .i64 u1) ∧ W'.cell? ⟨g, k1 * 2 + 1, none⟩ = some (.int .i64 v1) ∧ W'.cell? ⟨g, k * 2, none⟩ = some (.int .i64 u0) ∧ W'.cell? ⟨g, k * 2 + 1, none⟩ = some (.int .i64 v0)) ((refine (HKR.out _ ?_); repeat' (first | (with_reducible refine Below.alloc ?_ ?_ _) | (with_reducible refine Below.setCell ?_ ?_ _) | (with_reducible refine Below.drew ?_) | (with_reducible exact Below.refl _ _) | (with_reducible refine below_after (by with_reducible assumption) ?_) | (first | omega | (simp only [World.size_alloc, World.size_drew, World.size_setCell]; omega))))) (first | (go_at_call 59; refine (l01Det_any _ _ _ _ _ (by first | exact (isPt_bn1 HP.out) | exact HS0.out.1 | exact HS1.out.1) (by first | exact (isPt_bn2 HP.out) | exact HS0.out.2 | exact HS1.out.2) (by first | exact (isPt_bn1 HP.out) | exact HS0.out.1 | exact HS1.out.1) (by first | exact (isPt_bn2 HP.out) | exact HS0.out.2 | exact HS1.out.2)).mono ?_; rintro e wn ⟨rfl, hb⟩; have hsz := hb.size; (try simp only [World.size_alloc, World.size_setCell, World.size_drew] at hsz); first | (revert hb; with_reducible change Below (World.heap (World.alloc _ _)).size (World.alloc _ _) _ → _; intro hb; have hnw := after_new hb; (try simp only [World.size_alloc, World.size_drew] at hnw)) | (revert hb; with_reducible change Below (World.heap (World.drew (World.alloc _ _))).size (World.drew (World.alloc _ _)) _ → _; intro hb; have hnw := after_newd hb; (try simp only [World.size_alloc, World.size_drew] at hnw)) | (revert hnw; with_reducible change (World.cell? _ _ = some _ ∧ World.cell? _ _ = some _ ∧ World.frozen? _ _ = false ∧ World.frozen? _ _ = false ∧ (_ : Nat) < _) → _; intro hnw; have hnw := after_old hb hnw) | skip))
      all_goals
        go_wp2
        go_ret2
        have hv := HV.out
        subst hv
        exact ⟨_, rfl, own_up (own_3 _ _ _ _) (Below.size (below_after (w := wr) (by (repeat' (first | (with_reducible exact Below.refl _ _) | (with_reducible refine Below.alloc ?_ ?_ _) | (with_reducible refine Below.setCell ?_ ?_ _) | (with_reducible refine Below.drew ?_) | (with_reducible refine below_drewN ?_ _) | (with_reducible assumption) | (with_reducible refine below_after (by with_reducible assumption) ?_) | go_size))) (below_after HBL.out HBA.out))), below_after (w := wr) (by (repeat' (first | (with_reducible exact Below.refl _ _) | (with_reducible refine Below.alloc ?_ ?_ _) | (with_reducible refine Below.setCell ?_ ?_ _) | (with_reducible refine Below.drew ?_) | (with_reducible refine below_drewN ?_ _) | (with_reducible assumption) | (with_reducible refine below_after (by with_reducible assumption) ?_) | go_size))) (below_after HBL.out HBA.out)⟩
set_option maxHeartbeats 8000000 in
theorem spec_SplitPoint_any (a b c d x y : Int) (w : World) : Calls Try.prog 41 #[.agg #[.int .i64 a, .int .i64 b], .agg #[.int .i64 c, .int .i64 d], .agg #[.int .i64 x, .int .i64 y]] w (RetIC w (spL (a, b) (c, d) (x, y)) (spC (a, b) (c, d) (x, y))) := by
  have heq := eq_pt
  cases han : isAn (a, b) (c, d)
  · have hb : (isAn (a, b) (c, d) && isPt (x, y)) = false := by rw [han]; rfl
    have e1 : spC (a, b) (c, d) (x, y) = 1 := by unfold spC; rw [hb]; rfl
    have e2 : spL (a, b) (c, d) (x, y) = [] := by unfold spL; rw [e1]; rfl
    rw [e1, e2]
    have HAN := Lib.hid han
    clear han hb e1 e2
    have hs20 : w.heap.size < w.heap.size + 1 + 1 := (by omega); have hs30 : w.heap.size < w.heap.size + 1 + 1 + 1 := (by omega); have hs31 : w.heap.size + 1 < w.heap.size + 1 + 1 + 1 := (by omega); have hs40 : w.heap.size < w.heap.size + 1 + 1 + 1 + 1 := (by omega); have hs41 : w.heap.size + 1 < w.heap.size + 1 + 1 + 1 + 1 := (by omega); have hs42 : w.heap.size + 1 + 1 < w.heap.size + 1 + 1 + 1 + 1 := (by omega)
    go_enter Try.func41, Try.ntmps41
    go_wp2_with (first | (go_at_call 43; refine (l03Is_any _ _ _ _ _).mono ?_; rintro e wn ⟨rfl, hb⟩; first | (have h2 := after_call2 hb hcl hfr hlt (by ((repeat' (first | (with_reducible exact Below.refl _ _) | (with_reducible refine Below.alloc ?_ ?_ _) | (with_reducible refine Below.setCell ?_ ?_ _) | (with_reducible refine Below.drew ?_) | (with_reducible refine below_drewN ?_ _) | (with_reducible assumption) | (with_reducible refine below_after (by with_reducible assumption) ?_) | go_size)); done)); obtain ⟨hclx, hfrx, hltx, hsz⟩ := after_call hb; (try simp only [World.size_alloc, World.size_setCell, World.size_drew] at hclx hfrx hltx hsz); (try (have hszl := Nat.lt_of_succ_le hsz)); obtain ⟨hcl, hfr, hlt⟩ := h2) | (obtain ⟨hcl, hfr, hlt, hsz⟩ := after_call hb; (try simp only [World.size_alloc, World.size_setCell, World.size_drew] at hcl hfr hlt hsz))); (try rw [HAN.out]) | (go_at_call 55; refine (l01Is_any _ _ _).mono ?_; rintro e wn ⟨rfl, hb⟩; first | (have h2 := after_call2 hb hcl hfr hlt (by ((repeat' (first | (with_reducible exact Below.refl _ _) | (with_reducible refine Below.alloc ?_ ?_ _) | (with_reducible refine Below.setCell ?_ ?_ _) | (with_reducible refine Below.drew ?_) | (with_reducible refine below_drewN ?_ _) | (with_reducible assumption) | (with_reducible refine below_after (by with_reducible assumption) ?_) | go_size)); done)); obtain ⟨hclx, hfrx, hltx, hsz⟩ := after_call hb; (try simp only [World.size_alloc, World.size_setCell, World.size_drew] at hclx hfrx hltx hsz); (try (have hszl := Nat.lt_of_succ_le hsz)); obtain ⟨hcl, hfr, hlt⟩ := h2) | (obtain ⟨hcl, hfr, hlt, hsz⟩ := after_call hb; (try simp only [World.size_alloc, World.size_setCell, World.size_drew] at hcl hfr hlt hsz))) | (go_at_call 56; refine (HIN.out _).mono ?_; rintro e wn ⟨rfl, hb⟩; first | (have h2 := after_call2 hb hcl hfr hlt (by ((repeat' (first | (with_reducible exact Below.refl _ _) | (with_reducible refine Below.alloc ?_ ?_ _) | (with_reducible refine Below.setCell ?_ ?_ _) | (with_reducible refine Below.drew ?_) | (with_reducible refine below_drewN ?_ _) | (with_reducible assumption) | (with_reducible refine below_after (by with_reducible assumption) ?_) | go_size)); done)); obtain ⟨hclx, hfrx, hltx, hsz⟩ := after_call hb; (try simp only [World.size_alloc, World.size_setCell, World.size_drew] at hclx hfrx hltx hsz); (try (have hszl := Nat.lt_of_succ_le hsz)); obtain ⟨hcl, hfr, hlt⟩ := h2) | (obtain ⟨hcl, hfr, hlt, hsz⟩ := after_call hb; (try simp only [World.size_alloc, World.size_setCell, World.size_drew] at hcl hfr hlt hsz))))
    go_ret2
    exact ⟨_, rfl, World.ownsRow_nil _ _ _ _, by (repeat' (first | (with_reducible exact Below.refl _ _) | (with_reducible refine Below.alloc ?_ ?_ _) | (with_reducible refine Below.setCell ?_ ?_ _) | (with_reducible refine Below.drew ?_) | (with_reducible refine below_drewN ?_ _) | (with_reducible assumption) | (with_reducible refine below_after (by with_reducible assumption) ?_) | go_size))⟩
  · cases hp : isPt (x, y)
    · have hb : (isAn (a, b) (c, d) && isPt (x, y)) = false := by rw [han, hp]; rfl
      have e1 : spC (a, b) (c, d) (x, y) = 1 := by unfold spC; rw [hb]; rfl
      have e2 : spL (a, b) (c, d) (x, y) = [] := by unfold spL; rw [e1]; rfl
      rw [e1, e2]
      have HAN := Lib.hid han
      clear han hb e1 e2
      have hs20 : w.heap.size < w.heap.size + 1 + 1 := (by omega); have hs30 : w.heap.size < w.heap.size + 1 + 1 + 1 := (by omega); have hs31 : w.heap.size + 1 < w.heap.size + 1 + 1 + 1 := (by omega); have hs40 : w.heap.size < w.heap.size + 1 + 1 + 1 + 1 := (by omega); have hs41 : w.heap.size + 1 < w.heap.size + 1 + 1 + 1 + 1 := (by omega); have hs42 : w.heap.size + 1 + 1 < w.heap.size + 1 + 1 + 1 + 1 := (by omega)
      go_enter Try.func41, Try.ntmps41
      go_wp2_with (first | (go_at_call 43; refine (l03Is_any _ _ _ _ _).mono ?_; rintro e wn ⟨rfl, hb⟩; first | (have h2 := after_call2 hb hcl hfr hlt (by ((repeat' (first | (with_reducible exact Below.refl _ _) | (with_reducible refine Below.alloc ?_ ?_ _) | (with_reducible refine Below.setCell ?_ ?_ _) | (with_reducible refine Below.drew ?_) | (with_reducible refine below_drewN ?_ _) | (with_reducible assumption) | (with_reducible refine below_after (by with_reducible assumption) ?_) | go_size)); done)); obtain ⟨hclx, hfrx, hltx, hsz⟩ := after_call hb; (try simp only [World.size_alloc, World.size_setCell, World.size_drew] at hclx hfrx hltx hsz); (try (have hszl := Nat.lt_of_succ_le hsz)); obtain ⟨hcl, hfr, hlt⟩ := h2) | (obtain ⟨hcl, hfr, hlt, hsz⟩ := after_call hb; (try simp only [World.size_alloc, World.size_setCell, World.size_drew] at hcl hfr hlt hsz))); (try rw [HAN.out]) | (go_at_call 55; refine (l01Is_any _ _ _).mono ?_; rintro e wn ⟨rfl, hb⟩; first | (have h2 := after_call2 hb hcl hfr hlt (by ((repeat' (first | (with_reducible exact Below.refl _ _) | (with_reducible refine Below.alloc ?_ ?_ _) | (with_reducible refine Below.setCell ?_ ?_ _) | (with_reducible refine Below.drew ?_) | (with_reducible refine below_drewN ?_ _) | (with_reducible assumption) | (with_reducible refine below_after (by with_reducible assumption) ?_) | go_size)); done)); obtain ⟨hclx, hfrx, hltx, hsz⟩ := after_call hb; (try simp only [World.size_alloc, World.size_setCell, World.size_drew] at hclx hfrx hltx hsz); (try (have hszl := Nat.lt_of_succ_le hsz)); obtain ⟨hcl, hfr, hlt⟩ := h2) | (obtain ⟨hcl, hfr, hlt, hsz⟩ := after_call hb; (try simp only [World.size_alloc, World.size_setCell, World.size_drew] at hcl hfr hlt hsz))) | (go_at_call 56; refine (HIN.out _).mono ?_; rintro e wn ⟨rfl, hb⟩; first | (have h2 := after_call2 hb hcl hfr hlt (by ((repeat' (first | (with_reducible exact Below.refl _ _) | (with_reducible refine Below.alloc ?_ ?_ _) | (with_reducible refine Below.setCell ?_ ?_ _) | (with_reducible refine Below.drew ?_) | (with_reducible refine below_drewN ?_ _) | (with_reducible assumption) | (with_reducible refine below_after (by with_reducible assumption) ?_) | go_size)); done)); obtain ⟨hclx, hfrx, hltx, hsz⟩ := after_call hb; (try simp only [World.size_alloc, World.size_setCell, World.size_drew] at hclx hfrx hltx hsz); (try (have hszl := Nat.lt_of_succ_le hsz)); obtain ⟨hcl, hfr, hlt⟩ := h2) | (obtain ⟨hcl, hfr, hlt, hsz⟩ := after_call hb; (try simp only [World.size_alloc, World.size_setCell, World.size_drew] at hcl hfr hlt hsz))))
      go_ret2
      exact ⟨_, rfl, World.ownsRow_nil _ _ _ _, by (repeat' (first | (with_reducible exact Below.refl _ _) | (with_reducible refine Below.alloc ?_ ?_ _) | (with_reducible refine Below.setCell ?_ ?_ _) | (with_reducible refine Below.drew ?_) | (with_reducible refine below_drewN ?_ _) | (with_reducible assumption) | (with_reducible refine below_after (by with_reducible assumption) ?_) | go_size))⟩
    · have hb : (isAn (a, b) (c, d) && isPt (x, y)) = true := by rw [han, hp]; rfl
      cases hin : inA (a, b) (c, d) (x, y)
      · have e1 : spC (a, b) (c, d) (x, y) = 4 := by unfold spC; rw [if_pos hb, hin]; simp
        have e2 : spL (a, b) (c, d) (x, y) = [] := by unfold spL; rw [e1]; rfl
        rw [e1, e2]
        have HAN := Lib.hid han
        have hIN : ∀ w, Calls Try.prog 56 #[.agg #[.int .i64 a, .int .i64 b], .agg #[.int .i64 c, .int .i64 d], .agg #[.int .i64 x, .int .i64 y]] w fun e w' => e = .returned (.bool false) ∧ Below w.heap.size w w' := by
          intro w
          obtain ⟨q0, q1⟩ := isAn_pts han
          have := l03Inside_any a b c d x y w q0 q1 hp
          rw [hin] at this
          exact this
        have HIN := Lib.hid hIN
        clear hIN
        clear han hb e1 e2 hin
        have hs20 : w.heap.size < w.heap.size + 1 + 1 := (by omega); have hs30 : w.heap.size < w.heap.size + 1 + 1 + 1 := (by omega); have hs31 : w.heap.size + 1 < w.heap.size + 1 + 1 + 1 := (by omega); have hs40 : w.heap.size < w.heap.size + 1 + 1 + 1 + 1 := (by omega); have hs41 : w.heap.size + 1 < w.heap.size + 1 + 1 + 1 + 1 := (by omega); have hs42 : w.heap.size + 1 + 1 < w.heap.size + 1 + 1 + 1 + 1 := (by omega)
        go_enter Try.func41, Try.ntmps41
        go_wp2_with (first | (go_at_call 43; refine (l03Is_any _ _ _ _ _).mono ?_; rintro e wn ⟨rfl, hb⟩; first | (have h2 := after_call2 hb hcl hfr hlt (by ((repeat' (first | (with_reducible exact Below.refl _ _) | (with_reducible refine Below.alloc ?_ ?_ _) | (with_reducible refine Below.setCell ?_ ?_ _) | (with_reducible refine Below.drew ?_) | (with_reducible refine below_drewN ?_ _) | (with_reducible assumption) | (with_reducible refine below_after (by with_reducible assumption) ?_) | go_size)); done)); obtain ⟨hclx, hfrx, hltx, hsz⟩ := after_call hb; (try simp only [World.size_alloc, World.size_setCell, World.size_drew] at hclx hfrx hltx hsz); (try (have hszl := Nat.lt_of_succ_le hsz)); obtain ⟨hcl, hfr, hlt⟩ := h2) | (obtain ⟨hcl, hfr, hlt, hsz⟩ := after_call hb; (try simp only [World.size_alloc, World.size_setCell, World.size_drew] at hcl hfr hlt hsz))); (try rw [HAN.out]) | (go_at_call 55; refine (l01Is_any _ _ _).mono ?_; rintro e wn ⟨rfl, hb⟩; first | (have h2 := after_call2 hb hcl hfr hlt (by ((repeat' (first | (with_reducible exact Below.refl _ _) | (with_reducible refine Below.alloc ?_ ?_ _) | (with_reducible refine Below.setCell ?_ ?_ _) | (with_reducible refine Below.drew ?_) | (with_reducible refine below_drewN ?_ _) | (with_reducible assumption) | (with_reducible refine below_after (by with_reducible assumption) ?_) | go_size)); done)); obtain ⟨hclx, hfrx, hltx, hsz⟩ := after_call hb; (try simp only [World.size_alloc, World.size_setCell, World.size_drew] at hclx hfrx hltx hsz); (try (have hszl := Nat.lt_of_succ_le hsz)); obtain ⟨hcl, hfr, hlt⟩ := h2) | (obtain ⟨hcl, hfr, hlt, hsz⟩ := after_call hb; (try simp only [World.size_alloc, World.size_setCell, World.size_drew] at hcl hfr hlt hsz))) | (go_at_call 56; refine (HIN.out _).mono ?_; rintro e wn ⟨rfl, hb⟩; first | (have h2 := after_call2 hb hcl hfr hlt (by ((repeat' (first | (with_reducible exact Below.refl _ _) | (with_reducible refine Below.alloc ?_ ?_ _) | (with_reducible refine Below.setCell ?_ ?_ _) | (with_reducible refine Below.drew ?_) | (with_reducible refine below_drewN ?_ _) | (with_reducible assumption) | (with_reducible refine below_after (by with_reducible assumption) ?_) | go_size)); done)); obtain ⟨hclx, hfrx, hltx, hsz⟩ := after_call hb; (try simp only [World.size_alloc, World.size_setCell, World.size_drew] at hclx hfrx hltx hsz); (try (have hszl := Nat.lt_of_succ_le hsz)); obtain ⟨hcl, hfr, hlt⟩ := h2) | (obtain ⟨hcl, hfr, hlt, hsz⟩ := after_call hb; (try simp only [World.size_alloc, World.size_setCell, World.size_drew] at hcl hfr hlt hsz))))
        go_ret2
        exact ⟨_, rfl, World.ownsRow_nil _ _ _ _, by (repeat' (first | (with_reducible exact Below.refl _ _) | (with_reducible refine Below.alloc ?_ ?_ _) | (with_reducible refine Below.setCell ?_ ?_ _) | (with_reducible refine Below.drew ?_) | (with_reducible refine below_drewN ?_ _) | (with_reducible assumption) | (with_reducible refine below_after (by with_reducible assumption) ?_) | go_size))⟩
      · by_cases hz : ((x, y) : Int × Int) = (0, 0)
        · have e1 : spC (a, b) (c, d) (x, y) = 4 := by unfold spC; rw [if_pos hb, if_neg (fun h => h.2 hz)]
          have e2 : spL (a, b) (c, d) (x, y) = [] := by unfold spL; rw [e1]; rfl
          rw [e1, e2]
          clear e1 e2
          obtain rfl : x = 0 := congrArg Prod.fst hz
          obtain rfl : y = 0 := congrArg Prod.snd hz
          have HAN := Lib.hid han
          have hIN : ∀ w, Calls Try.prog 56 #[.agg #[.int .i64 a, .int .i64 b], .agg #[.int .i64 c, .int .i64 d], .agg #[.int .i64 0, .int .i64 0]] w fun e w' => e = .returned (.bool true) ∧ Below w.heap.size w w' := by
            intro w
            obtain ⟨q0, q1⟩ := isAn_pts han
            have := l03Inside_any a b c d 0 0 w q0 q1 hp
            rw [hin] at this
            exact this
          have HIN := Lib.hid hIN
          clear hIN
          clear han hb hin hz
          have hs20 : w.heap.size < w.heap.size + 1 + 1 := (by omega); have hs30 : w.heap.size < w.heap.size + 1 + 1 + 1 := (by omega); have hs31 : w.heap.size + 1 < w.heap.size + 1 + 1 + 1 := (by omega); have hs40 : w.heap.size < w.heap.size + 1 + 1 + 1 + 1 := (by omega); have hs41 : w.heap.size + 1 < w.heap.size + 1 + 1 + 1 + 1 := (by omega); have hs42 : w.heap.size + 1 + 1 < w.heap.size + 1 + 1 + 1 + 1 := (by omega)
          go_enter Try.func41, Try.ntmps41
          go_wp2_with (first | (go_at_call 43; refine (l03Is_any _ _ _ _ _).mono ?_; rintro e wn ⟨rfl, hb⟩; first | (have h2 := after_call2 hb hcl hfr hlt (by ((repeat' (first | (with_reducible exact Below.refl _ _) | (with_reducible refine Below.alloc ?_ ?_ _) | (with_reducible refine Below.setCell ?_ ?_ _) | (with_reducible refine Below.drew ?_) | (with_reducible refine below_drewN ?_ _) | (with_reducible assumption) | (with_reducible refine below_after (by with_reducible assumption) ?_) | go_size)); done)); obtain ⟨hclx, hfrx, hltx, hsz⟩ := after_call hb; (try simp only [World.size_alloc, World.size_setCell, World.size_drew] at hclx hfrx hltx hsz); (try (have hszl := Nat.lt_of_succ_le hsz)); obtain ⟨hcl, hfr, hlt⟩ := h2) | (obtain ⟨hcl, hfr, hlt, hsz⟩ := after_call hb; (try simp only [World.size_alloc, World.size_setCell, World.size_drew] at hcl hfr hlt hsz))); (try rw [HAN.out]) | (go_at_call 55; refine (l01Is_any _ _ _).mono ?_; rintro e wn ⟨rfl, hb⟩; first | (have h2 := after_call2 hb hcl hfr hlt (by ((repeat' (first | (with_reducible exact Below.refl _ _) | (with_reducible refine Below.alloc ?_ ?_ _) | (with_reducible refine Below.setCell ?_ ?_ _) | (with_reducible refine Below.drew ?_) | (with_reducible refine below_drewN ?_ _) | (with_reducible assumption) | (with_reducible refine below_after (by with_reducible assumption) ?_) | go_size)); done)); obtain ⟨hclx, hfrx, hltx, hsz⟩ := after_call hb; (try simp only [World.size_alloc, World.size_setCell, World.size_drew] at hclx hfrx hltx hsz); (try (have hszl := Nat.lt_of_succ_le hsz)); obtain ⟨hcl, hfr, hlt⟩ := h2) | (obtain ⟨hcl, hfr, hlt, hsz⟩ := after_call hb; (try simp only [World.size_alloc, World.size_setCell, World.size_drew] at hcl hfr hlt hsz))) | (go_at_call 56; refine (HIN.out _).mono ?_; rintro e wn ⟨rfl, hb⟩; first | (have h2 := after_call2 hb hcl hfr hlt (by ((repeat' (first | (with_reducible exact Below.refl _ _) | (with_reducible refine Below.alloc ?_ ?_ _) | (with_reducible refine Below.setCell ?_ ?_ _) | (with_reducible refine Below.drew ?_) | (with_reducible refine below_drewN ?_ _) | (with_reducible assumption) | (with_reducible refine below_after (by with_reducible assumption) ?_) | go_size)); done)); obtain ⟨hclx, hfrx, hltx, hsz⟩ := after_call hb; (try simp only [World.size_alloc, World.size_setCell, World.size_drew] at hclx hfrx hltx hsz); (try (have hszl := Nat.lt_of_succ_le hsz)); obtain ⟨hcl, hfr, hlt⟩ := h2) | (obtain ⟨hcl, hfr, hlt, hsz⟩ := after_call hb; (try simp only [World.size_alloc, World.size_setCell, World.size_drew] at hcl hfr hlt hsz))))
          go_ret2
          exact ⟨_, rfl, World.ownsRow_nil _ _ _ _, by (repeat' (first | (with_reducible exact Below.refl _ _) | (with_reducible refine Below.alloc ?_ ?_ _) | (with_reducible refine Below.setCell ?_ ?_ _) | (with_reducible refine Below.drew ?_) | (with_reducible refine below_drewN ?_ _) | (with_reducible assumption) | (with_reducible refine below_after (by with_reducible assumption) ?_) | go_size))⟩
        · have e1 : spC (a, b) (c, d) (x, y) = slC (a, b) (c, d) := by unfold spC; rw [if_pos hb, if_pos ⟨hin, hz⟩]
          rcases sl_cases (a, b) (c, d) with ⟨hc, _, _, _, h2, h3⟩ | ⟨hc, hn, _⟩
          · have e2 : spL (a, b) (c, d) (x, y) = splV (slL (a, b) (c, d)) (x, y) := by unfold spL; rw [e1, hc]; rfl
            rw [e1, e2, hc]
            have hSP : ∀ w, Calls Try.prog 46 #[.agg #[.int .i64 a, .int .i64 b], .agg #[.int .i64 c, .int .i64 d]] w (RetPNC w (slL (a, b) (c, d)) (cnL (a, b) (c, d)) 0) := by
              intro w; have := l03Code_any a b c d w; rw [hc] at this; exact this
            exact spec_SplitPoint_some a b c d x y _ _ _ w han hp hin hz rfl h2 h3 (slL_nbr _ _) hSP
          · have e2 : spL (a, b) (c, d) (x, y) = [] := by unfold spL; rw [e1, if_neg hc]
            rw [e1, e2]
            have hSP : ∀ w, Calls Try.prog 46 #[.agg #[.int .i64 a, .int .i64 b], .agg #[.int .i64 c, .int .i64 d]] w (RetPNC w (slL (a, b) (c, d)) (cnL (a, b) (c, d)) (slC (a, b) (c, d))) := fun w => l03Code_any a b c d w
            generalize slC (a, b) (c, d) = C at *
            have HSP := Lib.hid hSP
            have hc2 : (C == 0) = false := by simpa using hc
            have hc3 : ¬ C = 0 := hc
            have hc4 : (C != 0) = true := by simpa using hc
            have hne1 := ne_pt hz
            have hne2 : ¬ (x = 0 ∧ y = 0) := fun h => hz (by rw [h.1, h.2])
            have hne3 : x = 0 → ¬ y = 0 := fun h h' => hz (by rw [h, h'])
            have HAN := Lib.hid han
            have hIN : ∀ w, Calls Try.prog 56 #[.agg #[.int .i64 a, .int .i64 b], .agg #[.int .i64 c, .int .i64 d], .agg #[.int .i64 x, .int .i64 y]] w fun e w' => e = .returned (.bool true) ∧ Below w.heap.size w w' := by
              intro w
              obtain ⟨q0, q1⟩ := isAn_pts han
              have := l03Inside_any a b c d x y w q0 q1 hp
              rw [hin] at this
              exact this
            have HIN := Lib.hid hIN
            clear hIN
            clear han hb hin hz e1 e2 hSP hn
            have hs20 : w.heap.size < w.heap.size + 1 + 1 := (by omega); have hs30 : w.heap.size < w.heap.size + 1 + 1 + 1 := (by omega); have hs31 : w.heap.size + 1 < w.heap.size + 1 + 1 + 1 := (by omega); have hs40 : w.heap.size < w.heap.size + 1 + 1 + 1 + 1 := (by omega); have hs41 : w.heap.size + 1 < w.heap.size + 1 + 1 + 1 + 1 := (by omega); have hs42 : w.heap.size + 1 + 1 < w.heap.size + 1 + 1 + 1 + 1 := (by omega)
            go_enter Try.func41, Try.ntmps41
            go_wp2_with (first | (go_at_call 43; refine (l03Is_any _ _ _ _ _).mono ?_; rintro e wn ⟨rfl, hb⟩; first | (have h2 := after_call2 hb hcl hfr hlt (by ((repeat' (first | (with_reducible exact Below.refl _ _) | (with_reducible refine Below.alloc ?_ ?_ _) | (with_reducible refine Below.setCell ?_ ?_ _) | (with_reducible refine Below.drew ?_) | (with_reducible refine below_drewN ?_ _) | (with_reducible assumption) | (with_reducible refine below_after (by with_reducible assumption) ?_) | go_size)); done)); obtain ⟨hclx, hfrx, hltx, hsz⟩ := after_call hb; (try simp only [World.size_alloc, World.size_setCell, World.size_drew] at hclx hfrx hltx hsz); (try (have hszl := Nat.lt_of_succ_le hsz)); obtain ⟨hcl, hfr, hlt⟩ := h2) | (obtain ⟨hcl, hfr, hlt, hsz⟩ := after_call hb; (try simp only [World.size_alloc, World.size_setCell, World.size_drew] at hcl hfr hlt hsz))); (try rw [HAN.out]) | (go_at_call 55; refine (l01Is_any _ _ _).mono ?_; rintro e wn ⟨rfl, hb⟩; first | (have h2 := after_call2 hb hcl hfr hlt (by ((repeat' (first | (with_reducible exact Below.refl _ _) | (with_reducible refine Below.alloc ?_ ?_ _) | (with_reducible refine Below.setCell ?_ ?_ _) | (with_reducible refine Below.drew ?_) | (with_reducible refine below_drewN ?_ _) | (with_reducible assumption) | (with_reducible refine below_after (by with_reducible assumption) ?_) | go_size)); done)); obtain ⟨hclx, hfrx, hltx, hsz⟩ := after_call hb; (try simp only [World.size_alloc, World.size_setCell, World.size_drew] at hclx hfrx hltx hsz); (try (have hszl := Nat.lt_of_succ_le hsz)); obtain ⟨hcl, hfr, hlt⟩ := h2) | (obtain ⟨hcl, hfr, hlt, hsz⟩ := after_call hb; (try simp only [World.size_alloc, World.size_setCell, World.size_drew] at hcl hfr hlt hsz))) | (go_at_call 56; refine (HIN.out _).mono ?_; rintro e wn ⟨rfl, hb⟩; first | (have h2 := after_call2 hb hcl hfr hlt (by ((repeat' (first | (with_reducible exact Below.refl _ _) | (with_reducible refine Below.alloc ?_ ?_ _) | (with_reducible refine Below.setCell ?_ ?_ _) | (with_reducible refine Below.drew ?_) | (with_reducible refine below_drewN ?_ _) | (with_reducible assumption) | (with_reducible refine below_after (by with_reducible assumption) ?_) | go_size)); done)); obtain ⟨hclx, hfrx, hltx, hsz⟩ := after_call hb; (try simp only [World.size_alloc, World.size_setCell, World.size_drew] at hclx hfrx hltx hsz); (try (have hszl := Nat.lt_of_succ_le hsz)); obtain ⟨hcl, hfr, hlt⟩ := h2) | (obtain ⟨hcl, hfr, hlt, hsz⟩ := after_call hb; (try simp only [World.size_alloc, World.size_setCell, World.size_drew] at hcl hfr hlt hsz))) | (go_at_call 46; refine (HSP.out _).mono ?_; rintro e wn hr; obtain ⟨va, vn, vc, na, nm, nc, rfl, hb⟩ := retpnc_none hr; clear hr; first | (have h2 := after_call2 hb hcl hfr hlt (by ((repeat' (first | (with_reducible exact Below.refl _ _) | (with_reducible refine Below.alloc ?_ ?_ _) | (with_reducible refine Below.setCell ?_ ?_ _) | (with_reducible refine Below.drew ?_) | (with_reducible refine below_drewN ?_ _) | (with_reducible assumption) | (with_reducible refine below_after (by with_reducible assumption) ?_) | go_size)); done)); obtain ⟨hclx, hfrx, hltx, hsz⟩ := after_call hb; (try simp only [World.size_alloc, World.size_setCell, World.size_drew] at hclx hfrx hltx hsz); (try (have hszl := Nat.lt_of_succ_le hsz)); obtain ⟨hcl, hfr, hlt⟩ := h2) | (obtain ⟨hcl, hfr, hlt, hsz⟩ := after_call hb; (try simp only [World.size_alloc, World.size_setCell, World.size_drew] at hcl hfr hlt hsz))))
            go_ret2
            exact ⟨_, rfl, World.ownsRow_nil _ _ _ _, by (repeat' (first | (with_reducible exact Below.refl _ _) | (with_reducible refine Below.alloc ?_ ?_ _) | (with_reducible refine Below.setCell ?_ ?_ _) | (with_reducible refine Below.drew ?_) | (with_reducible refine below_drewN ?_ _) | (with_reducible assumption) | (with_reducible refine below_after (by with_reducible assumption) ?_) | go_size))⟩
end Go.Proofs.Ytjiaokcbhpmodaa
