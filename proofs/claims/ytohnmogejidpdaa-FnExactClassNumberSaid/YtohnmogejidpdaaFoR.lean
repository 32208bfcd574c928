/-
  Reduced forms of a discriminant, in the program and in the model (own work).
-/
import Derived.Test.YtohnmogejidpdaaFoX
namespace Go.Proofs.Ytohnmogejidpdaa
open Go.ChangeShapes Go.WideShapes Go.ChangeAt Go.RowKit
set_option linter.unusedVariables false
set_option linter.unusedSimpArgs false
set_option maxRecDepth 100000

/-- The reduced form with A = a and B = b, if there is one; those with B up to j; those with A from -w on. -/
def rfP (d w a b : Int) : List Tr := if a ≠ 0 ∧ (b * b - d).tmod (4 * a) = 0 ∧ isRd a b w = true then [(a, b, (b * b - d).tdiv (4 * a))] else []
def rfB (d w a : Int) : Nat → List Tr
  | 0 => []
  | j + 1 => rfB d w a j ++ rfP d w a ((j : Int) + 1)
def rfA (d w : Int) : Nat → List Tr
  | 0 => []
  | i + 1 => rfA d w i ++ rfB d w (-w + (i : Int)) w.toNat
theorem rfP_len (d w a b : Int) : (rfP d w a b).length ≤ 1 := by unfold rfP; split <;> simp
theorem rfB_len (d w a : Int) : ∀ j, (rfB d w a j).length ≤ j
  | 0 => Nat.le_refl _
  | j + 1 => by
    have := rfB_len d w a j
    have := rfP_len d w a ((j : Int) + 1)
    unfold rfB
    rw [List.length_append]; omega
theorem rfA_len (d w : Int) : ∀ i, (rfA d w i).length ≤ i * w.toNat
  | 0 => by simp [rfA]
  | i + 1 => by
    have := rfA_len d w i
    have := rfB_len d w (-w + (i : Int)) w.toNat
    unfold rfA
    rw [List.length_append, Nat.succ_mul]; omega
theorem rfB_step {d w a b : Int} (h : 1 ≤ b) : rfB d w a (b + 1 - 1).toNat = rfB d w a (b - 1).toNat ++ rfP d w a b := by
  obtain ⟨j, hj⟩ : ∃ j : Nat, b = (j : Int) + 1 := ⟨(b - 1).toNat, by omega⟩
  subst hj
  rw [show ((j : Int) + 1 + 1 - 1).toNat = j + 1 from by omega, show ((j : Int) + 1 - 1).toNat = j from by omega]
  rfl
theorem rfA_step {d w a : Int} (h : -w ≤ a) : rfA d w (a + 1 + w).toNat = rfA d w (a + w).toNat ++ rfB d w a w.toNat := by
  obtain ⟨i, hi⟩ : ∃ i : Nat, a = -w + (i : Int) := ⟨(a + w).toNat, by omega⟩
  subst hi
  rw [show (-w + (i : Int) + 1 + w).toNat = i + 1 from by omega, show (-w + (i : Int) + w).toNat = i from by omega]
  rfl
theorem rfB_zero (d w : Int) : ∀ j, rfB d w 0 j = []
  | 0 => rfl
  | j + 1 => by
    unfold rfB
    rw [rfB_zero d w j]
    unfold rfP
    rw [if_neg (by intro h; exact h.1 rfl)]
    rfl
def rfL (d : Int) : List Tr := rfA d (rtB d) (2 * rtB d + 1).toNat
/-- What both answer. -/
def rfOk (d : Int) : Bool := isD d && decide (d.tmod 4 ≤ 1)
def rfV (d : Int) : List Tr := if rfOk d = true then rfL d else []
def rfC (d : Int) : Int := if rfOk d = true then 0 else if inB d 1 4000 = true then 5 else 2
theorem nat_le_64 {r : Int} (h1 : r ≤ 63) (i : Nat) (hi : i ≤ 127) : i * r.toNat ≤ 127 * 63 := Nat.mul_le_mul hi (by omega)
theorem rfL_len {d : Int} (h : isD d = true) : (rfL d).length ≤ 8001 := by
  have w := rtB_ok (isD_parts h).1 (isD_parts h).2.1
  have := rfA_len d (rtB d) (2 * rtB d + 1).toNat
  have := nat_le_64 w.2.1 (2 * rtB d + 1).toNat (by omega)
  unfold rfL
  omega
theorem rfV_len (d : Int) : (rfV d).length ≤ 8388608 := by
  unfold rfV
  split
  · next h =>
    have := rfL_len (d := d) (by simp only [rfOk, Bool.and_eq_true] at h; exact h.1)
    omega
  · simp
theorem rf_dsc {a b d : Int} (ha : a ≠ 0) (h : (b * b - d).tmod (4 * a) = 0) : dsc a b ((b * b - d).tdiv (4 * a)) = d := by
  have := Int.tmod_add_mul_tdiv (b * b - d) (4 * a)
  unfold dsc
  omega
theorem rf_c {a b d : Int} (ha : a ≠ 0) (hb1 : 1 ≤ b) (hb2 : b ≤ 63) (d1 : 1 ≤ d) (d2 : d ≤ 4000) : -8000 ≤ (b * b - d).tdiv (4 * a) ∧ (b * b - d).tdiv (4 * a) ≤ 8000 := by
  have h1 : (b * b - d).tdiv (4 * a) = (b * b - d).tdiv (4 * a) := rfl
  have h2 := Int.natAbs_tdiv_le_natAbs (b * b - d) (4 * a)
  have m1 := mul_bd (a := b) (b := b) (A := 63) (B := 63) (by omega) hb2 (by omega) hb2
  omega
theorem rf_m {a b d : Int} (ha : a ≠ 0) (ha1 : -63 ≤ a) (ha2 : a ≤ 63) : -1000 ≤ (b * b - d).tmod (4 * a) ∧ (b * b - d).tmod (4 * a) ≤ 1000 := by
  have := tmod_lt (b * b - d) (4 * a) (by omega)
  omega
set_option maxHeartbeats 4000000 in
theorem impl_rf (d r : Int) (w : World) (h : isD d = true) (h4 : d.tmod 4 ≤ 1) (hr : rtB d = r) :
    Calls Try.prog 46 #[.int .i64 d] w fun e w' => ∃ v, e = .returned (.tuple #[v, .int .i64 0]) ∧ OwnT w.heap.size w' v (rfA d r (2 * r + 1).toNat) ∧ Below w.heap.size w w' := by
  obtain ⟨d1, d2, dn⟩ := isD_parts h
  have hrb := rtB_ok d1 d2
  rw [hr] at hrb dn
  obtain ⟨r0, r1, r2, r3⟩ := hrb
  have HI : Hid (∀ w, Calls Try.prog 72 #[.int .i64 d] w fun e w' => e = .returned (.bool true) ∧ w = w') := fun w => by
    have := isDiscriminant_any d w
    rwa [h] at this
  have HR : Hid (∀ w, Calls Try.prog 86 #[.int .i64 d] w fun e w' => e = .returned (.int .i64 r) ∧ w = w') := fun w => by
    have := rootBelow_any d w d1 d2
    rwa [hr] at this
  have g1 : ¬ d < 1 := by omega
  have g2 : ¬ 4000 < d := by omega
  have HRR := Lib.hid hr
  have ht0 := Int.tmod_nonneg 4 (show 0 ≤ d by omega)
  obtain ⟨z, hz⟩ : ∃ z, d.tmod 4 = z := ⟨_, rfl⟩
  rw [hz] at h4 ht0
  have hzw : IntKind.i64.wrap z = z := by rw [IntKind.wrap_i64]; omega
  have hz1 : ¬ 1 < z := by omega
  clear r2 r3 dn h hr
  go_enter Try.func46, Try.ntmps46
  go_wp2_with (first | (go_at_call 72; refine (HI.out _).mono ?_; rintro e wn ⟨rfl, rfl⟩) | (go_at_call 86; refine (HR.out _).mono ?_; rintro e wn ⟨rfl, rfl⟩))
  clear HI HR hz hzw hz1 h4 ht0
  go_loopw [4, 6] (fun v av wr => ∃ (a : Int) (n : Nat) (va : Option Addr) (vc : Nat) (l : List Tr), v = .slice va n vc ∧ av = .int .i64 a ∧ -r ≤ a ∧ a ≤ r + 1 ∧ l = rfA d r (a + r).toNat ∧ n = l.length ∧ OwnT w.heap.size wr (.slice va n vc) l ∧ Below w.heap.size w wr) (fun _ av _ => (r + 1 - intOf av).toNat)
  case atStart => exact ⟨-r, 0, none, 0, [], rfl, rfl, by omega, by omega, by rw [show (-r + r).toNat = 0 from by omega]; rfl, rfl, World.ownsRow_nil _ _ _ _, Below.refl _ _⟩
  case round =>
    obtain ⟨a, n, va, vc, l, rfl, rfl, ha1, ha2, hl, hn, hown, hbel⟩ := hrel
    have HO := Lib.hid hown
    have HL := Lib.hid hl
    have HN := Lib.hid hn
    have HB := Lib.hid hbel
    clear hown hl hn hbel
    by_cases hle : a ≤ r
    · go_wp2_with fail
      go_loopw [4, 7] (fun v bv wr => ∃ (b : Int) (n : Nat) (va : Option Addr) (vc : Nat) (l2 : List Tr), v = .slice va n vc ∧ bv = .int .i64 b ∧ 1 ≤ b ∧ b ≤ r + 1 ∧ l2 = l ++ rfB d r a (b - 1).toNat ∧ n = l2.length ∧ OwnT w.heap.size wr (.slice va n vc) l2 ∧ Below w.heap.size w wr) (fun _ bv _ => (r + 1 - intOf bv).toNat)
      case atStart => exact ⟨1, n, va, vc, l, rfl, rfl, by omega, by omega, by show l = l ++ []; rw [List.append_nil], HN.out, HO.out, HB.out⟩
      case round =>
        obtain ⟨b, n, va, vc, l2, rfl, rfl, hb1, hb2, hl2, hn2, hown2, hbel2⟩ := hrel
        have HO2 := Lib.hid hown2
        have HB2 := Lib.hid hbel2
        have HL2 := Lib.hid hl2
        have HN2 := Lib.hid hn2
        clear hown2 hbel2 hl2 hn2
        by_cases hb : b ≤ r
        · have hB63 : b ≤ 63 := by omega
          have m := mul_bd (a := b) (b := b) (A := 63) (B := 63) (by omega) hB63 (by omega) hB63
          obtain ⟨m1, m2⟩ := m
          by_cases ha0 : a = 0
          · have ha0' : (a == 0) = true := by simpa using ha0
            have HP : Hid (rfP d r a b = []) := by show _ = _; unfold rfP; rw [if_neg (by intro h; exact h.1 ha0)]
            go_wp2
            go_roundw
            case rel => exact ⟨b + 1, n, va, vc, l2, rfl, by go_num, by omega, by omega, by rw [rfB_step hb1, HP.out, List.append_nil]; exact HL2.out, HN2.out, HO2.out, HB2.out⟩
            case measure => simp [intOf]; omega
          · have ha0' : (a == 0) = false := by simpa using ha0
            have ha0'' : (a != 0) = true := by simpa using ha0
            have h4a : ¬ (4 * a = 0) := by omega
            have hM := rf_m (b := b) (d := d) ha0 (by omega) (by omega)
            have hC := rf_c (a := a) ha0 hb1 hB63 d1 d2
            have HQ := Lib.hid (rf_dsc (a := a) (b := b) (d := d) ha0)
            obtain ⟨c, hc⟩ : ∃ c, (b * b - d).tdiv (4 * a) = c := ⟨_, rfl⟩
            obtain ⟨q, hq⟩ : ∃ q, (b * b - d).tmod (4 * a) = q := ⟨_, rfl⟩
            rw [hc] at hC HQ
            rw [hq] at hM HQ
            obtain ⟨C1, C2⟩ := hC
            obtain ⟨M1, M2⟩ := hM
            have hqw : IntKind.i64.wrap q = q := by rw [IntKind.wrap_i64]; omega
            have hcw : IntKind.i64.wrap c = c := by rw [IntKind.wrap_i64]; omega
            have HCq := Lib.hid (And.intro hc hq)
            by_cases hq0 : q = 0
            · have hq0' : (q == 0) = true := by simpa using hq0
              have hq0'' : (q != 0) = false := by simpa using hq0
              have HD : Hid (dsc a b c = d) := HQ.out hq0
              have HRd : Hid (∀ w, Calls Try.prog 77 #[.agg #[.int .i64 a, .int .i64 b, .int .i64 c]] w fun e w' => e = .returned (.bool (isRd a b r)) ∧ Below w.heap.size w w') := fun w => by
                have := isReduced_any a b c w ⟨by omega, by omega⟩ ⟨by omega, by omega⟩ ⟨by omega, by omega⟩ (by rw [HD.out]; exact d1) (by rw [HD.out]; exact d2)
                rwa [HD.out, HRR.out] at this
              go_upto_region 15 with fail
              obtain ⟨wx, hwx⟩ : ∃ wx, wx = wr.alloc (.cells #[.int .i64 a, .int .i64 b, .int .i64 c] 43) := ⟨_, rfl⟩
              obtain ⟨gx, hgx⟩ : ∃ g, wr.heap.size = g := ⟨_, rfl⟩
              rw [← hwx, hgx]
              have HX : Hid (Bk3 wx gx a b c) := by rw [hwx, ← hgx]; exact bk3_new wr _ _ _ _
              have HO3 := Lib.hid (HO2.out.below ((Below.refl _ _).alloc (Nat.le_refl _) (.cells #[.int .i64 a, .int .i64 b, .int .i64 c] 43)))
              have HB3 := Lib.hid (Below.alloc HB2.out HB2.out.size (.cells #[.int .i64 a, .int .i64 b, .int .i64 c] 43))
              rw [← hwx] at HO3 HB3
              clear hwx hgx
              obtain ⟨⟨x0, x1, x2⟩, ⟨f0, f1, f2⟩, gz⟩ := HX.out
              cases hrd : isRd a b r
              · rw [hrd] at HRd
                have HP : Hid (rfP d r a b = []) := by show _ = _; unfold rfP; rw [if_neg (by rw [hrd]; intro h; exact absurd h.2.2 (by decide))]
                go_wp2_with fail
                go_at_call 77
                refine (HRd.out _).mono ?_
                rintro e wy ⟨rfl, hby⟩
                have HO4 := Lib.hid (HO3.out.below hby)
                have HB4 := Lib.hid (below_after hby HB3.out)
                clear hby x0 x1 x2 f0 f1 f2 gz hrd
                go_wp2
                go_roundw
                case rel => exact ⟨b + 1, n, va, vc, l2, rfl, by go_num, by omega, by omega, by rw [rfB_step hb1, HP.out, List.append_nil]; exact HL2.out, HN2.out, HO4.out, HB4.out⟩
                case measure => simp [intOf]; omega
              · rw [hrd] at HRd
                have HP : Hid (rfP d r a b = [(a, b, c)]) := by show _ = _; unfold rfP; rw [if_pos ⟨ha0, HCq.out.2.trans hq0, hrd⟩, HCq.out.1]
                go_wp2_with fail
                go_at_call 77
                refine (HRd.out _).mono ?_
                rintro e wy ⟨rfl, hby⟩
                have HO4 := Lib.hid (HO3.out.below hby)
                have HB4 := Lib.hid (below_after hby HB3.out)
                have HX4 := Lib.hid (HX.out.below hby)
                clear hby x0 x1 x2 f0 f1 f2 gz hrd
                obtain ⟨⟨x0, x1, x2⟩, ⟨f0, f1, f2⟩, gz⟩ := HX4.out
                have HO5 := Lib.hid (HO4.out.below ((Below.refl _ _).alloc (Nat.le_refl _) (.cells #[.int .i64 a, .int .i64 b, .int .i64 c] 43)))
                have HB5 := Lib.hid (Below.alloc HB4.out HB4.out.size (.cells #[.int .i64 a, .int .i64 b, .int .i64 c] 43))
                have HNB : Hid (l2.length ≤ 9000) := by
                  have h1 := rfA_len d r (a + r).toNat
                  have h2 := rfB_len d r a (b - 1).toNat
                  have h3 := nat_le_64 (r := r) (by omega) (a + r).toNat (by omega)
                  show _ ≤ _
                  rw [HL2.out, List.length_append, HL.out]
                  omega
                go_wp2_with (at_builtin; refine wpList_app_T1 (B := w.heap.size) rfl _ _ rfl HO5.out (a0 := a) (a1 := b) (a2 := c) ?c0 ?c1 ?c2 HB5.out.size rfl rfl (by have := HNB.out; omega) ?_)
                case c0 => go_cell
                case c1 => go_cell
                case c2 => go_cell
                intro v' w' ho hgrow
                have hln : (l2 ++ [(a, b, c)]).length = n + 1 := by rw [List.length_append, HN2.out]; rfl
                have HB6 := Lib.hid (Below.grown HB5.out hgrow HB5.out.size (fun k hk => (World.ownsRow.lt HO5.out k hk).1))
                obtain ⟨va', vc', rfl⟩ := viewT ho
                rw [hln] at ho ⊢
                have HO6 := Lib.hid (And.intro ho hln)
                clear ho hgrow hln x0 x1 x2 f0 f1 f2 gz
                go_wp2
                go_roundw
                case rel => exact ⟨b + 1, n + 1, va', vc', l2 ++ [(a, b, c)], rfl, by go_num, by omega, by omega, by rw [rfB_step hb1, HP.out, HL2.out, List.append_assoc], HO6.out.2.symm, HO6.out.1, HB6.out⟩
                case measure => simp [intOf]; omega
            · have hq0' : (q == 0) = false := by simpa using hq0
              have hq0'' : (q != 0) = true := by simpa using hq0
              have HP : Hid (rfP d r a b = []) := by show _ = _; unfold rfP; rw [if_neg (by intro h; exact hq0 (HCq.out.2.symm.trans h.2.1))]
              go_wp2
              go_roundw
              case rel => exact ⟨b + 1, n, va, vc, l2, rfl, by go_num, by omega, by omega, by rw [rfB_step hb1, HP.out, List.append_nil]; exact HL2.out, HN2.out, HO2.out, HB2.out⟩
              case measure => simp [intOf]; omega
        · have hbr : b = r + 1 := by omega
          have HL3 : Hid (l2 = rfA d r (a + 1 + r).toNat) := by
            show _ = _
            rw [HL2.out, rfA_step ha1, hbr, HL.out, show (r + 1 - 1).toNat = r.toNat from by omega]
          clear hb
          go_wp2
          go_roundw
          case rel => exact ⟨a + 1, n, va, vc, l2, rfl, by go_num, by omega, by omega, HL3.out, HN2.out, HO2.out, HB2.out⟩
          case measure => simp [intOf]; omega
    · have hae : a = r + 1 := by omega
      have HF : Hid (l = rfA d r (2 * r + 1).toNat) := by
        show _ = _
        rw [HL.out, hae, show r + 1 + r = 2 * r + 1 from by omega]
      clear hle
      go_wp2
      refine bodyPost_ret (v := .tuple #[.slice va n vc, .int .i64 0]) (by simp (maxDischargeDepth := 8) [results, Try.results46, go_sem, *]) rfl ?_
      exact ⟨_, rfl, by rw [← HF.out]; exact HO.out, HB.out⟩
set_option maxHeartbeats 4000000 in
theorem spec_rf (d r : Int) (w : World) (h : isD d = true) (h4 : d.tmod 4 ≤ 1) (hr : rtB d = r) :
    Calls Try.prog 85 #[.int .i64 d] w fun e w' => ∃ v, e = .returned (.tuple #[v, .int .i64 0]) ∧ OwnT w.heap.size w' v (rfA d r (2 * r + 1).toNat) ∧ Below w.heap.size w w' := by
  obtain ⟨d1, d2, dn⟩ := isD_parts h
  have hrb := rtB_ok d1 d2
  rw [hr] at hrb dn
  obtain ⟨r0, r1, r2, r3⟩ := hrb
  have HI : Hid (∀ w, Calls Try.prog 58 #[.int .i64 d, .int .i64 1, .int .i64 4000] w fun e w' => e = .returned (.bool true) ∧ w = w') := fun w => by
    have := l01In_any d 1 4000 w
    rwa [inB_iff.2 ⟨d1, d2⟩] at this
  have HR : Hid (∀ w, Calls Try.prog 76 #[.int .i64 d] w fun e w' => e = .returned (.int .i64 r) ∧ w = w') := fun w => by
    have := l06Root_any d w d1 d2
    rwa [rtC_of h, hr] at this
  have mr := mul_bd (a := r) (b := r) (A := 63) (B := 63) (by omega) r1 (by omega) r1
  have hrr : (r * r == d) = false := by simp; omega
  obtain ⟨mr1, mr2⟩ := mr
  have HRR := Lib.hid hr
  have ht0 := Int.tmod_nonneg 4 (show 0 ≤ d by omega)
  obtain ⟨z, hz⟩ : ∃ z, d.tmod 4 = z := ⟨_, rfl⟩
  rw [hz] at h4 ht0
  have hzw : IntKind.i64.wrap z = z := by rw [IntKind.wrap_i64]; omega
  have hz1 : ¬ 1 < z := by omega
  clear r2 r3 dn h hr
  go_enter Try.func85, Try.ntmps85
  go_wp2_with (first | (go_at_call 58; refine (HI.out _).mono ?_; rintro e wn ⟨rfl, rfl⟩) | (go_at_call 76; refine (HR.out _).mono ?_; rintro e wn ⟨rfl, rfl⟩))
  clear HI HR hz hzw hz1 h4 ht0
  go_loopw [5, 6] (fun v av wr => ∃ (a : Int) (n : Nat) (va : Option Addr) (vc : Nat) (l : List Tr), v = .slice va n vc ∧ av = .int .i64 a ∧ -r ≤ a ∧ a ≤ r + 1 ∧ l = rfA d r (a + r).toNat ∧ n = l.length ∧ OwnT w.heap.size wr (.slice va n vc) l ∧ Below w.heap.size w wr) (fun _ av _ => (r + 1 - intOf av).toNat)
  case atStart => exact ⟨-r, 0, _, _, [], rfl, rfl, by omega, by omega, by rw [show (-r + r).toNat = 0 from by omega]; rfl, rfl, World.ownsRow_made w #[] 0 (Nat.le_refl _) (Nat.zero_le _) rfl, (Below.refl _ _).alloc (Nat.le_refl _) _⟩
  case round =>
    obtain ⟨a, n, va, vc, l, rfl, rfl, ha1, ha2, hl, hn, hown, hbel⟩ := hrel
    have HO := Lib.hid hown
    have HL := Lib.hid hl
    have HN := Lib.hid hn
    have HB := Lib.hid hbel
    clear hown hl hn hbel
    by_cases hle : a ≤ r
    · go_wp2_with fail
      go_loopw [5, 7] (fun v bv wr => ∃ (b : Int) (n : Nat) (va : Option Addr) (vc : Nat) (l2 : List Tr), v = .slice va n vc ∧ bv = .int .i64 b ∧ 1 ≤ b ∧ b ≤ r + 1 ∧ l2 = l ++ rfB d r a (b - 1).toNat ∧ n = l2.length ∧ OwnT w.heap.size wr (.slice va n vc) l2 ∧ Below w.heap.size w wr) (fun _ bv _ => (r + 1 - intOf bv).toNat)
      case atStart => exact ⟨1, n, va, vc, l, rfl, rfl, by omega, by omega, by show l = l ++ []; rw [List.append_nil], HN.out, HO.out, HB.out⟩
      case round =>
        obtain ⟨b, n, va, vc, l2, rfl, rfl, hb1, hb2, hl2, hn2, hown2, hbel2⟩ := hrel
        have HO2 := Lib.hid hown2
        have HB2 := Lib.hid hbel2
        have HL2 := Lib.hid hl2
        have HN2 := Lib.hid hn2
        clear hown2 hbel2 hl2 hn2
        by_cases hb : b ≤ r
        · have hB63 : b ≤ 63 := by omega
          have m := mul_bd (a := b) (b := b) (A := 63) (B := 63) (by omega) hB63 (by omega) hB63
          obtain ⟨m1, m2⟩ := m
          by_cases ha0 : a = 0
          · have ha0' : (a == 0) = true := by simpa using ha0
            have ha0'' : (a != 0) = false := by simpa using ha0
            have HL3 : Hid (l2 = rfA d r (a + 1 + r).toNat) := by
              show _ = _
              rw [HL2.out, rfA_step ha1, HL.out, ha0, rfB_zero, rfB_zero]
            go_wp2
            go_roundw
            case rel => exact ⟨a + 1, n, va, vc, l2, rfl, by go_num, by omega, by omega, HL3.out, HN2.out, HO2.out, HB2.out⟩
            case measure => simp [intOf]; omega
          · have ha0' : (a == 0) = false := by simpa using ha0
            have ha0'' : (a != 0) = true := by simpa using ha0
            have h4a : ¬ (4 * a = 0) := by omega
            have hM := rf_m (b := b) (d := d) ha0 (by omega) (by omega)
            have hC := rf_c (a := a) ha0 hb1 hB63 d1 d2
            have HQ := Lib.hid (rf_dsc (a := a) (b := b) (d := d) ha0)
            obtain ⟨c, hc⟩ : ∃ c, (b * b - d).tdiv (4 * a) = c := ⟨_, rfl⟩
            obtain ⟨q, hq⟩ : ∃ q, (b * b - d).tmod (4 * a) = q := ⟨_, rfl⟩
            rw [hc] at hC HQ
            rw [hq] at hM HQ
            obtain ⟨C1, C2⟩ := hC
            obtain ⟨M1, M2⟩ := hM
            have hqw : IntKind.i64.wrap q = q := by rw [IntKind.wrap_i64]; omega
            have hcw : IntKind.i64.wrap c = c := by rw [IntKind.wrap_i64]; omega
            have HCq := Lib.hid (And.intro hc hq)
            by_cases hq0 : q = 0
            · have hq0' : (q == 0) = true := by simpa using hq0
              have hq0'' : (q != 0) = false := by simpa using hq0
              have HD : Hid (dsc a b c = d) := HQ.out hq0
              have HRd : Hid (∀ w, Calls Try.prog 75 #[.agg #[.int .i64 a, .int .i64 b, .int .i64 c], .int .i64 r] w fun e w' => e = .returned (.bool (isRd a b r)) ∧ Below w.heap.size w w') := fun w => by
                exact l06Reduced_any a b c r w ⟨by omega, by omega⟩ ⟨by omega, by omega⟩ (by omega) (by omega)
              go_upto_region 15 with fail
              obtain ⟨wx, hwx⟩ : ∃ wx, wx = wr.alloc (.cells #[.int .i64 a, .int .i64 b, .int .i64 c] 43) := ⟨_, rfl⟩
              obtain ⟨gx, hgx⟩ : ∃ g, wr.heap.size = g := ⟨_, rfl⟩
              rw [← hwx, hgx]
              have HX : Hid (Bk3 wx gx a b c) := by rw [hwx, ← hgx]; exact bk3_new wr _ _ _ _
              have HO3 := Lib.hid (HO2.out.below ((Below.refl _ _).alloc (Nat.le_refl _) (.cells #[.int .i64 a, .int .i64 b, .int .i64 c] 43)))
              have HB3 := Lib.hid (Below.alloc HB2.out HB2.out.size (.cells #[.int .i64 a, .int .i64 b, .int .i64 c] 43))
              rw [← hwx] at HO3 HB3
              clear hwx hgx
              obtain ⟨⟨x0, x1, x2⟩, ⟨f0, f1, f2⟩, gz⟩ := HX.out
              cases hrd : isRd a b r
              · rw [hrd] at HRd
                have HP : Hid (rfP d r a b = []) := by show _ = _; unfold rfP; rw [if_neg (by rw [hrd]; intro h; exact absurd h.2.2 (by decide))]
                go_wp2_with fail
                go_at_call 75
                refine (HRd.out _).mono ?_
                rintro e wy ⟨rfl, hby⟩
                have HO4 := Lib.hid (HO3.out.below hby)
                have HB4 := Lib.hid (below_after hby HB3.out)
                clear hby x0 x1 x2 f0 f1 f2 gz hrd
                go_wp2
                go_roundw
                case rel => exact ⟨b + 1, n, va, vc, l2, rfl, by go_num, by omega, by omega, by rw [rfB_step hb1, HP.out, List.append_nil]; exact HL2.out, HN2.out, HO4.out, HB4.out⟩
                case measure => simp [intOf]; omega
              · rw [hrd] at HRd
                have HP : Hid (rfP d r a b = [(a, b, c)]) := by show _ = _; unfold rfP; rw [if_pos ⟨ha0, HCq.out.2.trans hq0, hrd⟩, HCq.out.1]
                go_wp2_with fail
                go_at_call 75
                refine (HRd.out _).mono ?_
                rintro e wy ⟨rfl, hby⟩
                have HO4 := Lib.hid (HO3.out.below hby)
                have HB4 := Lib.hid (below_after hby HB3.out)
                have HX4 := Lib.hid (HX.out.below hby)
                clear hby x0 x1 x2 f0 f1 f2 gz hrd
                obtain ⟨⟨x0, x1, x2⟩, ⟨f0, f1, f2⟩, gz⟩ := HX4.out
                have HO5 := Lib.hid (HO4.out.below ((Below.refl _ _).alloc (Nat.le_refl _) (.cells #[.int .i64 a, .int .i64 b, .int .i64 c] 43)))
                have HB5 := Lib.hid (Below.alloc HB4.out HB4.out.size (.cells #[.int .i64 a, .int .i64 b, .int .i64 c] 43))
                have HNB : Hid (l2.length ≤ 9000) := by
                  have h1 := rfA_len d r (a + r).toNat
                  have h2 := rfB_len d r a (b - 1).toNat
                  have h3 := nat_le_64 (r := r) (by omega) (a + r).toNat (by omega)
                  show _ ≤ _
                  rw [HL2.out, List.length_append, HL.out]
                  omega
                go_wp2_with (at_builtin; refine wpList_app_T1 (B := w.heap.size) rfl _ _ rfl HO5.out (a0 := a) (a1 := b) (a2 := c) ?c0 ?c1 ?c2 HB5.out.size rfl rfl (by have := HNB.out; omega) ?_)
                case c0 => go_cell
                case c1 => go_cell
                case c2 => go_cell
                intro v' w' ho hgrow
                have hln : (l2 ++ [(a, b, c)]).length = n + 1 := by rw [List.length_append, HN2.out]; rfl
                have HB6 := Lib.hid (Below.grown HB5.out hgrow HB5.out.size (fun k hk => (World.ownsRow.lt HO5.out k hk).1))
                obtain ⟨va', vc', rfl⟩ := viewT ho
                rw [hln] at ho ⊢
                have HO6 := Lib.hid (And.intro ho hln)
                clear ho hgrow hln x0 x1 x2 f0 f1 f2 gz
                go_wp2
                go_roundw
                case rel => exact ⟨b + 1, n + 1, va', vc', l2 ++ [(a, b, c)], rfl, by go_num, by omega, by omega, by rw [rfB_step hb1, HP.out, HL2.out, List.append_assoc], HO6.out.2.symm, HO6.out.1, HB6.out⟩
                case measure => simp [intOf]; omega
            · have hq0' : (q == 0) = false := by simpa using hq0
              have hq0'' : (q != 0) = true := by simpa using hq0
              have HP : Hid (rfP d r a b = []) := by show _ = _; unfold rfP; rw [if_neg (by intro h; exact hq0 (HCq.out.2.symm.trans h.2.1))]
              go_wp2
              go_roundw
              case rel => exact ⟨b + 1, n, va, vc, l2, rfl, by go_num, by omega, by omega, by rw [rfB_step hb1, HP.out, List.append_nil]; exact HL2.out, HN2.out, HO2.out, HB2.out⟩
              case measure => simp [intOf]; omega
        · have hbr : b = r + 1 := by omega
          have HL3 : Hid (l2 = rfA d r (a + 1 + r).toNat) := by
            show _ = _
            rw [HL2.out, rfA_step ha1, hbr, HL.out, show (r + 1 - 1).toNat = r.toNat from by omega]
          clear hb
          go_wp2
          go_roundw
          case rel => exact ⟨a + 1, n, va, vc, l2, rfl, by go_num, by omega, by omega, HL3.out, HN2.out, HO2.out, HB2.out⟩
          case measure => simp [intOf]; omega
    · have hae : a = r + 1 := by omega
      have HF : Hid (l = rfA d r (2 * r + 1).toNat) := by
        show _ = _
        rw [HL.out, hae, show r + 1 + r = 2 * r + 1 from by omega]
      clear hle
      go_wp2
      refine bodyPost_ret (v := .tuple #[.slice va n vc, .int .i64 0]) (by simp (maxDischargeDepth := 8) [results, Try.results85, go_sem, *]) rfl ?_
      exact ⟨_, rfl, by rw [← HF.out]; exact HO.out, HB.out⟩
theorem rfOk_parts {d : Int} (h : rfOk d = true) : isD d = true ∧ d.tmod 4 ≤ 1 := by
  simp only [rfOk, Bool.and_eq_true, decide_eq_true_eq] at h
  exact h
theorem rfV_yes {d : Int} (h : rfOk d = true) : rfV d = rfA d (rtB d) (2 * rtB d + 1).toNat ∧ rfC d = 0 := by unfold rfV rfC; rw [if_pos h, if_pos h]; exact ⟨rfl, rfl⟩
theorem rfV_state {d : Int} (h : rfOk d = false) (k : inB d 1 4000 = true) : rfV d = [] ∧ rfC d = 5 := by unfold rfV rfC; rw [if_neg (by rw [h]; decide), if_neg (by rw [h]; decide), if_pos k]; exact ⟨rfl, rfl⟩
theorem rfV_range {d : Int} (k : inB d 1 4000 = false) : rfV d = [] ∧ rfC d = 2 := by
  have h : rfOk d = false := by
    have hd : isD d = false := by
      by_cases h1 : d < 1
      · exact isD_low h1
      · exact isD_high (by have := inB_not.1 k; omega)
    unfold rfOk; rw [hd]; rfl
  unfold rfV rfC
  rw [if_neg (by rw [h]; decide), if_neg (by rw [h]; decide), if_neg (by rw [k]; decide)]
  exact ⟨rfl, rfl⟩
theorem impl_ReducedForms_any (d : Int) (w : World) : Calls Try.prog 46 #[.int .i64 d] w fun e w' => ∃ v, e = .returned (.tuple #[v, .int .i64 (rfC d)]) ∧ OwnFo w.heap.size w' v (rfV d).length (flT (rfV d)) ∧ Below w.heap.size w w' := by
  cases k : inB d 1 4000
  · obtain ⟨e1, e2⟩ := rfV_range k
    rw [e1, e2]
    have hk := inB_not.1 k
    by_cases g1 : d < 1
    · go_enter Try.func46, Try.ntmps46
      go_wp2_with fail
      refine bodyPost_ret (v := .tuple #[.slice none 0 0, .int .i64 2]) (by simp (maxDischargeDepth := 8) [results, Try.results46, go_sem, *]) rfl ?_
      exact ⟨_, rfl, World.ownsRow_nil _ _ _ _, Below.refl _ _⟩
    · have g2 : 4000 < d := by omega
      go_enter Try.func46, Try.ntmps46
      go_wp2_with fail
      refine bodyPost_ret (v := .tuple #[.slice none 0 0, .int .i64 2]) (by simp (maxDischargeDepth := 8) [results, Try.results46, go_sem, *]) rfl ?_
      exact ⟨_, rfl, World.ownsRow_nil _ _ _ _, Below.refl _ _⟩
  · obtain ⟨d1, d2⟩ := inB_iff.1 k
    cases ho : rfOk d
    · obtain ⟨e1, e2⟩ := rfV_state ho k
      rw [e1, e2]
      have g1 : ¬ d < 1 := by omega
      have g2 : ¬ 4000 < d := by omega
      have ht0 := Int.tmod_nonneg 4 (show 0 ≤ d by omega)
      have htl := tmod_lt d 4 (by omega)
      cases hd : isD d
      · have HI : Hid (∀ w, Calls Try.prog 72 #[.int .i64 d] w fun e w' => e = .returned (.bool false) ∧ w = w') := fun w => by
          have := isDiscriminant_any d w
          rwa [hd] at this
        clear ho e1 e2 k hd ht0 htl
        go_enter Try.func46, Try.ntmps46
        go_wp2_with (first | (go_at_call 72; refine (HI.out _).mono ?_; rintro e wn ⟨rfl, rfl⟩))
        refine bodyPost_ret (v := .tuple #[.slice none 0 0, .int .i64 5]) (by simp (maxDischargeDepth := 8) [results, Try.results46, go_sem, *]) rfl ?_
        exact ⟨_, rfl, World.ownsRow_nil _ _ _ _, Below.refl _ _⟩
      · have HI : Hid (∀ w, Calls Try.prog 72 #[.int .i64 d] w fun e w' => e = .returned (.bool true) ∧ w = w') := fun w => by
          have := isDiscriminant_any d w
          rwa [hd] at this
        have hz1 : 1 < d.tmod 4 := by
          apply Int.not_le.1
          intro h
          have : rfOk d = true := by unfold rfOk; rw [hd]; simpa using h
          rw [ho] at this; cases this
        obtain ⟨z, hz⟩ : ∃ z, d.tmod 4 = z := ⟨_, rfl⟩
        rw [hz] at hz1 ht0 htl
        have hzw : IntKind.i64.wrap z = z := by rw [IntKind.wrap_i64]; omega
        clear ho e1 e2 k hd
        go_enter Try.func46, Try.ntmps46
        go_wp2_with (first | (go_at_call 72; refine (HI.out _).mono ?_; rintro e wn ⟨rfl, rfl⟩))
        refine bodyPost_ret (v := .tuple #[.slice none 0 0, .int .i64 5]) (by simp (maxDischargeDepth := 8) [results, Try.results46, go_sem, *]) rfl ?_
        exact ⟨_, rfl, World.ownsRow_nil _ _ _ _, Below.refl _ _⟩
    · obtain ⟨e1, e2⟩ := rfV_yes ho
      rw [e1, e2]
      obtain ⟨o1, o2⟩ := rfOk_parts ho
      exact impl_rf d _ w o1 o2 rfl
theorem l06All_any (d : Int) (w : World) : Calls Try.prog 85 #[.int .i64 d] w fun e w' => ∃ v, e = .returned (.tuple #[v, .int .i64 (rfC d)]) ∧ OwnT w.heap.size w' v (rfV d) ∧ Below w.heap.size w w' := by
  cases k : inB d 1 4000
  · obtain ⟨e1, e2⟩ := rfV_range k
    rw [e1, e2]
    have HI : Hid (∀ w, Calls Try.prog 58 #[.int .i64 d, .int .i64 1, .int .i64 4000] w fun e w' => e = .returned (.bool false) ∧ w = w') := fun w => by
      have := l01In_any d 1 4000 w
      rwa [k] at this
    clear e1 e2 k
    go_enter Try.func85, Try.ntmps85
    go_wp2_with (first | (go_at_call 58; refine (HI.out _).mono ?_; rintro e wn ⟨rfl, rfl⟩))
    refine bodyPost_ret (v := .tuple #[.slice none 0 0, .int .i64 2]) (by simp (maxDischargeDepth := 8) [results, Try.results85, go_sem, *]) rfl ?_
    exact ⟨_, rfl, World.ownsRow_nil _ _ _ _, Below.refl _ _⟩
  · obtain ⟨d1, d2⟩ := inB_iff.1 k
    cases ho : rfOk d
    · obtain ⟨e1, e2⟩ := rfV_state ho k
      rw [e1, e2]
      have HI : Hid (∀ w, Calls Try.prog 58 #[.int .i64 d, .int .i64 1, .int .i64 4000] w fun e w' => e = .returned (.bool true) ∧ w = w') := fun w => by
        have := l01In_any d 1 4000 w
        rwa [k] at this
      have HR : Hid (∀ w, Calls Try.prog 76 #[.int .i64 d] w fun e w' => e = .returned (.int .i64 (rtC d)) ∧ w = w') := fun w => l06Root_any d w d1 d2
      have ht0 := Int.tmod_nonneg 4 (show 0 ≤ d by omega)
      have htl := tmod_lt d 4 (by omega)
      obtain ⟨c0, c1⟩ := rtC_bd d1 d2
      have hC := isD_C d1 d2
      have mr := mul_bd (a := rtC d) (b := rtC d) (A := 64) (B := 64) (by omega) c1 (by omega) c1
      obtain ⟨r, hr⟩ : ∃ r, rtC d = r := ⟨_, rfl⟩
      rw [hr] at HR c0 c1 hC mr
      obtain ⟨mr1, mr2⟩ := mr
      cases hd : isD d
      · have hrr : (r * r == d) = true := by rw [hd] at hC; simpa using hC.symm
        clear ho e1 e2 k hd ht0 htl hr hC
        go_enter Try.func85, Try.ntmps85
        go_wp2_with (first | (go_at_call 58; refine (HI.out _).mono ?_; rintro e wn ⟨rfl, rfl⟩) | (go_at_call 76; refine (HR.out _).mono ?_; rintro e wn ⟨rfl, rfl⟩))
        refine bodyPost_ret (v := .tuple #[.slice none 0 0, .int .i64 5]) (by simp (maxDischargeDepth := 8) [results, Try.results85, go_sem, *]) rfl ?_
        exact ⟨_, rfl, World.ownsRow_nil _ _ _ _, Below.refl _ _⟩
      · have hrr : (r * r == d) = false := by rw [hd] at hC; simpa using hC.symm
        have hz1 : 1 < d.tmod 4 := by
          apply Int.not_le.1
          intro h
          have : rfOk d = true := by unfold rfOk; rw [hd]; simpa using h
          rw [ho] at this; cases this
        obtain ⟨z, hz⟩ : ∃ z, d.tmod 4 = z := ⟨_, rfl⟩
        rw [hz] at hz1 ht0 htl
        have hzw : IntKind.i64.wrap z = z := by rw [IntKind.wrap_i64]; omega
        clear ho e1 e2 k hd hr hC
        go_enter Try.func85, Try.ntmps85
        go_wp2_with (first | (go_at_call 58; refine (HI.out _).mono ?_; rintro e wn ⟨rfl, rfl⟩) | (go_at_call 76; refine (HR.out _).mono ?_; rintro e wn ⟨rfl, rfl⟩))
        refine bodyPost_ret (v := .tuple #[.slice none 0 0, .int .i64 5]) (by simp (maxDischargeDepth := 8) [results, Try.results85, go_sem, *]) rfl ?_
        exact ⟨_, rfl, World.ownsRow_nil _ _ _ _, Below.refl _ _⟩
    · obtain ⟨e1, e2⟩ := rfV_yes ho
      rw [e1, e2]
      obtain ⟨o1, o2⟩ := rfOk_parts ho
      exact spec_rf d _ w o1 o2 rfl
theorem spec_ReducedForms_any (d : Int) (w : World) : Calls Try.prog 45 #[.int .i64 d] w fun e w' => ∃ v, e = .returned (.tuple #[v, .int .i64 (rfC d)]) ∧ OwnFo w.heap.size w' v (rfV d).length (flT (rfV d)) ∧ Below w.heap.size w w' := by
  have HA := Lib.hid (l06All_any d)
  generalize rfC d = C at *
  generalize rfV d = V at *
  go_enter Try.func45, Try.ntmps45
  go_wp2_with fail
  go_at_call 85
  refine (HA.out _).mono ?_
  rintro e wq ⟨v, rfl, hv, hq⟩
  obtain ⟨va, vc, rfl⟩ := viewT hv
  obtain ⟨n, hn⟩ : ∃ n, V.length = n := ⟨_, rfl⟩
  rw [hn] at hv ⊢
  have HV := Lib.hid hv
  clear hv hn
  go_wp2_with fail
  refine bodyPost_ret (v := .tuple #[.slice va n vc, .int .i64 C]) (by simp (maxDischargeDepth := 8) [results, Try.results45, go_sem, *]) rfl ?_
  exact ⟨_, rfl, HV.out, hq⟩
end Go.Proofs.Ytohnmogejidpdaa
