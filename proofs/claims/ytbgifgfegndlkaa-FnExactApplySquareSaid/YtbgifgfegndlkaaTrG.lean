/-
  Squares: products, matrices of steps, whether they fit (own work).
-/
import Derived.Test.YtbgifgfegndlkaaTrE
namespace Go.Proofs.Ytbgifgfegndlkaa
open Go.ChangeShapes Go.WideShapes Go.ChangeAt Go.RowKit
set_option linter.unusedVariables false
set_option linter.unusedSimpArgs false
set_option maxRecDepth 100000

/-- Nine numbers by their places. -/
def nine (m0 m1 m2 m3 m4 m5 m6 m7 m8 : Int) (c : Nat) : Int := match c with
  | 0 => m0
  | 1 => m1
  | 2 => m2
  | 3 => m3
  | 4 => m4
  | 5 => m5
  | 6 => m6
  | 7 => m7
  | _ => m8
/-- A block whose first nine cells hold a function's numbers. -/
def BkF (w : World) (g : Nat) (f : Nat → Int) : Prop := (∀ c, c < 9 → w.cell? ⟨g, c, none⟩ = some (.int .i64 (f c))) ∧ (∀ c, c < 9 → w.frozen? ⟨g, c, none⟩ = false) ∧ g < w.heap.size
theorem BkF.same {w w' : World} {g : Nat} {f : Nat → Int} (h : BkF w g f) (he : w'.heap[g]? = w.heap[g]?) : BkF w' g f :=
  ⟨fun c hc => (World.cell?_of_block (a := ⟨g, c, none⟩) he).trans (h.1 c hc), fun c hc => (World.frozen?_of_block (a := ⟨g, c, none⟩) he).trans (h.2.1 c hc), by
    rw [Array.getElem?_eq_getElem h.2.2] at he
    exact (Array.getElem?_eq_some_iff.1 he).1⟩
theorem BkF.below {w w' : World} {g : Nat} {f : Nat → Int} (h : BkF w g f) (hb : Below w.heap.size w w') : BkF w' g f := h.same (hb.block g h.2.2)
theorem BkF.far {w : World} {g : Nat} {f : Nat → Int} (h : BkF w g f) (p : Addr) (v : Value) (hne : g ≠ p.block) : BkF (w.setCell p v) g f := h.same (Below.heap_setCell w p v g hne)
theorem BkF.set {w : World} {g : Nat} {f : Nat → Int} (h : BkF w g f) (c : Nat) (hc : c < 9) (v : Int) : BkF (w.setCell ⟨g, c, none⟩ (.int .i64 v)) g (fun d => if d = c then v else f d) := by
  obtain ⟨h0, h1, h2⟩ := h
  refine ⟨fun d hd => ?_, fun d hd => ?_, by simpa using h2⟩
  · by_cases e : d = c
    · subst e
      have := h0 d hd
      have hz := h1 d hd
      simp only [if_true]
      go_cell
    · simp only [if_neg e]
      have := h0 d hd
      have e2 : ¬ c = d := fun h => e h.symm
      rw [← this]
      go_cell
  · have := h1 d hd
    simpa using this
theorem Bk9.toF {w : World} {g : Nat} {m0 m1 m2 m3 m4 m5 m6 m7 m8 : Int} (h : Bk9 w g m0 m1 m2 m3 m4 m5 m6 m7 m8) : BkF w g (nine m0 m1 m2 m3 m4 m5 m6 m7 m8) := by
  obtain ⟨⟨c0, c1, c2, c3, c4, c5, c6, c7, c8⟩, ⟨f0, f1, f2, f3, f4, f5, f6, f7, f8⟩, hz⟩ := h
  refine ⟨fun c hc => ?_, fun c hc => ?_, hz⟩
  · match c, hc with
    | 0, _ => exact c0
    | 1, _ => exact c1
    | 2, _ => exact c2
    | 3, _ => exact c3
    | 4, _ => exact c4
    | 5, _ => exact c5
    | 6, _ => exact c6
    | 7, _ => exact c7
    | 8, _ => exact c8
  · match c, hc with
    | 0, _ => exact f0
    | 1, _ => exact f1
    | 2, _ => exact f2
    | 3, _ => exact f3
    | 4, _ => exact f4
    | 5, _ => exact f5
    | 6, _ => exact f6
    | 7, _ => exact f7
    | 8, _ => exact f8
theorem BkF.to9 {w : World} {g : Nat} {f : Nat → Int} (h : BkF w g f) : Bk9 w g (f 0) (f 1) (f 2) (f 3) (f 4) (f 5) (f 6) (f 7) (f 8) :=
  ⟨⟨h.1 0 (by omega), h.1 1 (by omega), h.1 2 (by omega), h.1 3 (by omega), h.1 4 (by omega), h.1 5 (by omega), h.1 6 (by omega), h.1 7 (by omega), h.1 8 (by omega)⟩, ⟨h.2.1 0 (by omega), h.2.1 1 (by omega), h.2.1 2 (by omega), h.2.1 3 (by omega), h.2.1 4 (by omega), h.2.1 5 (by omega), h.2.1 6 (by omega), h.2.1 7 (by omega), h.2.1 8 (by omega)⟩, h.2.2⟩
theorem BkF.congr {w : World} {g : Nat} {f f' : Nat → Int} (h : BkF w g f) (he : ∀ c, c < 9 → f c = f' c) : BkF w g f' := ⟨fun c hc => by rw [← he c hc]; exact h.1 c hc, h.2.1, h.2.2⟩
def ag9 (f : Nat → Int) : Value := .agg #[.int .i64 (f 0), .int .i64 (f 1), .int .i64 (f 2), .int .i64 (f 3), .int .i64 (f 4), .int .i64 (f 5), .int .i64 (f 6), .int .i64 (f 7), .int .i64 (f 8)]
def fit9 (f : Nat → Int) : Bool := (List.range 9).all (fun c => wh (f c))
theorem fit9_iff {f : Nat → Int} : fit9 f = true ↔ ∀ c, c < 9 → wh (f c) = true := by simp [fit9, List.all_eq_true, List.mem_range]
theorem fit9_nine (m0 m1 m2 m3 m4 m5 m6 m7 m8 : Int) : fit9 (nine m0 m1 m2 m3 m4 m5 m6 m7 m8) = (((wh m0 && wh m1 && wh m2) && (wh m3 && wh m4 && wh m5)) && (wh m6 && wh m7 && wh m8)) := by
  rw [Bool.eq_iff_iff]
  simp only [fit9_iff, Bool.and_eq_true]
  constructor
  · intro h
    exact ⟨⟨⟨⟨h 0 (by omega), h 1 (by omega)⟩, h 2 (by omega)⟩, ⟨h 3 (by omega), h 4 (by omega)⟩, h 5 (by omega)⟩, ⟨h 6 (by omega), h 7 (by omega)⟩, h 8 (by omega)⟩
  · rintro ⟨⟨⟨⟨h0, h1⟩, h2⟩, ⟨h3, h4⟩, h5⟩, ⟨h6, h7⟩, h8⟩ c hc
    match c, hc with
    | 0, _ => exact h0
    | 1, _ => exact h1
    | 2, _ => exact h2
    | 3, _ => exact h3
    | 4, _ => exact h4
    | 5, _ => exact h5
    | 6, _ => exact h6
    | 7, _ => exact h7
    | 8, _ => exact h8
set_option maxHeartbeats 3200000 in
theorem l07Fits_any (m0 m1 m2 m3 m4 m5 m6 m7 m8 : Int) (w : World) : Calls Try.prog 71 #[.agg #[.int .i64 m0, .int .i64 m1, .int .i64 m2, .int .i64 m3, .int .i64 m4, .int .i64 m5, .int .i64 m6, .int .i64 m7, .int .i64 m8]] w fun e w' => e = .returned (.bool (fit9 (nine m0 m1 m2 m3 m4 m5 m6 m7 m8))) ∧ Below w.heap.size w w' := by
  obtain ⟨E, hE⟩ : ∃ E, fit9 (nine m0 m1 m2 m3 m4 m5 m6 m7 m8) = E := ⟨_, rfl⟩
  rw [hE]
  have HRES : Hid (E = fit9 (nine m0 m1 m2 m3 m4 m5 m6 m7 m8)) := hE.symm
  clear hE
  obtain ⟨GM, hG⟩ : ∃ G, w.heap.size = G := ⟨_, rfl⟩
  have HG := Lib.hid hG
  go_enter Try.func71, Try.ntmps71
  go_upto_region 1 with fail
  obtain ⟨w0, hw0⟩ : ∃ w0, w0 = (w.alloc (.cells #[.int .i64 m0, .int .i64 m1, .int .i64 m2, .int .i64 m3, .int .i64 m4, .int .i64 m5, .int .i64 m6, .int .i64 m7, .int .i64 m8] 43)) := ⟨_, rfl⟩
  rw [← hw0]
  have HM : Hid (Bk9 w0 GM m0 m1 m2 m3 m4 m5 m6 m7 m8) := by
    have h := (bk9_new w m0 m1 m2 m3 m4 m5 m6 m7 m8 43).below (W' := (w.alloc (.cells #[.int .i64 m0, .int .i64 m1, .int .i64 m2, .int .i64 m3, .int .i64 m4, .int .i64 m5, .int .i64 m6, .int .i64 m7, .int .i64 m8] 43))) (by (repeat' (first | (with_reducible exact Below.refl _ _) | (with_reducible refine Below.alloc ?_ ?_ _) | (with_reducible refine Below.setCell ?_ ?_ _) | (with_reducible refine Below.drew ?_) | (with_reducible refine below_drewN ?_ _) | (with_reducible assumption) | (with_reducible refine below_after (by with_reducible assumption) ?_) | go_size)))
    (try simp only [World.size_alloc] at h)
    rw [hG] at h
    rw [hw0]; exact h
  have HB : Hid (Below w.heap.size w w0) := by show Below w.heap.size w w0; rw [hw0]; (repeat' (first | (with_reducible exact Below.refl _ _) | (with_reducible refine Below.alloc ?_ ?_ _) | (with_reducible refine Below.setCell ?_ ?_ _) | (with_reducible refine Below.drew ?_) | (with_reducible refine below_drewN ?_ _) | (with_reducible assumption) | (with_reducible refine below_after (by with_reducible assumption) ?_) | go_size))
  clear hw0
  have le_M : w.heap.size ≤ GM := by omega
  obtain ⟨⟨qM0, qM1, qM2, qM3, qM4, qM5, qM6, qM7, qM8⟩, ⟨fM0, fM1, fM2, fM3, fM4, fM5, fM6, fM7, fM8⟩, zM⟩ := HM.out
  go_wp2_with fail
  clear qM0 fM0 qM1 fM1 qM2 fM2 qM3 fM3 qM4 fM4 qM5 fM5 qM6 fM6 qM7 fM7 qM8 fM8 zM
  have HF := Lib.hid HM.out.toF
  obtain ⟨f, hf⟩ : ∃ f, nine m0 m1 m2 m3 m4 m5 m6 m7 m8 = f := ⟨_, rfl⟩
  rw [hf] at HF HRES
  clear hf HM
  have HLE := Lib.hid le_M
  go_loopw [3] (fun y wr => ∃ i : Nat, y = .int .i64 (i : Int) ∧ i ≤ 3 ∧ (∀ c, c < 3 * i → wh (f c) = true) ∧ BkF wr GM f ∧ Below w.heap.size w wr) (fun y _ => 3 - (intOf y).toNat)
  case atStart => exact ⟨0, rfl, by omega, fun c hc => absurd hc (by omega), HF.out, HB.out⟩
  case round =>
    obtain ⟨i, rfl, hi, hall, hF, hbel⟩ := hrel
    clear HF HB
    have HA := Lib.hid hall
    have HF := Lib.hid hF
    have HB := Lib.hid hbel
    clear hall hF hbel
    by_cases hi3 : i < 3
    · have hk0 : decide ((i : Int) < 3) = true := by simp; omega
      go_wp2_with fail
      (try rw [hk0])
      go_loopw [4] (fun y wr => ∃ j : Nat, y = .int .i64 (j : Int) ∧ j ≤ 3 ∧ (∀ c, c < 3 * i + j → wh (f c) = true) ∧ BkF wr GM f ∧ Below w.heap.size w wr) (fun y _ => 3 - (intOf y).toNat)
      case atStart => exact ⟨0, rfl, by omega, HA.out, HF.out, HB.out⟩
      case round =>
        obtain ⟨j, rfl, hj, hall, hF, hbel⟩ := hrel
        clear HF HB HA
        have HA := Lib.hid hall
        have HF := Lib.hid hF
        have HB := Lib.hid hbel
        clear hall hF hbel
        by_cases hj3 : j < 3
        · have HI := Lib.hid (fun w => l01In_any (f (i * 3 + j)) 0 1000000 w)
          have c0 := HF.out.1 (i * 3 + j) (by omega)
          have hz := HF.out.2.2
          have i0 : (0 : Int) ≤ (i : Int) := by omega
          have i1 : (i : Int) < 3 := by omega
          have j0 : (0 : Int) ≤ (j : Int) := by omega
          have j1 : (j : Int) < 3 := by omega
          cases hw : wh (f (i * 3 + j))
          · rw [show inB (f (i * 3 + j)) 0 1000000 = false from hw] at HI
            have HE : Hid (fit9 f = false) := by
              show _ = _
              rw [Bool.eq_false_iff]
              intro h
              have := fit9_iff.1 h (i * 3 + j) (by omega)
              rw [hw] at this
              cases this
            obtain ⟨X, hX⟩ : ∃ X, f (i * 3 + j) = X := ⟨_, rfl⟩
            rw [hX] at HI c0
            clear hw hX
            go_wp2_with (go_at_call 65; refine (HI.out _).mono ?_; rintro e wn ⟨rfl, rfl⟩)
            go_ret
            have hb := HB.out
            exact ⟨by rw [HRES.out, HE.out]; rfl, by (repeat' (first | (with_reducible exact Below.refl _ _) | (with_reducible refine Below.alloc ?_ ?_ _) | (with_reducible refine Below.setCell ?_ ?_ _) | (with_reducible refine Below.drew ?_) | (with_reducible refine below_drewN ?_ _) | (with_reducible assumption) | (with_reducible refine below_after (by with_reducible assumption) ?_) | go_size))⟩
          · rw [show inB (f (i * 3 + j)) 0 1000000 = true from hw] at HI
            have HA2 : Hid (∀ c, c < 3 * i + (j + 1) → wh (f c) = true) := by
              intro c hc
              by_cases e : c < 3 * i + j
              · exact HA.out c e
              · rw [show c = i * 3 + j from by omega]; exact hw
            obtain ⟨X, hX⟩ : ∃ X, f (i * 3 + j) = X := ⟨_, rfl⟩
            rw [hX] at HI c0
            clear hw hX
            go_wp2_with (go_at_call 65; refine (HI.out _).mono ?_; rintro e wn ⟨rfl, rfl⟩)
            go_roundw
            case rel => exact ⟨j + 1, by go_num, by omega, HA2.out, HF.out, HB.out⟩
            case measure =>
              show 3 - ((j : Int) + 1).toNat < 3 - ((j : Int)).toNat
              omega
        · have e3 : j = 3 := by omega
          subst e3
          rw [show ((3 : Nat) : Int) = 3 from rfl]
          go_wp2_with fail
          go_roundw
          case rel => exact ⟨i + 1, by go_num, by omega, fun c hc => HA.out c (by omega), HF.out, HB.out⟩
          case measure =>
            show 3 - ((i : Int) + 1).toNat < 3 - ((i : Int)).toNat
            omega
    · have e3 : i = 3 := by omega
      subst e3
      rw [show ((3 : Nat) : Int) = 3 from rfl]
      have HE : Hid (fit9 f = true) := by
        show _ = _
        exact fit9_iff.2 (fun c hc => HA.out c (by omega))
      go_wp2_with fail
      go_ret
      have hb := HB.out
      exact ⟨by rw [HRES.out, HE.out]; rfl, by (repeat' (first | (with_reducible exact Below.refl _ _) | (with_reducible refine Below.alloc ?_ ?_ _) | (with_reducible refine Below.setCell ?_ ?_ _) | (with_reducible refine Below.drew ?_) | (with_reducible refine below_drewN ?_ _) | (with_reducible assumption) | (with_reducible refine below_after (by with_reducible assumption) ?_) | go_size))⟩
theorem isq_row (i : Nat) (hi : i < 3) (m0 m1 m2 m3 m4 m5 m6 m7 m8 : Int) (g : Nat) (w : World) (h : Bk9 w g m0 m1 m2 m3 m4 m5 m6 m7 m8) : Calls Try.prog 55 #[.slice (some ⟨g, 3 * i, none⟩) 3 3] w fun e w' => e = .returned (.bool (wh (nine m0 m1 m2 m3 m4 m5 m6 m7 m8 (3 * i)) && wh (nine m0 m1 m2 m3 m4 m5 m6 m7 m8 (3 * i + 1)) && wh (nine m0 m1 m2 m3 m4 m5 m6 m7 m8 (3 * i + 2)))) ∧ w = w' := by
  have hf := h.toF
  exact areWhole_three _ _ _ g (3 * i) 3 w (hf.1 _ (by omega)) (hf.1 _ (by omega)) (hf.1 _ (by omega)) hf.2.2
set_option maxHeartbeats 3200000 in
theorem isSquare_any (m0 m1 m2 m3 m4 m5 m6 m7 m8 : Int) (w : World) : Calls Try.prog 72 #[.agg #[.int .i64 m0, .int .i64 m1, .int .i64 m2, .int .i64 m3, .int .i64 m4, .int .i64 m5, .int .i64 m6, .int .i64 m7, .int .i64 m8]] w fun e w' => e = .returned (.bool (fit9 (nine m0 m1 m2 m3 m4 m5 m6 m7 m8))) ∧ Below w.heap.size w w' := by
  have HM0 := Lib.hid (bk9_new w m0 m1 m2 m3 m4 m5 m6 m7 m8 43)
  have HW0 := isq_row 0 (by omega) m0 m1 m2 m3 m4 m5 m6 m7 m8 _ _ HM0.out
  have HW1 := isq_row 1 (by omega) m0 m1 m2 m3 m4 m5 m6 m7 m8 _ _ HM0.out
  have HW2 := isq_row 2 (by omega) m0 m1 m2 m3 m4 m5 m6 m7 m8 _ _ HM0.out
  rw [fit9_nine]
  simp only [nine, Nat.mul_zero, Nat.mul_one, Nat.zero_add, Nat.reduceMul, Nat.reduceAdd] at HW0 HW1 HW2
  cases h0 : (wh m0 && wh m1 && wh m2)
  · rw [h0] at HW0
    have HW0 := Lib.hid HW0
    clear HW1 HW2 h0 HM0
    go_enter Try.func72, Try.ntmps72
    go_wp2_with (go_at_call 55; refine HW0.out.mono ?_; rintro e wn ⟨rfl, rfl⟩)
    go_ret
    exact ⟨rfl, by (repeat' (first | (with_reducible exact Below.refl _ _) | (with_reducible refine Below.alloc ?_ ?_ _) | (with_reducible refine Below.setCell ?_ ?_ _) | (with_reducible refine Below.drew ?_) | (with_reducible refine below_drewN ?_ _) | (with_reducible assumption) | (with_reducible refine below_after (by with_reducible assumption) ?_) | go_size))⟩
  · rw [h0] at HW0
    cases h1 : (wh m3 && wh m4 && wh m5)
    · rw [h1] at HW1
      have HW0 := Lib.hid HW0
      have HW1 := Lib.hid HW1
      clear HW2 h0 h1 HM0
      go_enter Try.func72, Try.ntmps72
      go_wp2_with fail
      go_at_call 55
      refine HW0.out.mono ?_
      rintro e wn ⟨rfl, rfl⟩
      go_wp2_with fail
      go_at_call 55
      refine HW1.out.mono ?_
      rintro e wn ⟨rfl, rfl⟩
      go_wp2_with fail
      go_ret
      exact ⟨rfl, by (repeat' (first | (with_reducible exact Below.refl _ _) | (with_reducible refine Below.alloc ?_ ?_ _) | (with_reducible refine Below.setCell ?_ ?_ _) | (with_reducible refine Below.drew ?_) | (with_reducible refine below_drewN ?_ _) | (with_reducible assumption) | (with_reducible refine below_after (by with_reducible assumption) ?_) | go_size))⟩
    · rw [h1] at HW1
      have HW0 := Lib.hid HW0
      have HW1 := Lib.hid HW1
      have HW2 := Lib.hid HW2
      generalize (wh m6 && wh m7 && wh m8) = z at *
      clear h0 h1 HM0
      go_enter Try.func72, Try.ntmps72
      go_wp2_with fail
      go_at_call 55
      refine HW0.out.mono ?_
      rintro e wn ⟨rfl, rfl⟩
      go_wp2_with fail
      go_at_call 55
      refine HW1.out.mono ?_
      rintro e wn ⟨rfl, rfl⟩
      go_wp2_with fail
      go_at_call 55
      refine HW2.out.mono ?_
      rintro e wn ⟨rfl, rfl⟩
      go_wp2_with fail
      go_ret
      exact ⟨by simp, by (repeat' (first | (with_reducible exact Below.refl _ _) | (with_reducible refine Below.alloc ?_ ?_ _) | (with_reducible refine Below.setCell ?_ ?_ _) | (with_reducible refine Below.drew ?_) | (with_reducible refine below_drewN ?_ _) | (with_reducible assumption) | (with_reducible refine below_after (by with_reducible assumption) ?_) | go_size))⟩
end Go.Proofs.Ytbgifgfegndlkaa
