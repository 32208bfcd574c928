/-
  Order, rules, steps and codes of triples in the model (own work).
-/
import Derived.Test.YtbgifgfegndlkaaTrQ
namespace Go.Proofs.Ytbgifgfegndlkaa
open Go.ChangeShapes Go.WideShapes Go.ChangeAt Go.RowKit
set_option linter.unusedVariables false
set_option linter.unusedSimpArgs false
set_option maxRecDepth 100000

def bs1 (a b c : Int) (s : Nat × Nat × Nat) : Nat × Nat × Nat := if pk s.2.1 a b c < pk s.2.2 a b c then (s.1, s.2.2, s.2.1) else s
def bb (a b c : Int) : Nat → Nat × Nat × Nat
  | 0 => (0, 1, 2)
  | 1 => bs1 a b c (ins1 a b c (0, 1, 2))
  | _ => od a b c
theorem bs1_lt {a b c : Int} {s : Nat × Nat × Nat} (h : lt3 s) : lt3 (bs1 a b c s) := by
  unfold bs1
  split
  · exact ⟨h.1, h.2.2, h.2.1⟩
  · exact h
theorem bb_lt (a b c : Int) (k : Nat) : lt3 (bb a b c k) := by
  match k with
  | 0 => exact lt3_012
  | 1 => exact bs1_lt (ins1_lt lt3_012)
  | _ + 2 => exact od_lt a b c
theorem bb_step (a b c : Int) {n : Nat} (h : n < 2) : bs1 a b c (ins1 a b c (bb a b c n)) = bb a b c (n + 1) := by
  rcases (show n = 0 ∨ n = 1 by omega) with rfl | rfl
  · rfl
  · simp only [bb]
    unfold od bs1 ins1
    simp only [pk]
    by_cases h1 : a < b <;> by_cases h2 : a < c <;> by_cases h3 : b < c <;> by_cases h4 : b < a <;> by_cases h5 : c < a <;> by_cases h6 : c < b <;> first | (exfalso; omega) | simp [h1, h2, h3, h4, h5, h6]
/-- A rule: has it ended, what it makes of a triple, what becomes of a row. -/
def rEnd (k : Nat) (b c : Int) : Bool := match k with | 0 => b == 0 | 1 => c == 0 | 2 => b == 0 | _ => c == 0
def rSub (k : Nat) (a b c : Int) : Int × Int × Int := match k with | 0 => (a - b, b, c) | 1 => (a - c, b, c) | 2 => (a - b, b - c, c) | _ => (a - c, b - c, c)
def rAdd (k : Nat) (x y z : Int) : Int × Int × Int := match k with | 0 => (x, x + y, z) | 1 => (x, y, x + z) | 2 => (x, x + y, x + y + z) | _ => (x, y, x + y + z)
def stT (k : Nat) (a b c : Int) : Int × Int × Int := st3 (rSub k a b c).1 (rSub k a b c).2.1 (rSub k a b c).2.2
set_option maxHeartbeats 3200000 in
theorem l07Order_any (a b c : Int) (w : World) : Calls Try.prog 86 #[.agg #[.int .i64 a, .int .i64 b, .int .i64 c]] w fun e w' => ∃ g, e = .returned (.slice (some ⟨g, 0, none⟩) 3 3) ∧ w.heap.size ≤ g ∧ Bk3 w' g ((od a b c).1 : Int) ((od a b c).2.1 : Int) ((od a b c).2.2 : Int) ∧ Below w.heap.size w w' := by
  obtain ⟨GT, hG⟩ : ∃ G, w.heap.size = G := ⟨_, rfl⟩
  have HG := Lib.hid hG
  go_enter Try.func86, Try.ntmps86
  go_upto_region 2 with fail
  obtain ⟨w0, hw0⟩ : ∃ w0, w0 = ((w.alloc (.cells #[.int .i64 a, .int .i64 b, .int .i64 c] 24)).alloc (.cells #[.int .i64 0, .int .i64 1, .int .i64 2] 2)) := ⟨_, rfl⟩
  rw [← hw0]
  have HT : Hid (Bk3 w0 GT a b c) := by
    have h := (bk3_new w a b c 24).below (W' := ((w.alloc (.cells #[.int .i64 a, .int .i64 b, .int .i64 c] 24)).alloc (.cells #[.int .i64 0, .int .i64 1, .int .i64 2] 2))) (by (repeat' (first | (with_reducible exact Below.refl _ _) | (with_reducible refine Below.alloc ?_ ?_ _) | (with_reducible refine Below.setCell ?_ ?_ _) | (with_reducible refine Below.drew ?_) | (with_reducible refine below_drewN ?_ _) | (with_reducible assumption) | (with_reducible refine below_after (by with_reducible assumption) ?_) | go_size)))
    (try simp only [World.size_alloc] at h)
    rw [hG] at h
    rw [hw0]; exact h
  have HD : Hid (Bk3 w0 (GT + 1) 0 1 2) := by
    have h := (bk3_new (w.alloc (.cells #[.int .i64 a, .int .i64 b, .int .i64 c] 24)) 0 1 2 2).below (W' := ((w.alloc (.cells #[.int .i64 a, .int .i64 b, .int .i64 c] 24)).alloc (.cells #[.int .i64 0, .int .i64 1, .int .i64 2] 2))) (by (repeat' (first | (with_reducible exact Below.refl _ _) | (with_reducible refine Below.alloc ?_ ?_ _) | (with_reducible refine Below.setCell ?_ ?_ _) | (with_reducible refine Below.drew ?_) | (with_reducible refine below_drewN ?_ _) | (with_reducible assumption) | (with_reducible refine below_after (by with_reducible assumption) ?_) | go_size)))
    (try simp only [World.size_alloc] at h)
    rw [hG] at h
    rw [hw0]; exact h
  have HB : Hid (Below w.heap.size w w0) := by show Below w.heap.size w w0; rw [hw0]; (repeat' (first | (with_reducible exact Below.refl _ _) | (with_reducible refine Below.alloc ?_ ?_ _) | (with_reducible refine Below.setCell ?_ ?_ _) | (with_reducible refine Below.drew ?_) | (with_reducible refine below_drewN ?_ _) | (with_reducible assumption) | (with_reducible refine below_after (by with_reducible assumption) ?_) | go_size))
  clear hw0
  obtain ⟨GD, hGD⟩ : ∃ g, GT + 1 = g := ⟨_, rfl⟩
  rw [hGD] at HD ⊢
  have le_T : w.heap.size ≤ GT := by omega
  have le_D : w.heap.size ≤ GD := by omega
  have ne_D_T : GD ≠ GT := by omega
  have ne_T_D : GT ≠ GD := by omega
  clear hGD
  obtain ⟨⟨qT0, qT1, qT2⟩, ⟨fT0, fT1, fT2⟩, zT⟩ := HT.out
  obtain ⟨⟨qD0, qD1, qD2⟩, ⟨fD0, fD1, fD2⟩, zD⟩ := HD.out
  go_wp2_with fail
  clear qT0 fT0 qT1 fT1 qT2 fT2 zT qD0 fD0 qD1 fD1 qD2 fD2 zD
  have HNE := Lib.hid ne_T_D
  have HLE := Lib.hid le_D
  clear ne_T_D ne_D_T le_T le_D
  go_loopw [4] (fun y wr => ∃ (n : Nat) (p q r : Nat), y = .int .i64 (n : Int) ∧ n ≤ 2 ∧ (p, q, r) = bb a b c n ∧ Bk3 wr GT a b c ∧ Bk3 wr GD p q r ∧ Below w.heap.size w wr) (fun y _ => 2 - (intOf y).toNat)
  case atStart => exact ⟨0, 0, 1, 2, rfl, by omega, rfl, HT.out, HD.out, HB.out⟩
  case round =>
    obtain ⟨n, p, q, r, rfl, hn, he, hT, hD, hbel⟩ := hrel
    have HE := Lib.hid he
    have HTr := Lib.hid hT
    have HDr := Lib.hid hD
    have HBr := Lib.hid hbel
    clear he hT hD hbel HT HD HB
    by_cases hn2 : n < 2
    · have HBB := Lib.hid (bb_step a b c hn2)
      have HLT := Lib.hid (bb_lt a b c n)
      have hk0 : decide ((n : Int) < 2) = true := by simp; omega
      go_wp2_with fail
      (try rw [hk0])
      go_loopw [5] (fun y wr => ∃ (i : Nat) (p q r : Nat), y = .int .i64 (i : Int) ∧ i ≤ 2 ∧ lt3 (p, q, r) ∧ (if i = 0 then (p, q, r) = bb a b c n else if i = 1 then (p, q, r) = ins1 a b c (bb a b c n) else (p, q, r) = bb a b c (n + 1)) ∧ Bk3 wr GT a b c ∧ Bk3 wr GD p q r ∧ Below w.heap.size w wr) (fun y _ => 2 - (intOf y).toNat)
      case atStart =>
        refine ⟨0, p, q, r, rfl, by omega, ?_, by rw [if_pos rfl]; exact HE.out, HTr.out, HDr.out, HBr.out⟩
        rw [HE.out]; exact HLT.out
      case round =>
        obtain ⟨i, p, q, r, rfl, hi, hl, hs, hT, hD, hbel⟩ := hrel
        have HL := Lib.hid hl
        have HS := Lib.hid hs
        have HTr := Lib.hid hT
        have HDr := Lib.hid hD
        have HBr := Lib.hid hbel
        clear hl hs hT hD hbel
        rcases (show i = 0 ∨ i = 1 ∨ i = 2 by omega) with rfl | rfl | rfl
        · rw [show ((0 : Nat) : Int) = 0 from rfl]
          have hw1 : IntKind.i64.wrap 1 = 1 := by rw [IntKind.wrap_i64]; omega
          obtain ⟨⟨i0, i1, i2⟩, ⟨f0, f1, f2⟩, hzD⟩ := HDr.out
          have hzT := HTr.out.2.2
          have tu := HTr.out.at (p := p) HL.out.1
          have tv := HTr.out.at (p := q) HL.out.2.1
          obtain ⟨X, hX⟩ : ∃ X, pk p a b c = X := ⟨_, rfl⟩
          obtain ⟨Y, hY⟩ : ∃ Y, pk q a b c = Y := ⟨_, rfl⟩
          rw [hX] at tu
          rw [hY] at tv
          obtain ⟨l1, l2, l3⟩ := HL.out
          simp only at l1 l2 l3
          have p0 : (0 : Int) ≤ (p : Int) := by omega
          have p1 : (p : Int) < 3 := by omega
          have q0 : (0 : Int) ≤ (q : Int) := by omega
          have q1 : (q : Int) < 3 := by omega
          have r0 : (0 : Int) ≤ (r : Int) := by omega
          have r1 : (r : Int) < 3 := by omega
          clear l1 l2 l3
          go_upto_region 8 with fail
          go_quiet (fail)
          by_cases hlt : pk p a b c < pk q a b c
          · have HS2 : Hid ((q, p, r) = ins1 a b c (bb a b c n)) := by
              have e := HS.out
              simp only [if_true] at e
              show _ = _
              rw [← e, ins1, if_pos hlt]
            rw [hX, hY] at hlt
            clear hX hY
            go_wp2_with fail
            go_roundw
            case rel =>
              refine ⟨0 + 1, q, p, r, by first | rfl | go_num, by omega, ?_, (by rw [if_neg (by decide), if_pos rfl]; exact HS2.out), ?_, ?_, ?_⟩
              · exact ⟨HL.out.2.1, HL.out.1, HL.out.2.2⟩
              · exact (Bk3.far (W := wr.drewN nq) HTr.out ⟨GD, 0, none⟩ _ (by show GT ≠ GD; exact HNE.out)).far ⟨GD, 1, none⟩ _ (by show GT ≠ GD; exact HNE.out)
              · exact (Bk3.set1 (W := (wr.drewN nq).setCell ⟨GD, 0, none⟩ _) (Bk3.set0 (W := wr.drewN nq) HDr.out q) p)
              · exact Below.setCell (Below.setCell (below_drewN HBr.out nq) (by exact HLE.out) _) (by exact HLE.out) _
            case measure => simp only [intOf]; omega
          · have HS2 : Hid ((p, q, r) = ins1 a b c (bb a b c n)) := by
              have e := HS.out
              simp only [if_true] at e
              show _ = _
              rw [← e, ins1, if_neg hlt]
            rw [hX, hY] at hlt
            clear hX hY
            go_wp2_with fail
            go_roundw
            case rel => exact ⟨0 + 1, p, q, r, by first | rfl | go_num, by omega, HL.out, (by rw [if_neg (by decide), if_pos rfl]; exact HS2.out), HTr.out, HDr.out, below_drewN HBr.out nq⟩
            case measure => simp only [intOf]; omega
        · rw [show ((1 : Nat) : Int) = 1 from rfl]
          have hw2 : IntKind.i64.wrap 2 = 2 := by rw [IntKind.wrap_i64]; omega
          obtain ⟨⟨i0, i1, i2⟩, ⟨f0, f1, f2⟩, hzD⟩ := HDr.out
          have hzT := HTr.out.2.2
          have tu := HTr.out.at (p := q) HL.out.2.1
          have tv := HTr.out.at (p := r) HL.out.2.2
          obtain ⟨X, hX⟩ : ∃ X, pk q a b c = X := ⟨_, rfl⟩
          obtain ⟨Y, hY⟩ : ∃ Y, pk r a b c = Y := ⟨_, rfl⟩
          rw [hX] at tu
          rw [hY] at tv
          obtain ⟨l1, l2, l3⟩ := HL.out
          simp only at l1 l2 l3
          have p0 : (0 : Int) ≤ (p : Int) := by omega
          have p1 : (p : Int) < 3 := by omega
          have q0 : (0 : Int) ≤ (q : Int) := by omega
          have q1 : (q : Int) < 3 := by omega
          have r0 : (0 : Int) ≤ (r : Int) := by omega
          have r1 : (r : Int) < 3 := by omega
          clear l1 l2 l3
          go_upto_region 8 with fail
          go_quiet (fail)
          by_cases hlt : pk q a b c < pk r a b c
          · have HS2 : Hid ((p, r, q) = bb a b c (n + 1)) := by
              have e := HS.out
              simp only [if_neg (show ¬ (1 = 0) by decide), if_true] at e
              show _ = _
              rw [← HBB.out, ← e, bs1, if_pos hlt]
            rw [hX, hY] at hlt
            clear hX hY
            go_wp2_with fail
            go_roundw
            case rel =>
              refine ⟨1 + 1, p, r, q, by first | rfl | go_num, by omega, ?_, (by rw [if_neg (by decide), if_neg (by decide)]; exact HS2.out), ?_, ?_, ?_⟩
              · exact ⟨HL.out.1, HL.out.2.2, HL.out.2.1⟩
              · exact (Bk3.far (W := wr.drewN nq) HTr.out ⟨GD, 1, none⟩ _ (by show GT ≠ GD; exact HNE.out)).far ⟨GD, 2, none⟩ _ (by show GT ≠ GD; exact HNE.out)
              · exact (Bk3.set2 (W := (wr.drewN nq).setCell ⟨GD, 1, none⟩ _) (Bk3.set1 (W := wr.drewN nq) HDr.out r) q)
              · exact Below.setCell (Below.setCell (below_drewN HBr.out nq) (by exact HLE.out) _) (by exact HLE.out) _
            case measure => simp only [intOf]; omega
          · have HS2 : Hid ((p, q, r) = bb a b c (n + 1)) := by
              have e := HS.out
              simp only [if_neg (show ¬ (1 = 0) by decide), if_true] at e
              show _ = _
              rw [← HBB.out, ← e, bs1, if_neg hlt]
            rw [hX, hY] at hlt
            clear hX hY
            go_wp2_with fail
            go_roundw
            case rel => exact ⟨1 + 1, p, q, r, by first | rfl | go_num, by omega, HL.out, (by rw [if_neg (by decide), if_neg (by decide)]; exact HS2.out), HTr.out, HDr.out, below_drewN HBr.out nq⟩
            case measure => simp only [intOf]; omega
        · rw [show ((2 : Nat) : Int) = 2 from rfl]
          go_wp2_with fail
          go_roundw
          case rel =>
            have e := HS.out
            simp only [if_neg (show ¬ (2 = 0) by decide), if_neg (show ¬ (2 = 1) by decide)] at e
            exact ⟨n + 1, p, q, r, by go_num, by omega, e, HTr.out, HDr.out, HBr.out⟩
          case measure => simp only [intOf]; omega
    · have hn3 : n = 2 := by omega
      subst hn3
      rw [show ((2 : Nat) : Int) = 2 from rfl]
      have e : (p, q, r) = od a b c := HE.out
      go_wp2_with fail
      refine bodyPost_ret (v := .slice (some ⟨GD, 0, none⟩) 3 3) (by simp (maxDischargeDepth := 8) [results, Try.results86, go_sem, *]) rfl ?_
      refine ⟨GD, rfl, HLE.out, ?_, HBr.out⟩
      rw [← e]
      exact HDr.out
end Go.Proofs.Ytbgifgfegndlkaa
