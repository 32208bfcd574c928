/-
  Contracts of chapter 3's lengths and sines: the model's parts, every second number of a list, SailLengths and SailSines on both sides up to the sequence (own work; written by tools/mklen.py).
-/
import Derived.Test.YtjiaokcbhpmodaaVtx
namespace Go.Proofs.Ytjiaokcbhpmodaa
open Go.ChangeShapes Go.WideShapes Go.ChangeAt Go.RowKit
set_option linter.unusedVariables false
set_option linter.unusedSimpArgs false

theorem own_snocI {B : Nat} {w : World} {v : Value} {xs : List Int} {x : Int} {n : Nat} (h : w.ownsRow B 2 1 v n (xs.map (Value.int .i64) ++ [.int .i64 x])) (hn : n = xs.length + 1) : OwnI B w v (xs ++ [x]) := by
  subst hn
  show World.ownsRow _ _ _ _ _ (xs ++ [x]).length _
  rw [List.length_append, List.map_append]
  exact h
/-- A list of int64 of a call, with its length. -/
theorem own_viewI {B : Nat} {w : World} {v : Value} {xs : List Int} (h : OwnI B w v xs) : ∃ a cp, v = .slice a xs.length cp := by
  obtain ⟨a, cp, rfl, _⟩ := own_view h
  exact ⟨a, cp, rfl⟩
def RetII (w : World) (xs ys : List Int) (e : Ending) (w' : World) : Prop := ∃ v1 v2, e = .returned (.tuple #[v1, v2]) ∧ OwnI w.heap.size w' v1 xs ∧ OwnI w.heap.size w' v2 ys ∧ Below w.heap.size w w'
def RetIC (w : World) (xs : List Int) (c : Int) (e : Ending) (w' : World) : Prop := ∃ v, e = .returned (.tuple #[v, .int .i64 c]) ∧ OwnI w.heap.size w' v xs ∧ Below w.heap.size w w'
set_option maxHeartbeats 16000000 in
theorem l03Parts_some (cs : List Int) (q cp n : Nat) (w : World) (hN : cs.length = n) (h2 : 2 ≤ n) (hl : n ≤ 2000) (hnum : NumAt w q cs) (hc : ∀ k, k < cs.length → 2 ≤ cs.getD k 0 ∧ cs.getD k 0 ≤ 2000000000000) :
    Calls Try.prog 50 #[.slice (some ⟨q, 0, none⟩) n cp] w (RetII w (lnS cs) (snS cs)) := by
  obtain ⟨ti0, hi, hz0, hz1, hz2⟩ := info_parts info_int
  have HN := Lib.hid hN
  have HL := Lib.hid hl
  have H2 := Lib.hid h2
  have HNUM := Lib.hid hnum
  have HCB := Lib.hid hc
  obtain ⟨RX, hRX⟩ : ∃ R, lnS cs = R := ⟨_, rfl⟩
  obtain ⟨RY, hRY⟩ : ∃ R, snS cs = R := ⟨_, rfl⟩
  rw [hRX, hRY]
  have HRX := Lib.hid hRX
  have HRY := Lib.hid hRY
  have HLS0 : Hid (LS cs 1 [] [] 0) := LS.start (by rw [hN]; exact h2)
  have hqw : q < w.heap.size := hnum.1
  have j1 : IntKind.i64.wrap ((n : Int) - 1) = (n : Int) - 1 := by rw [IntKind.wrap_i64]; omega
  have j2 : (n : Int) ≤ 2000 := by omega
  clear hN h2 hl hnum hc hRX hRY
  go_enter Try.func50, Try.ntmps50
  go_wp2
  obtain ⟨wB, hwB⟩ : ∃ wB, (w.alloc (.cells #[] 2)).alloc (.cells #[] 2) = wB := ⟨_, rfl⟩
  have OX : Hid (OwnI w.heap.size wB (.slice (some ⟨w.heap.size, 0, none⟩) 0 0) []) := by
    rw [← hwB]
    exact own_below (World.ownsRow_made w #[] 0 (Nat.le_refl _) (Nat.zero_le _) rfl) ((Below.refl _ _).alloc (Nat.le_refl _) _)
  have OY : Hid (OwnI w.heap.size wB (.slice (some ⟨w.heap.size + 1, 0, none⟩) 0 0) []) := by
    rw [← hwB]
    have := World.ownsRow_made (w.alloc (.cells #[] 2)) #[] (e := 2) (size := 1) 0 (Nat.le_refl _) (Nat.zero_le _) rfl
    rw [World.size_alloc] at this
    exact own_up this (by omega)
  have HBB : Hid (Below w.heap.size w wB) := by
    show Below w.heap.size w wB
    rw [← hwB]; (repeat' (first | (with_reducible exact Below.refl _ _) | (with_reducible refine Below.alloc ?_ ?_ _) | (with_reducible refine Below.setCell ?_ ?_ _) | (with_reducible refine Below.drew ?_) | (with_reducible refine below_drewN ?_ _) | (with_reducible assumption) | (with_reducible refine below_after (by with_reducible assumption) ?_) | go_size))
  have HNB := Lib.hid (NumAt.kp HNUM.out (Kp.below HNUM.out.1 HBB.out))
  rw [hwB]
  clear hwB
  go_loopw [4, 5, 6, 7] (fun vx vy nw i wr => ∃ (k : Nat) (xs ys : List Int) (now : Int) (xa : Option Addr) (xc : Nat) (ya : Option Addr) (yc : Nat), k ≤ n ∧ vx = .slice xa xs.length xc ∧ vy = .slice ya ys.length yc ∧ nw = .int .i64 now ∧ i = .int .i64 (k : Int) ∧ LS cs k xs ys now ∧ OwnI w.heap.size wr (.slice xa xs.length xc) xs ∧ OwnI w.heap.size wr (.slice ya ys.length yc) ys ∧ (Value.slice xa xs.length xc).ownBlock ≠ some q ∧ (Value.slice ya ys.length yc).ownBlock ≠ some q ∧ (∀ k, (Value.slice xa xs.length xc).ownBlock = some k → (Value.slice ya ys.length yc).ownBlock ≠ some k) ∧ Kp wB wr q ∧ Below w.heap.size w wr) (fun _ _ _ i _ => n - (intOf i).toNat)
  case atStart => exact ⟨1, [], [], 0, _, 0, _, 0, by have := H2.out; omega, rfl, rfl, rfl, rfl, HLS0.out, OX.out, OY.out, by show some w.heap.size ≠ some q; simp; omega, by show some (w.heap.size + 1) ≠ some q; simp; omega, by
    intro k h h'
    have h1 : some w.heap.size = some k := h
    have h2 : some (w.heap.size + 1) = some k := h'
    rw [← h1] at h2; simp at h2, Kp.refl HNB.out.1, HBB.out⟩
  case round =>
    obtain ⟨k, xs, ys, now, xa, xc, ya, yc, hkn, rfl, rfl, rfl, rfl, hls, hX, hY, hxq, hyq, hxy, hkq, hbel⟩ := hrel
    have HX := Lib.hid hX
    have HY := Lib.hid hY
    have HXQ := Lib.hid hxq
    have HYQ := Lib.hid hyq
    have HXY := Lib.hid hxy
    have HKQ := Lib.hid hkq
    have HBL := Lib.hid hbel
    have HKN := Lib.hid hkn
    have HLS := Lib.hid hls
    obtain ⟨lb1, lb2, lb3, lb4⟩ := hls.len
    have lb5 : 1 ≤ k := by omega
    by_cases hlt : k < n
    · obtain ⟨C, hC⟩ : ∃ C, cs.getD k 0 = C := ⟨_, rfl⟩
      have HC := Lib.hid hC
      have c0 := (NumAt.kp HNB.out hkq).2 k (by rw [HN.out]; exact hlt)
      have hcb := HCB.out k (by rw [HN.out]; exact hlt)
      rw [hC] at c0 hcb
      obtain ⟨cb1, cb2⟩ := hcb
      have i0 : (0 : Int) ≤ (k : Int) := by omega
      have i1 : (k : Int) < (n : Int) := by omega
      have i3 : IntKind.i64.wrap (now + 1) = now + 1 := by rw [IntKind.wrap_i64]; have := HL.out; omega
      have i4 : IntKind.i64.wrap (C - 2) = C - 2 := by rw [IntKind.wrap_i64]; omega
      have HLT := Lib.hid hlt
      clear hC
      by_cases hlast : k + 1 = n
      · have e3 : ((k : Int) == (n : Int) - 1) = true := by
          have : (k : Int) = (n : Int) - 1 := by omega
          rw [this]; simp
        have e5 : (n : Int) - 1 = (k : Int) := by omega
        have e6 : ¬ (k : Int) < (n : Int) - 1 := by omega
        have e7 : decide ((k : Int) < (n : Int) - 1) = false := decide_eq_false e6
        have HST : Hid (LS cs (k + 1) (xs ++ [now + 1]) ys 0) := hls.last (by rw [HN.out]; exact hlast)
        clear hX hY hxq hyq hxy hkq hbel hls hkn e3 e6 e7
        go_wp2_with (first | (at_builtin; refine wpList_append_own_at _ rfl _ _ 32 rfl w.heap.size 2 ti0 (.int .i64 0) 1 8 Try.underlying32 hi hz0 hz1 hz2 rfl (by decide) _ _ _ rfl (own_below HX.out ?hb) ⟨_, 0, none⟩ 1 1 [.int .i64 (now + 1)] rfl rfl ?c1 ?c2 ?c3 ?c4 ?c5 ?_))
        case hb => (repeat' (first | (with_reducible exact Below.refl _ _) | (with_reducible refine Below.alloc ?_ ?_ _) | (with_reducible refine Below.setCell ?_ ?_ _) | (with_reducible refine Below.drew ?_) | (with_reducible refine below_drewN ?_ _) | (with_reducible assumption) | (with_reducible refine below_after (by with_reducible assumption) ?_) | go_size))
        try (case c1 =>
               intro j u hj
               match j, hj with
               | 0, hj => simp at hj; subst hj; simp [Addr.add])
        try (case c2 => first | rfl | (intro u hu; simp at hu; subst hu; rfl))
        case c3 => have := HLS.out.len; have := HKN.out; have := HL.out; unfold maxLen; omega
        case c4 => have := HLS.out.len; have := HKN.out; have := HL.out; omega
        case c5 => first | (have h1 := HBL.out.size; (try simp only [World.size_alloc]); omega) | exact Below.size (below_after (w := wr) (by (repeat' (first | (with_reducible exact Below.refl _ _) | (with_reducible refine Below.alloc ?_ ?_ _) | (with_reducible refine Below.setCell ?_ ?_ _) | (with_reducible refine Below.drew ?_) | (with_reducible refine below_drewN ?_ _) | (with_reducible assumption) | (with_reducible refine below_after (by with_reducible assumption) ?_) | go_size))) HBL.out)
        intro v' w1 hown' hgrow hnil hat
        have hb1 : Below w.heap.size w w1 := Below.grown (below_after (w := wr) (by (repeat' (first | (with_reducible exact Below.refl _ _) | (with_reducible refine Below.alloc ?_ ?_ _) | (with_reducible refine Below.setCell ?_ ?_ _) | (with_reducible refine Below.drew ?_) | (with_reducible refine below_drewN ?_ _) | (with_reducible assumption) | (with_reducible refine below_after (by with_reducible assumption) ?_) | go_size))) HBL.out) hgrow (Below.size (below_after (w := wr) (by (repeat' (first | (with_reducible exact Below.refl _ _) | (with_reducible refine Below.alloc ?_ ?_ _) | (with_reducible refine Below.setCell ?_ ?_ _) | (with_reducible refine Below.drew ?_) | (with_reducible refine below_drewN ?_ _) | (with_reducible assumption) | (with_reducible refine below_after (by with_reducible assumption) ?_) | go_size))) HBL.out)) (fun k hk => (World.ownsRow.lt HX.out k hk).1)
        have hkq : Kp wr w1 q := kp_app HKQ.out.1 hgrow HXQ.out
        have hxq : v'.ownBlock ≠ some q := far_app hat HXQ.out HKQ.out.1
        have c0b := hkq.cell.trans c0
        have hy1 : OwnI w.heap.size w1 (.slice ya ys.length yc) ys := World.ownsRow.kept (own_below HY.out ((Below.refl _ _).alloc (Nat.le_refl _) _)) hgrow (by
          cases h0 : (Value.slice ya ys.length yc).ownBlock with
          | none => exact .inl rfl
          | some k => exact .inr (fun e => HXY.out k e.symm h0))
        have hxy : ∀ k, v'.ownBlock = some k → (Value.slice ya ys.length yc).ownBlock ≠ some k := by
          intro k hk hk2
          have h1 := (World.ownsRow.lt HY.out k hk2).2
          exact far_app hat (q := k) (fun e => HXY.out k e hk2) h1 hk
        have HX1 := Lib.hid (own_snocI hown' rfl)
        have HY1 := Lib.hid hy1
        have HB1 := Lib.hid hb1
        have HKQ1 := Lib.hid (HKQ.out.trans hkq)
        have HXQ1 := Lib.hid hxq
        have HXY1 := Lib.hid hxy
        clear hown' hgrow hnil hat hb1 hkq hxq hy1 hxy
        obtain ⟨xa1, xc1, rfl⟩ := own_viewI HX1.out
        go_wp2
        go_roundw
        case rel =>
          exact ⟨k + 1, xs ++ [now + 1], ys, 0, xa1, xc1, ya, yc, by have := HLT.out; omega, by first | rfl | (simp; done), rfl, rfl, by go_num, HST.out, HX1.out, HY1.out, HXQ1.out, HYQ.out, HXY1.out, HKQ1.out, HB1.out⟩
        case measure => have := HLT.out; simp [intOf]; omega
      · have e3 : ((k : Int) == (n : Int) - 1) = false := by
          cases h : ((k : Int) == (n : Int) - 1)
          · rfl
          · simp only [beq_iff_eq] at h; omega
        have e4 : ¬ (k : Int) = (n : Int) - 1 := by omega
        have e6 : (k : Int) < (n : Int) - 1 := by omega
        have e7 : decide ((k : Int) < (n : Int) - 1) = true := decide_eq_true e6
        by_cases hc2 : 2 < C
        · have HST : Hid (LS cs (k + 1) (xs ++ [now + 1]) (ys ++ [C - 2]) 0) := by
            have := hls.cut (by rw [HN.out]; omega) (by rw [HC.out]; exact hc2)
            rw [HC.out] at this
            exact this
          clear hX hY hxq hyq hxy hkq hbel hls hkn
          go_wp2_with (first | (at_builtin; refine wpList_append_own_at _ rfl _ _ 32 rfl w.heap.size 2 ti0 (.int .i64 0) 1 8 Try.underlying32 hi hz0 hz1 hz2 rfl (by decide) _ _ _ rfl (own_below HX.out ?hb) ⟨_, 0, none⟩ 1 1 [.int .i64 (now + 1)] rfl rfl ?c1 ?c2 ?c3 ?c4 ?c5 ?_))
          case hb => (repeat' (first | (with_reducible exact Below.refl _ _) | (with_reducible refine Below.alloc ?_ ?_ _) | (with_reducible refine Below.setCell ?_ ?_ _) | (with_reducible refine Below.drew ?_) | (with_reducible refine below_drewN ?_ _) | (with_reducible assumption) | (with_reducible refine below_after (by with_reducible assumption) ?_) | go_size))
          try (case c1 =>
                 intro j u hj
                 match j, hj with
                 | 0, hj => simp at hj; subst hj; simp [Addr.add])
          try (case c2 => first | rfl | (intro u hu; simp at hu; subst hu; rfl))
          case c3 => have := HLS.out.len; have := HKN.out; have := HL.out; unfold maxLen; omega
          case c4 => have := HLS.out.len; have := HKN.out; have := HL.out; omega
          case c5 => first | (have h1 := HBL.out.size; (try simp only [World.size_alloc]); omega) | exact Below.size (below_after (w := wr) (by (repeat' (first | (with_reducible exact Below.refl _ _) | (with_reducible refine Below.alloc ?_ ?_ _) | (with_reducible refine Below.setCell ?_ ?_ _) | (with_reducible refine Below.drew ?_) | (with_reducible refine below_drewN ?_ _) | (with_reducible assumption) | (with_reducible refine below_after (by with_reducible assumption) ?_) | go_size))) HBL.out)
          intro v' w1 hown' hgrow hnil hat
          have hb1 : Below w.heap.size w w1 := Below.grown (below_after (w := wr) (by (repeat' (first | (with_reducible exact Below.refl _ _) | (with_reducible refine Below.alloc ?_ ?_ _) | (with_reducible refine Below.setCell ?_ ?_ _) | (with_reducible refine Below.drew ?_) | (with_reducible refine below_drewN ?_ _) | (with_reducible assumption) | (with_reducible refine below_after (by with_reducible assumption) ?_) | go_size))) HBL.out) hgrow (Below.size (below_after (w := wr) (by (repeat' (first | (with_reducible exact Below.refl _ _) | (with_reducible refine Below.alloc ?_ ?_ _) | (with_reducible refine Below.setCell ?_ ?_ _) | (with_reducible refine Below.drew ?_) | (with_reducible refine below_drewN ?_ _) | (with_reducible assumption) | (with_reducible refine below_after (by with_reducible assumption) ?_) | go_size))) HBL.out)) (fun k hk => (World.ownsRow.lt HX.out k hk).1)
          have hkq : Kp wr w1 q := kp_app HKQ.out.1 hgrow HXQ.out
          have hxq : v'.ownBlock ≠ some q := far_app hat HXQ.out HKQ.out.1
          have c0b := hkq.cell.trans c0
          have hy1 : OwnI w.heap.size w1 (.slice ya ys.length yc) ys := World.ownsRow.kept (own_below HY.out ((Below.refl _ _).alloc (Nat.le_refl _) _)) hgrow (by
            cases h0 : (Value.slice ya ys.length yc).ownBlock with
            | none => exact .inl rfl
            | some k => exact .inr (fun e => HXY.out k e.symm h0))
          have hxy : ∀ k, v'.ownBlock = some k → (Value.slice ya ys.length yc).ownBlock ≠ some k := by
            intro k hk hk2
            have h1 := (World.ownsRow.lt HY.out k hk2).2
            exact far_app hat (q := k) (fun e => HXY.out k e hk2) h1 hk
          have HX1 := Lib.hid (own_snocI hown' rfl)
          have HY1 := Lib.hid hy1
          have HB1 := Lib.hid hb1
          have HKQ1 := Lib.hid (HKQ.out.trans hkq)
          have HXQ1 := Lib.hid hxq
          have HXY1 := Lib.hid hxy
          clear hown' hgrow hnil hat hb1 hkq hxq hy1 hxy
          obtain ⟨xa1, xc1, rfl⟩ := own_viewI HX1.out
          go_wp2_with (first | (at_builtin; refine wpList_append_own_at _ rfl _ _ 32 rfl w.heap.size 2 ti0 (.int .i64 0) 1 8 Try.underlying32 hi hz0 hz1 hz2 rfl (by decide) _ _ _ rfl (own_below HY1.out ?hb) ⟨_, 0, none⟩ 1 1 [.int .i64 (C - 2)] rfl rfl ?c1 ?c2 ?c3 ?c4 ?c5 ?_))
          case hb => (repeat' (first | (with_reducible exact Below.refl _ _) | (with_reducible refine Below.alloc ?_ ?_ _) | (with_reducible refine Below.setCell ?_ ?_ _) | (with_reducible refine Below.drew ?_) | (with_reducible refine below_drewN ?_ _) | (with_reducible assumption) | (with_reducible refine below_after (by with_reducible assumption) ?_) | go_size))
          try (case c1 =>
                 intro j u hj
                 match j, hj with
                 | 0, hj => simp at hj; subst hj; simp [Addr.add])
          try (case c2 => first | rfl | (intro u hu; simp at hu; subst hu; rfl))
          case c3 => have := HLS.out.len; have := HKN.out; have := HL.out; unfold maxLen; omega
          case c4 => have := HLS.out.len; have := HKN.out; have := HL.out; omega
          case c5 => first | (have h1 := HB1.out.size; (try simp only [World.size_alloc]); omega) | exact Below.size (below_after (w := w1) (by (repeat' (first | (with_reducible exact Below.refl _ _) | (with_reducible refine Below.alloc ?_ ?_ _) | (with_reducible refine Below.setCell ?_ ?_ _) | (with_reducible refine Below.drew ?_) | (with_reducible refine below_drewN ?_ _) | (with_reducible assumption) | (with_reducible refine below_after (by with_reducible assumption) ?_) | go_size))) HB1.out)
          intro v'' w2 hown' hgrow hnil hat
          have hb1 : Below w.heap.size w w2 := Below.grown (below_after (w := w1) (by (repeat' (first | (with_reducible exact Below.refl _ _) | (with_reducible refine Below.alloc ?_ ?_ _) | (with_reducible refine Below.setCell ?_ ?_ _) | (with_reducible refine Below.drew ?_) | (with_reducible refine below_drewN ?_ _) | (with_reducible assumption) | (with_reducible refine below_after (by with_reducible assumption) ?_) | go_size))) HB1.out) hgrow (Below.size (below_after (w := w1) (by (repeat' (first | (with_reducible exact Below.refl _ _) | (with_reducible refine Below.alloc ?_ ?_ _) | (with_reducible refine Below.setCell ?_ ?_ _) | (with_reducible refine Below.drew ?_) | (with_reducible refine below_drewN ?_ _) | (with_reducible assumption) | (with_reducible refine below_after (by with_reducible assumption) ?_) | go_size))) HB1.out)) (fun k hk => (World.ownsRow.lt HY1.out k hk).1)
          have hkq : Kp w1 w2 q := kp_app HKQ1.out.1 hgrow HYQ.out
          have hyq : v''.ownBlock ≠ some q := far_app hat HYQ.out HKQ1.out.1
          have hx2 : OwnI w.heap.size w2 (.slice xa1 (xs ++ [now + 1]).length xc1) (xs ++ [now + 1]) := World.ownsRow.kept (own_below HX1.out ((Below.refl _ _).alloc (Nat.le_refl _) _)) hgrow (by
            cases h0 : (Value.slice xa1 (xs ++ [now + 1]).length xc1).ownBlock with
            | none => exact .inl rfl
            | some k => exact .inr (fun e => HXY1.out k h0 e.symm))
          have hxy : ∀ k, (Value.slice xa1 (xs ++ [now + 1]).length xc1).ownBlock = some k → v''.ownBlock ≠ some k := by
            intro k hk hk2
            have h1 := (World.ownsRow.lt HX1.out k hk).2
            exact far_app hat (q := k) (fun e => HXY1.out k hk e) h1 hk2
          have HY2 := Lib.hid (own_snocI hown' rfl)
          have HX2 := Lib.hid hx2
          have HB2 := Lib.hid hb1
          have HKQ2 := Lib.hid (HKQ1.out.trans hkq)
          have HYQ2 := Lib.hid hyq
          have HXY2 := Lib.hid hxy
          clear hown' hgrow hnil hat hb1 hkq hyq hx2 hxy
          obtain ⟨ya2, yc2, rfl⟩ := own_viewI HY2.out
          go_wp2
          go_roundw
          case rel =>
            exact ⟨k + 1, xs ++ [now + 1], ys ++ [C - 2], 0, xa1, xc1, ya2, yc2, by have := HLT.out; omega, by first | rfl | (simp; done), by first | rfl | (simp; done), rfl, by go_num, HST.out, HX2.out, HY2.out, HXQ1.out, HYQ2.out, HXY2.out, HKQ2.out, HB2.out⟩
          case measure => have := HLT.out; simp [intOf]; omega
        · have HST : Hid (LS cs (k + 1) xs ys (now + 1)) := hls.on (by rw [HN.out]; omega) (by rw [HC.out]; exact hc2)
          have e8 : C ≤ 2 := by omega
          clear hX hY hxq hyq hxy hkq hbel hls hkn
          go_wp2
          go_roundw
          case rel =>
            exact ⟨k + 1, xs, ys, now + 1, xa, xc, ya, yc, by have := HLT.out; omega, rfl, rfl, by first | rfl | go_num, by go_num, HST.out, HX.out, HY.out, HXQ.out, HYQ.out, HXY.out, HKQ.out, HBL.out⟩
          case measure => have := HLT.out; simp [intOf]; omega
    · have hkn2 : k = n := by omega
      have hfin := LS.done (cs := cs) (xs := xs) (ys := ys) (now := now) (by rw [HN.out, ← hkn2]; exact hls)
      rw [HRX.out, HRY.out] at hfin
      obtain ⟨rfl, rfl⟩ := hfin
      have i1 : ¬ (k : Int) < (n : Int) := by omega
      clear hX hY hxq hyq hxy hkq hbel hls hkn hlt
      go_wp2
      go_ret2
      exact ⟨_, _, rfl, HX.out, HY.out, HBL.out⟩
theorem everySecond_none (a : Option Addr) (cp : Nat) (f : Int) (w : World) (hf : 0 ≤ f) : Calls Try.prog 51 #[.slice a 0 cp, .int .i64 f] w fun e w' => e = .returned (.slice none 0 0) ∧ w = w' := by
  have hf2 : ¬ f < 0 := by omega
  go_enter Try.func51, Try.ntmps51
  go_wp2
  refine wp_loop_rounds 1 ?_
  rw [rounds_succ]
  go_wp2
  go_ret
  exact ⟨rfl, rfl⟩
set_option maxHeartbeats 4000000 in
theorem everySecond_some (F zs : List Int) (f q cp n m : Nat) (w : World) (hN : F.length = n) (hl : n ≤ 5000) (hf : f ≤ 1) (hM : zs.length = m) (hz : ∀ t, t < m → f + 2 * t < n ∧ F.getD (f + 2 * t) 0 = zs.getD t 0) (he : n ≤ f + 2 * m) (hnum : NumAt w q F) :
    Calls Try.prog 51 #[.slice (some ⟨q, 0, none⟩) n cp, .int .i64 (f : Int)] w (RetI w zs) := by
  obtain ⟨ti0, hi, hz0, hz1, hz2⟩ := info_parts info_int
  have HN := Lib.hid hN
  have HL := Lib.hid hl
  have HF := Lib.hid hf
  have HM := Lib.hid hM
  have HZ := Lib.hid hz
  have HE := Lib.hid he
  have HNUM := Lib.hid hnum
  clear hN hl hf hM hz he hnum
  go_enter Try.func51, Try.ntmps51
  go_wp2
  go_loopw [5, 6] (fun v i wr => ∃ (t : Nat) (ys : List Int) (va : Option Addr) (vc : Nat), t ≤ m ∧ ys = zs.take t ∧ v = .slice va ys.length vc ∧ i = .int .i64 ((f + 2 * t : Nat) : Int) ∧ OwnI w.heap.size wr (.slice va ys.length vc) ys ∧ (Value.slice va ys.length vc).ownBlock ≠ some q ∧ Kp w wr q ∧ Below w.heap.size w wr) (fun _ i _ => n + 2 - (intOf i).toNat)
  case atStart => exact ⟨0, [], none, 0, by omega, by simp, rfl, by simp, World.ownsRow_nil _ _ _ _, by show none ≠ some q; simp, Kp.refl HNUM.out.1, Below.refl _ _⟩
  case round =>
    obtain ⟨t, ys, va, vc, htm, hys, rfl, rfl, hO, hvq, hkq, hbel⟩ := hrel
    have HYS := Lib.hid hys
    have HO := Lib.hid hO
    have HVQ := Lib.hid hvq
    have HKQ := Lib.hid hkq
    have HBL := Lib.hid hbel
    have HTM := Lib.hid htm
    obtain ⟨i, hi'⟩ : ∃ i, f + 2 * t = i := ⟨_, rfl⟩
    have HI := Lib.hid hi'
    rw [hi']
    have lt0 : ys.length ≤ t := by rw [hys]; simp; omega
    have HLT0 := Lib.hid lt0
    by_cases hlt : i < n
    · have hti : t < m := by have := HE.out; omega
      obtain ⟨_, hget⟩ := HZ.out t hti
      obtain ⟨x, hx⟩ : ∃ x, zs.getD t 0 = x := ⟨_, rfl⟩
      have HX := Lib.hid hx
      have c0 := (NumAt.kp HNUM.out hkq).2 i (by rw [HN.out]; exact hlt)
      rw [← hi', hget, hx, hi'] at c0
      have i0 : (0 : Int) ≤ (i : Int) := by omega
      have i1 : (i : Int) < (n : Int) := by omega
      have i2 : (n : Int) ≤ 5000 := by have := HL.out; omega
      have HTI := Lib.hid hti
      have HLT := Lib.hid hlt
      clear hO hvq hkq hbel htm hx hget hi' hys
      go_wp2_with (first | (at_builtin; refine wpList_append_own_at _ rfl _ _ 32 rfl w.heap.size 2 ti0 (.int .i64 0) 1 8 Try.underlying32 hi hz0 hz1 hz2 rfl (by decide) _ _ _ rfl (own_below HO.out ?hb) ⟨_, 0, none⟩ 1 1 [.int .i64 (x)] rfl rfl ?c1 ?c2 ?c3 ?c4 ?c5 ?_))
      case hb => (repeat' (first | (with_reducible exact Below.refl _ _) | (with_reducible refine Below.alloc ?_ ?_ _) | (with_reducible refine Below.setCell ?_ ?_ _) | (with_reducible refine Below.drew ?_) | (with_reducible refine below_drewN ?_ _) | (with_reducible assumption) | (with_reducible refine below_after (by with_reducible assumption) ?_) | go_size))
      try (case c1 =>
             intro j u hj
             match j, hj with
             | 0, hj => simp at hj; subst hj; simp [Addr.add])
      try (case c2 => first | rfl | (intro u hu; simp at hu; subst hu; rfl))
      case c3 => have := HLT0.out; have := HI.out; have := HLT.out; have := HL.out; unfold maxLen; omega
      case c4 => have := HLT0.out; have := HI.out; have := HLT.out; have := HL.out; omega
      case c5 => first | (have h1 := HBL.out.size; (try simp only [World.size_alloc]); omega) | exact Below.size (below_after (w := wr) (by (repeat' (first | (with_reducible exact Below.refl _ _) | (with_reducible refine Below.alloc ?_ ?_ _) | (with_reducible refine Below.setCell ?_ ?_ _) | (with_reducible refine Below.drew ?_) | (with_reducible refine below_drewN ?_ _) | (with_reducible assumption) | (with_reducible refine below_after (by with_reducible assumption) ?_) | go_size))) HBL.out)
      intro v' w1 hown' hgrow hnil hat
      have hb1 : Below w.heap.size w w1 := Below.grown (below_after (w := wr) (by (repeat' (first | (with_reducible exact Below.refl _ _) | (with_reducible refine Below.alloc ?_ ?_ _) | (with_reducible refine Below.setCell ?_ ?_ _) | (with_reducible refine Below.drew ?_) | (with_reducible refine below_drewN ?_ _) | (with_reducible assumption) | (with_reducible refine below_after (by with_reducible assumption) ?_) | go_size))) HBL.out) hgrow (Below.size (below_after (w := wr) (by (repeat' (first | (with_reducible exact Below.refl _ _) | (with_reducible refine Below.alloc ?_ ?_ _) | (with_reducible refine Below.setCell ?_ ?_ _) | (with_reducible refine Below.drew ?_) | (with_reducible refine below_drewN ?_ _) | (with_reducible assumption) | (with_reducible refine below_after (by with_reducible assumption) ?_) | go_size))) HBL.out)) (fun k hk => (World.ownsRow.lt HO.out k hk).1)
      have hkq : Kp wr w1 q := kp_app HKQ.out.1 hgrow HVQ.out
      have hvq : v'.ownBlock ≠ some q := far_app hat HVQ.out HKQ.out.1
      have hys1 : ys ++ [x] = zs.take (t + 1) := by
        rw [take_snoc zs t (by rw [HM.out]; exact HTI.out), HX.out, HYS.out]
      have hO1 : OwnI w.heap.size w1 v' (ys ++ [x]) := own_snocI hown' rfl
      have HYS1 := Lib.hid hys1
      have HO1 := Lib.hid hO1
      have HB1 := Lib.hid hb1
      have HKQ1 := Lib.hid (HKQ.out.trans hkq)
      have HVQ1 := Lib.hid hvq
      clear hown' hgrow hnil hat hb1 hkq hvq hO1 hys1
      obtain ⟨va1, vc1, rfl⟩ := own_viewI HO1.out
      go_wp2
      go_roundw
      case rel =>
        refine ⟨t + 1, ys ++ [x], va1, vc1, by have := HTI.out; omega, HYS1.out, ?_, ?_, HO1.out, HVQ1.out, HKQ1.out, HB1.out⟩
        · first | rfl | (simp; done)
        · have := HI.out; have e : ((f + 2 * (t + 1) : Nat) : Int) = (i : Int) + 2 := by omega
          rw [e]
      case measure => have := HLT.out; simp [intOf]; omega
    · have htm2 : t = m := by
        apply Nat.le_antisymm htm
        apply Nat.not_lt.1
        intro h
        have := (HZ.out t h).1
        omega
      subst htm2
      have e : ys = zs := by rw [hys, ← HM.out, List.take_length]
      subst e
      have i1 : ¬ (i : Int) < (n : Int) := by omega
      clear hO hvq hkq hbel htm hi' hlt hys
      go_wp2
      go_ret
      exact ⟨_, rfl, HO.out, HBL.out⟩
def lnR (a b : Int × Int) : List Int := if slC a b = 0 then lnS (cnL a b) else []
def snR (a b : Int × Int) : List Int := if slC a b = 0 then snS (cnL a b) else []
def sqR (a b : Int × Int) : List Int := if slC a b = 0 then sqS (cnL a b) else []
theorem cn_len (a b : Int × Int) : (cnL a b).length ≤ 2000 := by
  have h2 := (cnL_of a b).1
  have h3 := slL_len a b
  omega
theorem lnR_len (a b : Int × Int) : (lnR a b).length ≤ 2000 := by
  unfold lnR
  split
  · rw [lnS_len]; have := ptsL_len (cnL a b); have := cn_len a b; omega
  · simp
theorem snR_len (a b : Int × Int) : (snR a b).length ≤ 2000 := by
  unfold snR
  split
  · rw [snS_len]; have := ptsL_len (cnL a b); have := cn_len a b; omega
  · simp
theorem sqR_len (a b : Int × Int) : (sqR a b).length ≤ 4000 := by
  unfold sqR sqS
  split
  · rw [ilv_len _ _ (by rw [lnS_len, snS_len]; omega), lnS_len, snS_len]; have := ptsL_len (cnL a b); have := cn_len a b; omega
  · simp
set_option maxHeartbeats 4000000 in
theorem spec_SailLengths_some (a b c d : Int) (L : List (Int × Int)) (cs : List Int) (n : Nat) (w : World) (hN : L.length = n) (h2 : 2 ≤ n) (hl : n ≤ 2000) (hcs : CsOf L cs)
    (hSP : ∀ w, Calls Try.prog 46 #[.agg #[.int .i64 a, .int .i64 b], .agg #[.int .i64 c, .int .i64 d]] w (RetPNC w L cs 0)) :
    Calls Try.prog 24 #[.agg #[.int .i64 a, .int .i64 b], .agg #[.int .i64 c, .int .i64 d]] w (RetIC w (lnS cs) 0) := by
  have HSP := Lib.hid hSP
  have HN := Lib.hid hN
  have HL := Lib.hid hl
  have H1 : Hid (1 ≤ n) := by show 1 ≤ n; omega
  have H2 := Lib.hid h2
  have HCN : Hid (cs.length = n) := by show cs.length = n; rw [hcs.1, hN]
  have HCB := Lib.hid hcs.2.2.2
  clear hSP hN hl h2 hcs
  have hs20 : w.heap.size < w.heap.size + 1 + 1 := (by omega); have hs30 : w.heap.size < w.heap.size + 1 + 1 + 1 := (by omega); have hs31 : w.heap.size + 1 < w.heap.size + 1 + 1 + 1 := (by omega)
  go_enter Try.func24, Try.ntmps24
  go_wp2_with (first | (go_at_call 46; refine (HSP.out _).mono ?_; rintro e wA hr; obtain ⟨g, cp, q, nc, rfl, hge, hpt, hqw, hnum, hb⟩ := retpnc_num hr HN.out HCN.out H1.out; clear hr; have HNUM := Lib.hid hnum; clear hnum hpt; first | (have h2 := after_call2 hb hcl hfr hlt (by ((repeat' (first | (with_reducible exact Below.refl _ _) | (with_reducible refine Below.alloc ?_ ?_ _) | (with_reducible refine Below.setCell ?_ ?_ _) | (with_reducible refine Below.drew ?_) | (with_reducible refine below_drewN ?_ _) | (with_reducible assumption) | (with_reducible refine below_after (by with_reducible assumption) ?_) | go_size)); done)); obtain ⟨hclx, hfrx, hltx, hsz⟩ := after_call hb; (try simp only [World.size_alloc, World.size_setCell, World.size_drew] at hclx hfrx hltx hsz); (try (have hszl := Nat.lt_of_succ_le hsz)); obtain ⟨hcl, hfr, hlt⟩ := h2) | (obtain ⟨hcl, hfr, hlt, hsz⟩ := after_call hb; (try simp only [World.size_alloc, World.size_setCell, World.size_drew] at hcl hfr hlt hsz))) | (go_at_call 50; refine (l03Parts_some cs q nc n _ HCN.out H2.out HL.out HNUM.out HCB.out).mono ?_; rintro e wB ⟨v1, v2, rfl, ho1, ho2, hb⟩; have HO1 := Lib.hid ho1; have HO2 := Lib.hid ho2; obtain ⟨a1, c1, rfl⟩ := own_viewI ho1; obtain ⟨a2, c2, rfl⟩ := own_viewI ho2; clear ho1 ho2; first | (have h2 := after_call2 hb hcl hfr hlt (by ((repeat' (first | (with_reducible exact Below.refl _ _) | (with_reducible refine Below.alloc ?_ ?_ _) | (with_reducible refine Below.setCell ?_ ?_ _) | (with_reducible refine Below.drew ?_) | (with_reducible refine below_drewN ?_ _) | (with_reducible assumption) | (with_reducible refine below_after (by with_reducible assumption) ?_) | go_size)); done)); obtain ⟨hclx, hfrx, hltx, hsz⟩ := after_call hb; (try simp only [World.size_alloc, World.size_setCell, World.size_drew] at hclx hfrx hltx hsz); (try (have hszl := Nat.lt_of_succ_le hsz)); obtain ⟨hcl, hfr, hlt⟩ := h2) | (obtain ⟨hcl, hfr, hlt, hsz⟩ := after_call hb; (try simp only [World.size_alloc, World.size_setCell, World.size_drew] at hcl hfr hlt hsz))))
  go_ret2
  exact ⟨_, rfl, own_up HO1.out (by have := hge; simp only [World.size_alloc] at *; omega), by (repeat' (first | (with_reducible exact Below.refl _ _) | (with_reducible refine Below.alloc ?_ ?_ _) | (with_reducible refine Below.setCell ?_ ?_ _) | (with_reducible refine Below.drew ?_) | (with_reducible refine below_drewN ?_ _) | (with_reducible assumption) | (with_reducible refine below_after (by with_reducible assumption) ?_) | go_size))⟩
theorem spec_SailLengths_any (a b c d : Int) (w : World) : Calls Try.prog 24 #[.agg #[.int .i64 a, .int .i64 b], .agg #[.int .i64 c, .int .i64 d]] w (RetIC w (lnR (a, b) (c, d)) (slC (a, b) (c, d))) := by
  rcases sl_cases (a, b) (c, d) with ⟨hc, _, _, _, h2, h3⟩ | ⟨hc, hn, _⟩
  · have hSP : ∀ w, Calls Try.prog 46 #[.agg #[.int .i64 a, .int .i64 b], .agg #[.int .i64 c, .int .i64 d]] w (RetPNC w (slL (a, b) (c, d)) (cnL (a, b) (c, d)) 0) := by
      intro w; have := l03Code_any a b c d w; rw [hc] at this; exact this
    unfold lnR
    rw [if_pos hc, hc]
    exact spec_SailLengths_some a b c d _ _ _ w rfl h2 h3 (cnL_of _ _) hSP
  · have hSP : ∀ w, Calls Try.prog 46 #[.agg #[.int .i64 a, .int .i64 b], .agg #[.int .i64 c, .int .i64 d]] w (RetPNC w (slL (a, b) (c, d)) (cnL (a, b) (c, d)) (slC (a, b) (c, d))) := fun w => l03Code_any a b c d w
    unfold lnR
    rw [if_neg hc]
    generalize slC (a, b) (c, d) = C at *
    have HSP := Lib.hid hSP
    have hc2 : (C == 0) = false := by simpa using hc
    have hc3 : ¬ C = 0 := hc
    have hc4 : (C != 0) = true := by simpa using hc
    clear hSP hn
    have hs20 : w.heap.size < w.heap.size + 1 + 1 := (by omega); have hs30 : w.heap.size < w.heap.size + 1 + 1 + 1 := (by omega); have hs31 : w.heap.size + 1 < w.heap.size + 1 + 1 + 1 := (by omega)
    go_enter Try.func24, Try.ntmps24
    go_wp2_with (first | (go_at_call 46; refine (HSP.out _).mono ?_; rintro e wn hr; obtain ⟨va, vn, vc, na, nm, nc, rfl, hb⟩ := retpnc_none hr; clear hr; first | (have h2 := after_call2 hb hcl hfr hlt (by ((repeat' (first | (with_reducible exact Below.refl _ _) | (with_reducible refine Below.alloc ?_ ?_ _) | (with_reducible refine Below.setCell ?_ ?_ _) | (with_reducible refine Below.drew ?_) | (with_reducible refine below_drewN ?_ _) | (with_reducible assumption) | (with_reducible refine below_after (by with_reducible assumption) ?_) | go_size)); done)); obtain ⟨hclx, hfrx, hltx, hsz⟩ := after_call hb; (try simp only [World.size_alloc, World.size_setCell, World.size_drew] at hclx hfrx hltx hsz); (try (have hszl := Nat.lt_of_succ_le hsz)); obtain ⟨hcl, hfr, hlt⟩ := h2) | (obtain ⟨hcl, hfr, hlt, hsz⟩ := after_call hb; (try simp only [World.size_alloc, World.size_setCell, World.size_drew] at hcl hfr hlt hsz))))
    go_ret2
    exact ⟨_, rfl, World.ownsRow_nil _ _ _ _, by (repeat' (first | (with_reducible exact Below.refl _ _) | (with_reducible refine Below.alloc ?_ ?_ _) | (with_reducible refine Below.setCell ?_ ?_ _) | (with_reducible refine Below.drew ?_) | (with_reducible refine below_drewN ?_ _) | (with_reducible assumption) | (with_reducible refine below_after (by with_reducible assumption) ?_) | go_size))⟩
set_option maxHeartbeats 4000000 in
theorem spec_SailSines_some (a b c d : Int) (L : List (Int × Int)) (cs : List Int) (n : Nat) (w : World) (hN : L.length = n) (h2 : 2 ≤ n) (hl : n ≤ 2000) (hcs : CsOf L cs)
    (hSP : ∀ w, Calls Try.prog 46 #[.agg #[.int .i64 a, .int .i64 b], .agg #[.int .i64 c, .int .i64 d]] w (RetPNC w L cs 0)) :
    Calls Try.prog 29 #[.agg #[.int .i64 a, .int .i64 b], .agg #[.int .i64 c, .int .i64 d]] w (RetIC w (snS cs) 0) := by
  have HSP := Lib.hid hSP
  have HN := Lib.hid hN
  have HL := Lib.hid hl
  have H1 : Hid (1 ≤ n) := by show 1 ≤ n; omega
  have H2 := Lib.hid h2
  have HCN : Hid (cs.length = n) := by show cs.length = n; rw [hcs.1, hN]
  have HCB := Lib.hid hcs.2.2.2
  clear hSP hN hl h2 hcs
  have hs20 : w.heap.size < w.heap.size + 1 + 1 := (by omega); have hs30 : w.heap.size < w.heap.size + 1 + 1 + 1 := (by omega); have hs31 : w.heap.size + 1 < w.heap.size + 1 + 1 + 1 := (by omega)
  go_enter Try.func29, Try.ntmps29
  go_wp2_with (first | (go_at_call 46; refine (HSP.out _).mono ?_; rintro e wA hr; obtain ⟨g, cp, q, nc, rfl, hge, hpt, hqw, hnum, hb⟩ := retpnc_num hr HN.out HCN.out H1.out; clear hr; have HNUM := Lib.hid hnum; clear hnum hpt; first | (have h2 := after_call2 hb hcl hfr hlt (by ((repeat' (first | (with_reducible exact Below.refl _ _) | (with_reducible refine Below.alloc ?_ ?_ _) | (with_reducible refine Below.setCell ?_ ?_ _) | (with_reducible refine Below.drew ?_) | (with_reducible refine below_drewN ?_ _) | (with_reducible assumption) | (with_reducible refine below_after (by with_reducible assumption) ?_) | go_size)); done)); obtain ⟨hclx, hfrx, hltx, hsz⟩ := after_call hb; (try simp only [World.size_alloc, World.size_setCell, World.size_drew] at hclx hfrx hltx hsz); (try (have hszl := Nat.lt_of_succ_le hsz)); obtain ⟨hcl, hfr, hlt⟩ := h2) | (obtain ⟨hcl, hfr, hlt, hsz⟩ := after_call hb; (try simp only [World.size_alloc, World.size_setCell, World.size_drew] at hcl hfr hlt hsz))) | (go_at_call 50; refine (l03Parts_some cs q nc n _ HCN.out H2.out HL.out HNUM.out HCB.out).mono ?_; rintro e wB ⟨v1, v2, rfl, ho1, ho2, hb⟩; have HO1 := Lib.hid ho1; have HO2 := Lib.hid ho2; obtain ⟨a1, c1, rfl⟩ := own_viewI ho1; obtain ⟨a2, c2, rfl⟩ := own_viewI ho2; clear ho1 ho2; first | (have h2 := after_call2 hb hcl hfr hlt (by ((repeat' (first | (with_reducible exact Below.refl _ _) | (with_reducible refine Below.alloc ?_ ?_ _) | (with_reducible refine Below.setCell ?_ ?_ _) | (with_reducible refine Below.drew ?_) | (with_reducible refine below_drewN ?_ _) | (with_reducible assumption) | (with_reducible refine below_after (by with_reducible assumption) ?_) | go_size)); done)); obtain ⟨hclx, hfrx, hltx, hsz⟩ := after_call hb; (try simp only [World.size_alloc, World.size_setCell, World.size_drew] at hclx hfrx hltx hsz); (try (have hszl := Nat.lt_of_succ_le hsz)); obtain ⟨hcl, hfr, hlt⟩ := h2) | (obtain ⟨hcl, hfr, hlt, hsz⟩ := after_call hb; (try simp only [World.size_alloc, World.size_setCell, World.size_drew] at hcl hfr hlt hsz))))
  go_ret2
  exact ⟨_, rfl, own_up HO2.out (by have := hge; simp only [World.size_alloc] at *; omega), by (repeat' (first | (with_reducible exact Below.refl _ _) | (with_reducible refine Below.alloc ?_ ?_ _) | (with_reducible refine Below.setCell ?_ ?_ _) | (with_reducible refine Below.drew ?_) | (with_reducible refine below_drewN ?_ _) | (with_reducible assumption) | (with_reducible refine below_after (by with_reducible assumption) ?_) | go_size))⟩
theorem spec_SailSines_any (a b c d : Int) (w : World) : Calls Try.prog 29 #[.agg #[.int .i64 a, .int .i64 b], .agg #[.int .i64 c, .int .i64 d]] w (RetIC w (snR (a, b) (c, d)) (slC (a, b) (c, d))) := by
  rcases sl_cases (a, b) (c, d) with ⟨hc, _, _, _, h2, h3⟩ | ⟨hc, hn, _⟩
  · have hSP : ∀ w, Calls Try.prog 46 #[.agg #[.int .i64 a, .int .i64 b], .agg #[.int .i64 c, .int .i64 d]] w (RetPNC w (slL (a, b) (c, d)) (cnL (a, b) (c, d)) 0) := by
      intro w; have := l03Code_any a b c d w; rw [hc] at this; exact this
    unfold snR
    rw [if_pos hc, hc]
    exact spec_SailSines_some a b c d _ _ _ w rfl h2 h3 (cnL_of _ _) hSP
  · have hSP : ∀ w, Calls Try.prog 46 #[.agg #[.int .i64 a, .int .i64 b], .agg #[.int .i64 c, .int .i64 d]] w (RetPNC w (slL (a, b) (c, d)) (cnL (a, b) (c, d)) (slC (a, b) (c, d))) := fun w => l03Code_any a b c d w
    unfold snR
    rw [if_neg hc]
    generalize slC (a, b) (c, d) = C at *
    have HSP := Lib.hid hSP
    have hc2 : (C == 0) = false := by simpa using hc
    have hc3 : ¬ C = 0 := hc
    have hc4 : (C != 0) = true := by simpa using hc
    clear hSP hn
    have hs20 : w.heap.size < w.heap.size + 1 + 1 := (by omega); have hs30 : w.heap.size < w.heap.size + 1 + 1 + 1 := (by omega); have hs31 : w.heap.size + 1 < w.heap.size + 1 + 1 + 1 := (by omega)
    go_enter Try.func29, Try.ntmps29
    go_wp2_with (first | (go_at_call 46; refine (HSP.out _).mono ?_; rintro e wn hr; obtain ⟨va, vn, vc, na, nm, nc, rfl, hb⟩ := retpnc_none hr; clear hr; first | (have h2 := after_call2 hb hcl hfr hlt (by ((repeat' (first | (with_reducible exact Below.refl _ _) | (with_reducible refine Below.alloc ?_ ?_ _) | (with_reducible refine Below.setCell ?_ ?_ _) | (with_reducible refine Below.drew ?_) | (with_reducible refine below_drewN ?_ _) | (with_reducible assumption) | (with_reducible refine below_after (by with_reducible assumption) ?_) | go_size)); done)); obtain ⟨hclx, hfrx, hltx, hsz⟩ := after_call hb; (try simp only [World.size_alloc, World.size_setCell, World.size_drew] at hclx hfrx hltx hsz); (try (have hszl := Nat.lt_of_succ_le hsz)); obtain ⟨hcl, hfr, hlt⟩ := h2) | (obtain ⟨hcl, hfr, hlt, hsz⟩ := after_call hb; (try simp only [World.size_alloc, World.size_setCell, World.size_drew] at hcl hfr hlt hsz))))
    go_ret2
    exact ⟨_, rfl, World.ownsRow_nil _ _ _ _, by (repeat' (first | (with_reducible exact Below.refl _ _) | (with_reducible refine Below.alloc ?_ ?_ _) | (with_reducible refine Below.setCell ?_ ?_ _) | (with_reducible refine Below.drew ?_) | (with_reducible refine below_drewN ?_ _) | (with_reducible assumption) | (with_reducible refine below_after (by with_reducible assumption) ?_) | go_size))⟩
end Go.Proofs.Ytjiaokcbhpmodaa
