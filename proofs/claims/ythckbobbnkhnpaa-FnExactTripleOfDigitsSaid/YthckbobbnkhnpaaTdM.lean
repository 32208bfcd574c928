/-
  Triples of digits: what both answer; a list of lists that came in, and its view (own work).
-/
import Derived.Test.YthckbobbnkhnpaaRow
import Derived.Test.YthckbobbnkhnpaaLls
import Derived.Test.YthckbobbnkhnpaaTrO
namespace Go.Proofs.Ythckbobbnkhnpaa
open Go.ChangeShapes Go.WideShapes Go.ChangeAt Go.RowKit
set_option linter.unusedVariables false
set_option linter.unusedSimpArgs false
set_option maxRecDepth 100000

/-- One pair of digits. -/
def okP (p : List Int) : Bool := p.length == 2 && wh (p.getD 0 0) && wh (p.getD 1 0)
def okD (xss : List (List Int)) : Bool := xss.all okP && decide (xss.length ≤ 60)
/-- The triple made of the first k pairs, from the last one of them on. -/
def tdF (xss : List (List Int)) : Nat → Int → Int → Int → Option (Int × Int × Int)
  | 0, a, b, c => some (a, b, c)
  | k + 1, a, b, c => if (wh c && wh (a + (xss.getD k []).getD 0 0 * c) && wh (b + (xss.getD k []).getD 1 0 * c)) = true then tdF xss k c (a + (xss.getD k []).getD 0 0 * c) (b + (xss.getD k []).getD 1 0 * c) else none
theorem tdF_go {xss : List (List Int)} {k : Nat} {a b c : Int} (h : (wh c && wh (a + (xss.getD k []).getD 0 0 * c) && wh (b + (xss.getD k []).getD 1 0 * c)) = true) : tdF xss (k + 1) a b c = tdF xss k c (a + (xss.getD k []).getD 0 0 * c) (b + (xss.getD k []).getD 1 0 * c) := by rw [tdF, if_pos h]
theorem tdF_no {xss : List (List Int)} {k : Nat} {a b c : Int} (h : (wh c && wh (a + (xss.getD k []).getD 0 0 * c) && wh (b + (xss.getD k []).getD 1 0 * c)) = false) : tdF xss (k + 1) a b c = none := by rw [tdF, if_neg (by rw [h]; decide)]
def tdO : Option (Int × Int × Int) → Int × Int × Int
  | some t => t
  | none => (0, 0, 0)
def tdC : Option (Int × Int × Int) → Int
  | some _ => 0
  | none => 3
def tdK (xss : List (List Int)) (r0 r1 r2 : Int) : Int := if isTr r0 r1 r2 = true then (if (r0 == 0 && okD xss) = true then tdC (tdF xss xss.length r0 r1 r2) else 2) else 1
def tdV (xss : List (List Int)) (r0 r1 r2 : Int) : Int × Int × Int := if isTr r0 r1 r2 = true then (if (r0 == 0 && okD xss) = true then tdO (tdF xss xss.length r0 r1 r2) else (0, 0, 0)) else (0, 0, 0)
theorem okP_parts {p : List Int} (h : okP p = true) : p.length = 2 ∧ (0 ≤ p.getD 0 0 ∧ p.getD 0 0 ≤ 1000000) ∧ (0 ≤ p.getD 1 0 ∧ p.getD 1 0 ≤ 1000000) := by
  simp only [okP, Bool.and_eq_true, beq_iff_eq, wh_iff] at h
  exact ⟨h.1.1, h.1.2, h.2⟩
theorem okD_at {xss : List (List Int)} (h : okD xss = true) (i : Nat) (hi : i < xss.length) : okP (xss.getD i []) = true := by
  simp only [okD, Bool.and_eq_true, List.all_eq_true] at h
  have e : xss.getD i [] = xss[i] := by simp [List.getD, hi]
  rw [e]; exact h.1 _ (List.getElem_mem hi)
/-- What a step makes of a triple is one exactly if its numbers are whole ones that are not too great. -/
theorem isTr_next {a b c p q : Int} (h : isTr a b c = true) (hp : 0 ≤ p) (hq : 0 ≤ q) : isTr c (a + p * c) (b + q * c) = (wh c && wh (a + p * c) && wh (b + q * c)) := by
  obtain ⟨⟨a1, a2⟩, ⟨b1, b2⟩, ⟨c1, c2⟩, hn⟩ := isTr_parts h
  unfold isTr
  have hz : ((c == 0 && a + p * c == 0) && b + q * c == 0) = false := by
    rcases Int.lt_or_eq_of_le c1 with h0 | h0
    · have : (c == 0) = false := by simp; omega
      rw [this]; rfl
    · subst h0
      have e1 : a + p * 0 = a := by omega
      have e2 : b + q * 0 = b := by omega
      rw [e1, e2]
      cases ha : (a == 0)
      · simp
      · have ha0 : a = 0 := by simpa using ha
        have hb0 : (b == 0) = false := by simp; intro hb; exact hn ⟨ha0, hb, rfl⟩
        rw [hb0]; simp
  rw [hz]; simp
theorem td_bd {a b c p q : Int} (h : isTr a b c = true) (hp : 0 ≤ p ∧ p ≤ 1000000) (hq : 0 ≤ q ∧ q ≤ 1000000) : 0 ≤ p * c ∧ p * c ≤ 1000000000000 ∧ 0 ≤ q * c ∧ q * c ≤ 1000000000000 ∧ 0 ≤ a ∧ a ≤ 1000000 ∧ 0 ≤ b ∧ b ≤ 1000000 ∧ 0 ≤ c ∧ c ≤ 1000000 := by
  obtain ⟨⟨a1, a2⟩, ⟨b1, b2⟩, ⟨c1, c2⟩, _⟩ := isTr_parts h
  have e1 := Int.mul_nonneg hp.1 c1
  have e2 := Int.mul_nonneg hq.1 c1
  have e3 : p * c ≤ 1000000 * 1000000 := Int.mul_le_mul hp.2 c2 c1 (by omega)
  have e4 : q * c ≤ 1000000 * 1000000 := Int.mul_le_mul hq.2 c2 c1 (by omega)
  omega
/-- An inner list that came in: where it lies, its length, its room, its numbers. -/
abbrev Rw4 := Option Addr × Nat × Nat × List Int
def rw0 : Rw4 := (none, 0, 0, [])
/-- A list of lists that came in. -/
def ArgSS (w : World) (a : Option Addr) (len : Nat) (rs : List Rw4) : Prop :=
  rs.length = len ∧ (0 < len → ∃ b off, a = some ⟨b, off, none⟩ ∧ b < w.heap.size ∧ ∀ i, i < len → w.cell? ⟨b, off + i, none⟩ = some (.slice (rs.getD i rw0).1 (rs.getD i rw0).2.1 (rs.getD i rw0).2.2.1) ∧ IsRow .i64 w (rs.getD i rw0).1 (rs.getD i rw0).2.1 (rs.getD i rw0).2.2.1 (rs.getD i rw0).2.2.2)
def valSS (rs : List Rw4) : List (List Int) := rs.map fun r => r.2.2.2.take r.2.1
theorem row_below {k : IntKind} {w w' : World} {a : Option Addr} {len cap : Nat} {zs : List Int} (h : IsRow k w a len cap zs) (hb : Below w.heap.size w w') : IsRow k w' a len cap zs := by
  rcases h with h | ⟨x, ha, hl, hm, hz, hc, hwf⟩
  · exact .inl h
  · refine .inr ⟨x, ha, hl, hm, hz, fun i hi => ?_, hwf⟩
    have h0 := hc i hi
    have hlt := World.block_lt_of_cell? w _ h0
    rw [hb.cell hlt]; exact h0
theorem ArgSS.below {w w' : World} {a : Option Addr} {len : Nat} {rs : List Rw4} (h : ArgSS w a len rs) (hb : Below w.heap.size w w') : ArgSS w' a len rs := by
  refine ⟨h.1, fun hp => ?_⟩
  obtain ⟨b, off, e, hlt, hc⟩ := h.2 hp
  exact ⟨b, off, e, Nat.lt_of_lt_of_le hlt hb.size, fun i hi => ⟨(hb.cell (p := ⟨b, off + i, none⟩) hlt).trans (hc i hi).1, row_below (hc i hi).2 hb⟩⟩
theorem open_rowss {H : Type} {enc : TypeId × Value → H} {W : World} {a : Option Addr} {len cap : Nat} {d : DataW H} {p : List MemPlace}
    (h : DataW.Trod enc Try.prog W 0 (fun _ => true) true 22 (.slice a len cap) d p) : ∃ rs, ArgSS W a len rs ∧ len ≤ maxLen := by
  have c1 : Try.prog.cellsOf 34 = 1 := by kernel_rfl
  obtain ⟨fuel, hf⟩ := h
  rcases DataW.trod_slice Try.underlying22 hf with ⟨hcs, _⟩ | ⟨x, l, c, elems, rest, n, _, hcs, _, hb, hl, hm, hlen, hel, _, _⟩
  · simp [Value.cells] at hcs
    obtain ⟨rfl, rfl, rfl⟩ := hcs
    exact ⟨[], ⟨rfl, fun h => by omega⟩, by omega⟩
  · simp [Value.cells] at hcs
    obtain ⟨rfl, rfl, rfl⟩ := hcs
    have each : ∀ i, ∃ r : Rw4, i < len → W.cell? (x.add i) = some (.slice r.1 r.2.1 r.2.2.1) ∧ IsRow .i64 W r.1 r.2.1 r.2.2.1 r.2.2.2 := by
      intro i
      by_cases hi : i < len
      · have h1 := hel i hi
        rw [c1, List.getElem?_eq_getElem (by omega), Option.bind_eq_some_iff] at h1
        obtain ⟨cs', hc1, hc2⟩ := h1
        obtain ⟨_, hcl, hcell⟩ := World.cells?_some hc1
        have k0 := hcell 0 (by omega)
        rcases open_ints Try.underlying34 Try.underlying2 (by kernel_rfl) hc2 with ⟨hcs, _⟩ | ⟨y, l, c, zs, hcs, _, hl2, hm2, hz, _, hcl2, hwz⟩
        · subst hcs
          refine ⟨rw0, fun _ => ⟨?_, .inl ⟨rfl, rfl, rfl, rfl⟩⟩⟩
          have e0 : (x.add (i * 1)).add 0 = x.add i := by simp [Addr.add]
          rw [e0] at k0
          show W.cell? (x.add i) = some (.slice none 0 0)
          simpa using k0
        · subst hcs
          refine ⟨(some y, l, c, zs), fun _ => ⟨?_, .inr ⟨y, rfl, hl2, hm2, by simpa using hz, hcl2, hwz⟩⟩⟩
          have e0 : (x.add (i * 1)).add 0 = x.add i := by simp [Addr.add]
          rw [e0] at k0
          simpa using k0
      · exact ⟨rw0, fun h => absurd h hi⟩
    obtain ⟨f, hfz⟩ := Classical.axiomOfChoice each
    refine ⟨(List.range len).map f, ⟨by simp, fun hp => ?_⟩, by omega⟩
    have g0 := (hfz 0 hp).1
    obtain ⟨b, off, rfl⟩ : ∃ b off, x = ⟨b, off, none⟩ := by
      obtain ⟨b, off, spot⟩ := x
      have hspot : spot = none := by simpa [Addr.add] using World.cell?_spot g0
      subst hspot
      exact ⟨b, off, rfl⟩
    refine ⟨b, off, rfl, World.block_lt_of_cell? W _ (by simpa [Addr.add] using g0), fun i hi => ?_⟩
    have gi := hfz i hi
    have e : (⟨b, off, none⟩ : Addr).add i = ⟨b, off + i, none⟩ := by unfold Addr.add; split <;> simp_all
    rw [e] at gi
    have er : ((List.range len).map f).getD i rw0 = f i := by simp [List.getD, hi]
    rw [er]; exact gi
end Go.Proofs.Ythckbobbnkhnpaa
