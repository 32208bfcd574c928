/-
  The elements that the iterator gives, and the state behind them (own work).
-/
import Derived.Test.YthckbobbnkhnpaaTdS
import Derived.Test.YthckbobbnkhnpaaBaG
namespace Go.Proofs.Ythckbobbnkhnpaa
open Go.ChangeShapes Go.WideShapes Go.ChangeAt Go.RowKit
set_option linter.unusedVariables false
set_option linter.unusedSimpArgs false

/-- A list of two whole numbers, in memory. -/
def PairIs (w : World) (v : Value) (p q : Int) : Prop := (0 ≤ p ∧ p ≤ 1000000) ∧ (0 ≤ q ∧ q ≤ 1000000) ∧ ∃ g cap, v = .slice (some ⟨g, 0, none⟩) 2 cap ∧ g < w.heap.size ∧ w.cell? ⟨g, 0, none⟩ = some (.int .i64 p) ∧ w.cell? ⟨g, 1, none⟩ = some (.int .i64 q)
abbrev Pq (w : World) (n : Nat) := {x : Int × Value × Int × Int // 0 < n → PairIs w x.2.1 x.2.2.1 x.2.2.2}
def ixP {w : World} {n : Nat} (x : Pq w n) : Int := x.1.1
def vxP {w : World} {n : Nat} (x : Pq w n) : Value := x.1.2.1
theorem rd_pair {w : World} {a : Option Addr} {n : Nat} {vs : List Value} {xss : List (List Int)} (h : RdSS w a n vs xss) (hok : okD xss = true) (i : Nat) (hi : i < n) : PairIs w (vs.getD i .nilIface) ((xss.getD i []).getD 0 0) ((xss.getD i []).getD 1 0) := by
  obtain ⟨hl, hp, hq⟩ := okP_parts (okD_at hok i (by rw [h.2.1]; exact hi))
  obtain ⟨ai, ci, e, f⟩ := h.2.2.2 i hi
  obtain ⟨g, e2, hg, hc⟩ := f (by omega)
  rw [hl, e2] at e
  exact ⟨hp, hq, g, ci, e, hg, hc 0 (by omega), hc 1 (by omega)⟩
/-- The element of round k. -/
def elP {w : World} {a : Option Addr} {n : Nat} {vs : List Value} {xss : List (List Int)} (h : RdSS w a n vs xss) (hok : okD xss = true) (k : Nat) : Pq w n :=
  ⟨((n : Int) - 1 - k, vs.getD (n - 1 - k) .nilIface, (xss.getD (n - 1 - k) []).getD 0 0, (xss.getD (n - 1 - k) []).getD 1 0), fun hn => rd_pair h hok _ (by omega)⟩
abbrev Tr3 := Option (Int × Int × Int)
def stp (o : Tr3) (p q : Int) : Tr3 :=
  match o with
  | none => none
  | some (a, b, c) => if (wh c && wh (a + p * c) && wh (b + q * c)) = true then some (c, a + p * c, b + q * c) else none
def stP {w : World} {n : Nat} (r : Int × Int × Int) (pre : List (Pq w n)) : Tr3 := pre.foldl (fun o x => stp o x.1.2.2.1 x.1.2.2.2) (some r)
theorem stP_nil {w : World} {n : Nat} (r : Int × Int × Int) : stP (w := w) (n := n) r [] = some r := rfl
theorem stP_snoc {w : World} {n : Nat} (r : Int × Int × Int) (pre : List (Pq w n)) (x : Pq w n) : stP r (pre ++ [x]) = stp (stP r pre) x.1.2.2.1 x.1.2.2.2 := by simp [stP]
def tdZ (xss : List (List Int)) (m : Nat) : Tr3 → Tr3
  | none => none
  | some (a, b, c) => tdF xss m a b c
theorem stP_upto {w : World} {a : Option Addr} {n : Nat} {vs : List Value} {xss : List (List Int)} (h : RdSS w a n vs xss) (hok : okD xss = true) (r : Int × Int × Int) : ∀ k, k ≤ n → tdZ xss (n - k) (stP r (upto (elP h hok) k)) = tdF xss n r.1 r.2.1 r.2.2
  | 0, _ => by simp [upto, stP_nil, tdZ]
  | k + 1, hk => by
    have ih := stP_upto h hok r k (by omega)
    rw [upto_succ, stP_snoc, ← ih]
    obtain ⟨m, hm⟩ : ∃ m, n - k = m + 1 := ⟨n - k - 1, by omega⟩
    have e1 : n - (k + 1) = m := by omega
    have e2 : n - 1 - k = m := by omega
    rw [hm, e1]
    show tdZ xss m (stp _ ((xss.getD (n - 1 - k) []).getD 0 0) ((xss.getD (n - 1 - k) []).getD 1 0)) = _
    rw [e2]
    cases hs : stP r (upto (elP h hok) k) with
    | none => rfl
    | some t =>
      obtain ⟨a, b, c⟩ := t
      show tdZ xss m (stp (some (a, b, c)) _ _) = tdF xss (m + 1) a b c
      cases hw : (wh c && wh (a + (xss.getD m []).getD 0 0 * c) && wh (b + (xss.getD m []).getD 1 0 * c))
      · rw [tdF_no hw]; unfold stp; dsimp only; rw [if_neg (by rw [hw]; decide)]; rfl
      · rw [tdF_go hw]; unfold stp; dsimp only; rw [if_pos hw]; rfl
end Go.Proofs.Ythckbobbnkhnpaa
