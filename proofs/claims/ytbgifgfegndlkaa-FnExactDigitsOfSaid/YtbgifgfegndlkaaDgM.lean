/-
  Digits of triples as plain numbers; a list of pairs that grows (own work).
-/
import Derived.Test.YtbgifgfegndlkaaLls
import Derived.Test.YtbgifgfegndlkaaTrD
namespace Go.Proofs.Ytbgifgfegndlkaa
open Go.ChangeShapes Go.WideShapes Go.ChangeAt Go.RowKit
set_option linter.unusedVariables false
set_option linter.unusedSimpArgs false
set_option maxRecDepth 100000

def dg : Nat → List (List Int) → Int → Int → Int → List (List Int) × (Int × Int × Int) × Int
  | 0, _, _, _, _ => ([], (0, 0, 0), 3)
  | f + 1, ps, x, y, z => if x < 1 then (ps, (x, y, z), 0) else if ps.length = 60 then ([], (0, 0, 0), 3) else dg f (ps ++ [[y / x, z / x]]) (y - y / x * x) (z - z / x * x) x
theorem dg_end {f : Nat} {ps : List (List Int)} {x y z : Int} (h : x < 1) : dg (f + 1) ps x y z = (ps, (x, y, z), 0) := by unfold dg; rw [if_pos h]
theorem dg_lim {f : Nat} {ps : List (List Int)} {x y z : Int} (h : ¬ x < 1) (hp : ps.length = 60) : dg (f + 1) ps x y z = ([], (0, 0, 0), 3) := by unfold dg; rw [if_neg h, if_pos hp]
theorem dg_go {f : Nat} {ps : List (List Int)} {x y z : Int} (h : ¬ x < 1) (hp : ¬ ps.length = 60) : dg (f + 1) ps x y z = dg f (ps ++ [[y / x, z / x]]) (y - y / x * x) (z - z / x * x) x := by rw [dg, if_neg h, if_neg hp]
theorem dg_step {x y : Int} (hx : 1 ≤ x) (hx2 : x ≤ 1000000) (hy : 0 ≤ y) (hy2 : y ≤ 1000000) : 0 ≤ y / x ∧ y / x ≤ 1000000 ∧ 0 ≤ y / x * x ∧ y / x * x ≤ 1000000 ∧ 0 ≤ y - y / x * x ∧ y - y / x * x ≤ 1000000 := by
  have h0 : 0 ≤ y / x := Int.ediv_nonneg hy (by omega)
  have h1 : y / x ≤ y := Int.ediv_le_self _ hy
  have h2 := Int.emod_nonneg y (show x ≠ 0 by omega)
  have h3 := Int.emod_lt_of_pos y (show 0 < x by omega)
  have h4 : y % x = y - x * (y / x) := Int.emod_def y x
  have h5 : y / x * x = x * (y / x) := Int.mul_comm _ _
  have h6 : 0 ≤ x * (y / x) := Int.mul_nonneg (by omega) h0
  rw [h5]
  omega
theorem dg_two : ∀ (f : Nat) (ps : List (List Int)) (x y z : Int), (∀ i, (ps.getD i []).length ≤ 2) → ps.length ≤ 60 → (∀ i, ((dg f ps x y z).1.getD i []).length ≤ 2) ∧ (dg f ps x y z).1.length ≤ 60
  | 0, ps, x, y, z, h, hl => ⟨fun i => by simp [dg], by simp [dg]⟩
  | f + 1, ps, x, y, z, h, hl => by
    by_cases h1 : x < 1
    · rw [dg_end h1]; exact ⟨h, hl⟩
    · by_cases h2 : ps.length = 60
      · rw [dg_lim h1 h2]; exact ⟨fun i => by simp, by simp⟩
      · rw [dg_go h1 h2]
        refine dg_two f _ _ _ _ (fun i => ?_) (by rw [List.length_append, List.length_singleton]; omega)
        rcases Nat.lt_or_ge i ps.length with hi | hi
        · have := h i
          simpa [List.getD, List.getElem?_append_left hi] using this
        · rw [List.getD, List.getElem?_append_right hi]
          rcases Nat.eq_zero_or_pos (i - ps.length) with h0 | h0
          · rw [h0]; simp
          · rw [List.getElem?_eq_none (by simp; omega)]; simp
def lenL : Value → Nat
  | .slice _ n _ => n
  | _ => 0
theorem OwnSS.nil (B : Nat) (w : World) : OwnSS B w (.slice none 0 0) [] [] := ⟨World.ownsRow_nil _ _ _ _, fun i hi => by simp at hi, fun i j k hi => by simp at hi⟩
theorem OwnSS.len {B : Nat} {w : World} {v : Value} {vs : List Value} {xss : List (List Int)} (h : OwnSS B w v vs xss) : lenL v = xss.length := by
  obtain ⟨a, cap, rfl, _⟩ := h.view
  rfl
theorem OwnSS.mono {B B' : Nat} {w : World} {v : Value} {vs : List Value} {xss : List (List Int)} (h : OwnSS B w v vs xss) (hb : B' ≤ B) : OwnSS B' w v vs xss := by
  have go : ∀ {e : TypeId} {size : Nat} {v : Value} {n : Nat} {xs : List Value}, w.ownsRow B e size v n xs → w.ownsRow B' e size v n xs := by
    intro e size v n xs h
    refine ⟨h.1, ?_⟩
    rcases h.2 with h' | ⟨g, cap, cur, h1, h2, h3⟩
    · exact .inl h'
    · exact .inr ⟨g, cap, cur, h1, by omega, h3⟩
  exact ⟨go h.1, fun i hi => go (h.2.1 i hi), h.2.2⟩
theorem OwnSS.far {B : Nat} {w : World} {v : Value} {vs : List Value} {xss : List (List Int)} (h : OwnSS B w v vs xss) (p : Addr) (u : Value) (hp : p.block < B) : OwnSS B (w.setCell p u) v vs xss := by
  have go : ∀ {e : TypeId} {size : Nat} {v : Value} {n : Nat} {xs : List Value}, w.ownsRow B e size v n xs → (w.setCell p u).ownsRow B e size v n xs := by
    intro e size v n xs h
    refine ⟨h.1, ?_⟩
    rcases h.2 with h' | ⟨g, cap, cur, h1, h2, h3, h4⟩
    · exact .inl h'
    · exact .inr ⟨g, cap, cur, h1, h2, (Below.heap_setCell w p u g (by omega)).trans h3, h4⟩
  exact ⟨go h.1, fun i hi => go (h.2.1 i hi), h.2.2⟩
theorem info_li : (Try.prog.info? 60).map (fun i => (i.zero, i.size, i.bytes)) = some (some (.slice none 0 0), 1, 24) := by kernel_rfl
/-- A new block of numbers is a list of one's own. -/
theorem ownI_new {B : Nat} {w : World} {h : Nat} (k l : Int) (hh : w.heap[h]? = some (.cells #[.int .i64 k, .int .i64 l] 2 (0, 0))) (hB : B ≤ h) : OwnI B w (.slice (some ⟨h, 0, none⟩) 2 2) [k, l] :=
  ⟨rfl, .inr ⟨h, 2, _, rfl, hB, hh, Nat.le_refl _, by decide, rfl, rfl⟩⟩
/-- A list of lists grows by a list that lies in a block of its own. -/
theorem wpList_app_SS {B : Nat} {W : World} {ops : Array Oper} {rest : List Oper} {o : Oper} {a : Act} {Q : Exit → Act → World → Prop} (hgd : o.guard = none) (s x : Operand)
    (ho : o.op = .call { callee := .builtin .append, args := #[s, x], argTypes := #[50, 50] })
    {v : Value} {g c h : Nat} {vs : List Value} {xss : List (List Int)} {k l : Int} (hown : OwnSS B W v vs xss) (c0 : W.cell? ⟨g, 0, none⟩ = some (.slice (some ⟨h, 0, none⟩) 2 2)) (hnew : OwnI B W (.slice (some ⟨h, 0, none⟩) 2 2) [k, l]) (hfr : ∀ i, i < xss.length → (vs.getD i .nilIface).ownBlock ≠ some h) (hB : B ≤ W.heap.size) (hs : a.eval s = v) (hx : a.eval x = .slice (some ⟨g, 0, none⟩) 1 c) (hlen : xss.length + 1 ≤ 4194304)
    (hK : ∀ v' w', OwnSS B w' v' (vs ++ [.slice (some ⟨h, 0, none⟩) 2 2]) (xss ++ [[k, l]]) → W.grownBy w' v.ownBlock → (∀ b, v.ownBlock = some b → B ≤ b) → wpList Try.prog ops Q rest (a.put o.dst v') w') : wpList Try.prog ops Q (o :: rest) a W := by
  obtain ⟨i0, hi, hz0, hz1, hz2⟩ := info_parts info_li
  have hvl : vs.length = xss.length := by have := hown.1.1; omega
  refine wpList_append_own _ hgd s x 50 ho B 60 i0 (.slice none 0 0) 1 24 Try.underlying50 hi hz0 hz1 hz2 rfl (by decide) v _ _ hs hown.1 ⟨g, 0, none⟩ 1 c [.slice (some ⟨h, 0, none⟩) 2 2] hx rfl ?_ ?_ ?_ ?_ hB ?_
  · intro j u hj
    match j, hj with
    | 0, hj => simp at hj; subst hj; simpa [Addr.add] using c0
  · intro u hu; simp at hu; subst hu; rfl
  · unfold maxLen; omega
  · omega
  · intro v' w' h1 h2 _
    have keep : ∀ u X, OwnI B W u X → OwnI B w' u X := by
      intro u X hu
      refine World.ownsRow.kept hu h2 ?_
      rcases hu.2 with ⟨hv, _⟩ | ⟨g1, cap1, cur1, hv, _, hg1, _⟩
      · left; rw [hv]; rfl
      · right
        rw [hv]
        intro e
        rcases hown.1.2 with ⟨hv2, _⟩ | ⟨g2, cap2, cur2, hv2, _, hgg2, _⟩
        · rw [hv2] at e; cases e
        · rw [hv2] at e
          have e2 : g1 = g2 := by simpa [Value.ownBlock] using e
          rw [e2, hgg2] at hg1
          cases hg1
    have atL : ∀ i, i < xss.length → (vs ++ [Value.slice (some ⟨h, 0, none⟩) 2 2]).getD i .nilIface = vs.getD i .nilIface ∧ (xss ++ [[k, l]]).getD i [] = xss.getD i [] := fun i hi => by
      exact ⟨by rw [List.getD, List.getElem?_append_left (by omega)]; rfl, by rw [List.getD, List.getElem?_append_left hi]; rfl⟩
    have atN : ∀ i, i = xss.length → (vs ++ [Value.slice (some ⟨h, 0, none⟩) 2 2]).getD i .nilIface = .slice (some ⟨h, 0, none⟩) 2 2 ∧ (xss ++ [[k, l]]).getD i [] = [k, l] := fun i hi => by
      subst hi
      exact ⟨by rw [List.getD, List.getElem?_append_right (by omega), hvl, Nat.sub_self]; rfl, by rw [List.getD, List.getElem?_append_right (by omega), Nat.sub_self]; rfl⟩
    refine hK v' w' ⟨?_, fun i hi => ?_, fun i j b hi hj hne hb => ?_⟩ h2 (fun b hb => (World.ownsRow.lt hown.1 b hb).1)
    · rw [List.length_append, List.length_singleton]; exact h1
    · rw [List.length_append, List.length_singleton] at hi
      rcases Nat.lt_or_ge i xss.length with h' | h'
      · rw [(atL i h').1, (atL i h').2]; exact keep _ _ (hown.2.1 i h')
      · rw [(atN i (by omega)).1, (atN i (by omega)).2]; exact keep _ _ hnew
    · rw [List.length_append, List.length_singleton] at hi hj
      rcases Nat.lt_or_ge i xss.length with h' | h'
      · rw [(atL i h').1] at hb
        rcases Nat.lt_or_ge j xss.length with h'' | h''
        · rw [(atL j h'').1]; exact hown.2.2 i j b h' h'' hne hb
        · rw [(atN j (by omega)).1]
          intro e
          have e2 : h = b := by simpa [Value.ownBlock] using e
          subst e2
          exact hfr i h' hb
      · rw [(atN i (by omega)).1] at hb
        have e2 : h = b := by simpa [Value.ownBlock] using hb
        subst e2
        rw [(atL j (by omega)).1]
        exact hfr j (by omega)
end Go.Proofs.Ytbgifgfegndlkaa
