/-
  Lists of bytes that calls make (own work).
-/
import Derived.Test.YtbgifgfegndlkabList
import Derived.Maps.AppendAt
import Derived.Laws.IdiomStrings
namespace Go.Proofs.Ytbgifgfegndlkab
open Go.ChangeShapes Go.WideShapes Go.ChangeAt Go.RowKit
set_option linter.unusedVariables false
set_option linter.unusedSimpArgs false
set_option maxRecDepth 100000

theorem info_u8 : (Try.prog.info? 5).map (fun i => (i.zero, i.size, i.bytes)) = some (some (.int .u8 0), 1, 1) := by kernel_rfl
def byC (b : UInt8) : Value := .int .u8 (b.toNat : Int)
/-- A list of bytes that lies in blocks from B on. -/
def OwnY (B : Nat) (w : World) (v : Value) (l : List UInt8) : Prop := w.ownsRow B 5 1 v l.length (l.map byC)
theorem OwnY.below {B : Nat} {w w' : World} {v : Value} {l : List UInt8} (h : OwnY B w v l) (hb : Below w.heap.size w w') : OwnY B w' v l := own_below h hb
theorem OwnY.bk {B : Nat} {w : World} {v : Value} {l : List UInt8} (h : OwnY B w v l) : ∀ k, v.ownBlock = some k → B ≤ k ∧ k < w.heap.size := fun k hk => by
  have := h.lt k hk
  omega
theorem string_of {B : Nat} {w : World} {v : Value} {l : List UInt8} (h : OwnY B w v l) : (convert 31 9 v).run Try.prog w = .ok (.string ⟨l.toArray⟩) w := by
  rcases h.2 with ⟨rfl, hn⟩ | ⟨g, cap, cur, rfl, hbg, hg, hnc, hcm, hcs, htk⟩
  · have hl : l = [] := List.eq_nil_of_length_eq_zero hn
    subst hl
    rw [run_convert_bytes_string w 31 9 5 none 0 0 Try.underlying31 Try.underlying5 Try.underlying9]
    simp [Conv.bytesToString]
    rfl
  · refine run_convert_bytes_back (P := Try.prog) w 31 9 5 ⟨g, 0, none⟩ cap l Try.underlying31 Try.underlying5 Try.underlying9 ?_
    intro j hj
    have := h.cells (g := g) rfl j (byC l[j]) (by simp [hj])
    exact this
def lenS : Value → Nat
  | .slice _ n _ => n
  | _ => 0
theorem OwnY.len {B : Nat} {w : World} {v : Value} {l : List UInt8} (h : OwnY B w v l) : lenS v = l.length := by
  rcases h.2 with ⟨rfl, hn⟩ | ⟨g, cap, cur, rfl, _⟩
  · exact hn.symm
  · rfl
theorem OwnY.form {B : Nat} {w : World} {v : Value} {l : List UInt8} (h : OwnY B w v l) : ∃ pa cap, v = .slice pa l.length cap := by
  rcases h.2 with ⟨rfl, hn⟩ | ⟨g, cap, cur, rfl, _⟩
  · exact ⟨none, 0, by rw [hn]⟩
  · exact ⟨_, _, rfl⟩
theorem bytes_snoc (l : List UInt8) (b : UInt8) : (⟨l.toArray⟩ : ByteArray) ++ ⟨#[b]⟩ = ⟨(l ++ [b]).toArray⟩ := by
  apply ByteArray.ext
  rw [ByteArray.data_append]
  simp
theorem bytes_size (l : List UInt8) : (⟨l.toArray⟩ : ByteArray).size = l.length := by simp [ByteArray.size]
theorem OwnY.kept {B : Nat} {w w' : World} {v : Value} {l : List UInt8} {g : Nat} (h : OwnY B w v l) (hg : w.grownBy w' (some g)) (hne : ∀ k, v.ownBlock = some k → k ≠ g) : OwnY B w' v l := by
  refine World.ownsRow.kept h hg ?_
  cases hv : v.ownBlock with
  | none => exact .inl rfl
  | some k => right; simp; exact hne k hv
/-- A list of bytes that grows by one byte that lies in a cell. -/
theorem wpList_app_Y {B : Nat} {W : World} {ops : Array Oper} {rest : List Oper} {o : Oper} {a : Act} {Q : Exit → Act → World → Prop} (hgd : o.guard = none) (s x : Operand)
    (ho : o.op = .call { callee := .builtin .append, args := #[s, x], argTypes := #[31, 31] })
    {v : Value} {g c : Nat} {l : List UInt8} {b : UInt8} (hown : OwnY B W v l) (c0 : W.cell? ⟨g, 0, none⟩ = some (byC b)) (hB : B ≤ W.heap.size) (hs : a.eval s = v) (hx : a.eval x = .slice (some ⟨g, 0, none⟩) 1 c) (hlen : l.length + 1 ≤ 4194304)
    (hK : ∀ v' w', OwnY B w' v' (l ++ [b]) → W.grownBy w' v.ownBlock → wpList Try.prog ops Q rest (a.put o.dst v') w') : wpList Try.prog ops Q (o :: rest) a W := by
  obtain ⟨i0, hi, hz0, hz1, hz2⟩ := info_parts info_u8
  refine wpList_append_own _ hgd s x 31 ho B 5 i0 (.int .u8 0) 1 1 Try.underlying31 hi hz0 hz1 hz2 rfl (by decide) v _ _ hs hown ⟨g, 0, none⟩ 1 c [byC b] hx rfl ?_ ?_ ?_ ?_ hB ?_
  · intro j u hj
    match j, hj with
    | 0, hj => simp at hj; subst hj; simpa [Addr.add] using c0
  · intro u hu; simp at hu; subst hu; rfl
  · unfold maxLen; omega
  · omega
  · intro v' w' h1 h2 _
    refine hK v' w' ?_ h2
    show w'.ownsRow B 5 1 v' (l ++ [b]).length ((l ++ [b]).map byC)
    rw [List.length_append, List.map_append]
    exact h1
end Go.Proofs.Ytbgifgfegndlkab
