/-
  Channels in one goroutine, for a walk of a function's pieces: a send into a buffer with room, a receive from a buffer that holds something, a receive from a closed channel with an empty buffer; what is known of a channel's block (own work).
-/
import Derived.Test.YtbgifgfegndlkaaOwn
import Derived.Conc.LoneCalls
namespace Go.Proofs.Ytbgifgfegndlkaa
open Go.Conc Go.RowKit
set_option linter.unusedVariables false
set_option linter.unusedSimpArgs false

/-- What the operations of a region lead to. -/
def OpsTo (P : Program) (ops : Array Oper) (Q : Exit → Act → World → Prop) (l : List Nat) (a : Act) (w : World) : Prop :=
  ∀ (b : Frame) (k : List Item) (cs : List Frame), ∃ e a' w', Q e a' w' ∧ Arrives P (lone (b.at a (.inRegion ops l :: k)) cs w) b k cs e a' w'
section
variable {P : Program} {ops : Array Oper} {Q : Exit → Act → World → Prop} {a : Act} {w : World}
theorem wp_region_ops {id : Nat} (h : OpsTo P ops Q (List.range ops.size) a w) : (Code.region id ops false).wp P Q a w :=
  fun b k cs => let ⟨e, a', w', q, r⟩ := h b k cs; ⟨e, a', w', q, .of_steps (.one step_region) r⟩
theorem ops_end (h : Q .normal a w) : OpsTo P ops Q [] a w := fun b k cs => ⟨.normal, a, w, h, .one step_region_end⟩
theorem ops_list (l : List Oper) (k : Nat) (hl : ∀ j, l[j]? = ops[k + j]?) (h : wpList P ops Q l a w) : OpsTo P ops Q (List.range' k l.length) a w := by
  rw [← wpOps_eq_wpList l k hl] at h
  exact fun b c cs => wp_ops _ a w h b c cs
theorem ops_value {i : Nat} {rest : List Nat} {o : Oper} {v : Value} {w' : World} (ho : ops[i]? = some o) (hw : Region.wanted o (yielded ops a.tmps) = true) (hr : (execOp a.eval o).run P w = .ok (.value v) w') (h : OpsTo P ops Q rest (a.put o.dst v) w') : OpsTo P ops Q (i :: rest) a w := by
  intro b k cs
  obtain ⟨e, a', w'', hq, harr⟩ := h b k cs
  refine ⟨e, a', w'', hq, .of_steps (.one (step_lone_go ?_)) harr⟩
  have hfin : (b.at a (.inRegion ops (i :: rest) :: k)).finish v = b.at (a.put o.dst v) (.inRegion ops rest :: k) := by rw [Frame.finish_at, ho]; rfl
  rw [Go.stepG_op ho hw, ← hfin]
  simp [stepG.apply, hr]
theorem comm_step {b : Frame} {k : List Item} {cs : List Frame} {i : Nat} {rest : List Nat} {o : Oper} {cases : Array CommCase} {blocking : Bool} {shape : CommShape} {w' : World} (ho : ops[i]? = some o) (hw : Region.wanted o (yielded ops a.tmps) = true) (hr : (execOp a.eval o).run P w = .ok (.comm cases blocking shape) w') :
    ∃ es, stepG P true (G (b.at a (.inRegion ops (i :: rest) :: k)) cs) w = .comm (G (b.at a (.inRegion ops (i :: rest) :: k)) cs) cases blocking shape w' es := by
  rw [stepG_oper ho hw]
  simp only [stepG.apply, Sem.runT_eq, hr, if_true, GStep.after, G]
  exact ⟨_, rfl⟩
theorem ops_send {i : Nat} {rest : List Nat} {o : Oper} {c cap s r : Nat} {buf : Array Value} {v z : Value} {tm : Bool} (ho : ops[i]? = some o) (hw : Region.wanted o (yielded ops a.tmps) = true) (hr : (execOp a.eval o).run P w = .ok (.comm #[scase c v z] true .send) w)
    (hc : w.heap[c]? = some (.chan cap buf false s r tm)) (hroom : buf.size < cap) (h : OpsTo P ops Q rest (a.put o.dst undef) (w.setChan c cap (buf.push v) false (s + 1) r tm)) : OpsTo P ops Q (i :: rest) a w := by
  intro b k cs
  obtain ⟨e, a', w'', hq, harr⟩ := h b k cs
  obtain ⟨es, hs⟩ := comm_step (b := b) (k := k) (cs := cs) (rest := rest) ho hw hr
  have hst := step_lone_send_room hs hc hroom
  rw [Frame.finish_at, ho] at hst
  exact ⟨e, a', w'', hq, .of_steps (.one hst) harr⟩
theorem ops_recv {i : Nat} {rest : List Nat} {o : Oper} {c cap s r : Nat} {v z : Value} {l : List Value} {closed tm : Bool} (ho : ops[i]? = some o) (hw : Region.wanted o (yielded ops a.tmps) = true) (hr : (execOp a.eval o).run P w = .ok (.comm #[rcase c z] true (.recv true)) w)
    (hc : w.heap[c]? = some (.chan cap (v :: l).toArray closed s r tm)) (h : OpsTo P ops Q rest (a.put o.dst (.tuple #[v, .bool true])) (w.setChan c cap l.toArray closed s (r + 1) tm)) : OpsTo P ops Q (i :: rest) a w := by
  intro b k cs
  obtain ⟨e, a', w'', hq, harr⟩ := h b k cs
  obtain ⟨es, hs⟩ := comm_step (b := b) (k := k) (cs := cs) (rest := rest) ho hw hr
  have hst := step_lone_recv_buf true hs hc (by simp)
  rw [Frame.finish_at, ho] at hst
  have e1 : (v :: l).toArray.extract 1 (v :: l).toArray.size = l.toArray := by simp
  have e2 : (v :: l).toArray.getD 0 undef = v := by simp
  rw [e1, e2] at hst
  exact ⟨e, a', w'', hq, .of_steps (.one hst) harr⟩
theorem ops_shut {i : Nat} {rest : List Nat} {o : Oper} {c cap s r : Nat} {z : Value} {tm : Bool} (ho : ops[i]? = some o) (hw : Region.wanted o (yielded ops a.tmps) = true) (hr : (execOp a.eval o).run P w = .ok (.comm #[rcase c z] true (.recv true)) w)
    (hc : w.heap[c]? = some (.chan cap #[] true s r tm)) (h : OpsTo P ops Q rest (a.put o.dst (.tuple #[z, .bool false])) w) : OpsTo P ops Q (i :: rest) a w := by
  intro b k cs
  obtain ⟨e, a', w'', hq, harr⟩ := h b k cs
  obtain ⟨es, hs⟩ := comm_step (b := b) (k := k) (cs := cs) (rest := rest) ho hw hr
  have hst := step_lone_recv_shut true hs hc
  rw [Frame.finish_at, ho] at hst
  exact ⟨e, a', w'', hq, .of_steps (.one hst) harr⟩
end
/-- A channel that holds l, the eldest first. -/
def Chn (w : World) (c cap : Nat) (l : List Value) (closed : Bool) : Prop := ∃ s r, w.heap[c]? = some (.chan cap l.toArray closed s r false)
theorem Chn.lt {w : World} {c cap : Nat} {l : List Value} {cl : Bool} (h : Chn w c cap l cl) : c < w.heap.size := by
  obtain ⟨s, r, h⟩ := h
  exact (Array.getElem?_eq_some_iff.1 h).1
theorem Chn.same {w w' : World} {c cap : Nat} {l : List Value} {cl : Bool} (h : Chn w c cap l cl) (he : w'.heap[c]? = w.heap[c]?) : Chn w' c cap l cl := by
  obtain ⟨s, r, h⟩ := h
  exact ⟨s, r, he.trans h⟩
theorem Chn.below {w w' : World} {c cap : Nat} {l : List Value} {cl : Bool} (h : Chn w c cap l cl) (hb : Below w.heap.size w w') : Chn w' c cap l cl := h.same (hb.block c h.lt)
theorem Chn.far {w : World} {c cap : Nat} {l : List Value} {cl : Bool} (h : Chn w c cap l cl) (p : Addr) (v : Value) (hne : c ≠ p.block) : Chn (w.setCell p v) c cap l cl := h.same (Below.heap_setCell w p v c hne)
theorem setChan_block (w : World) (c cap : Nat) (buf : Array Value) (cl : Bool) (s r : Nat) (tm : Bool) (g : Nat) (h : g ≠ c) : (w.setChan c cap buf cl s r tm).heap[g]? = w.heap[g]? := by
  simp only [World.setChan]
  rw [Array.getElem?_setIfInBounds_ne (by omega)]
end Go.Proofs.Ytbgifgfegndlkaa
