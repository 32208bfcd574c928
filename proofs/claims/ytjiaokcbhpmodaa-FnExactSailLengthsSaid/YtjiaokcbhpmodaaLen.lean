/-
  Contracts of chapter 3's SailLengths and SailSines in the program (own work; written by tools/mksqi.py).
-/
import Derived.Test.YtjiaokcbhpmodaaSqi
namespace Go.Proofs.Ytjiaokcbhpmodaa
open Go.ChangeShapes Go.WideShapes Go.ChangeAt Go.RowKit
set_option linter.unusedVariables false
set_option linter.unusedSimpArgs false

theorem impl_SailLengths_any (a b c d : Int) (w : World) : Calls Try.prog 25 #[.agg #[.int .i64 a, .int .i64 b], .agg #[.int .i64 c, .int .i64 d]] w (RetIC w (lnR (a, b) (c, d)) (slC (a, b) (c, d))) := by
  have HSQ : Hid (∀ w, Calls Try.prog 32 #[.agg #[.int .i64 a, .int .i64 b], .agg #[.int .i64 c, .int .i64 d]] w (RetIC w (sqR (a, b) (c, d)) (slC (a, b) (c, d)))) := fun w => impl_SequenceOf_any a b c d w
  rcases sl_cases (a, b) (c, d) with ⟨hc, _, _, _, h2, h3⟩ | ⟨hc, hn, _⟩
  · have hR : lnR (a, b) (c, d) = lnS (cnL (a, b) (c, d)) := by unfold lnR; rw [if_pos hc]
    have hQ : sqR (a, b) (c, d) = sqS (cnL (a, b) (c, d)) := by unfold sqR; rw [if_pos hc]
    have hcn := (cnL_of (a, b) (c, d)).1
    have hcl := cn_len (a, b) (c, d)
    rw [hR, hc]
    rw [hQ, hc] at HSQ
    obtain ⟨cs, hcs⟩ : ∃ cs, cnL (a, b) (c, d) = cs := ⟨_, rfl⟩
    rw [hcs] at HSQ hcn hcl ⊢
    have hp := ptsL_ne (cs := cs) (by omega)
    have hpl := ptsL_len cs
    have hx := lnS_len cs
    have hy := snS_len cs
    have hql : (sqS cs).length = (lnS cs).length + (snS cs).length := ilv_len _ _ (by omega)
    obtain ⟨F, hF⟩ : ∃ F, sqS cs = F := ⟨_, rfl⟩
    have HEV : Hid (∀ q cp w, NumAt w q F → Calls Try.prog 51 #[.slice (some ⟨q, 0, none⟩) F.length cp, .int .i64 0] w (RetI w (lnS cs))) := by
      intro q cp w h
      rw [← hF] at h ⊢
      refine everySecond_some (sqS cs) (lnS cs) 0 q cp _ _ w rfl (by omega) (by omega) rfl (fun t ht => ⟨by omega, ?_⟩) (by omega) h
      have := ilv_even (lnS cs) (snS cs) t ht (by omega)
      rw [show 0 + 2 * t = 2 * t by omega]
      exact this
    rw [hF] at HSQ
    have hF1 : 0 < F.length := by rw [← hF]; omega
    obtain ⟨Z, hZ⟩ : ∃ Z, lnS cs = Z := ⟨_, rfl⟩
    rw [hZ] at HEV ⊢
    obtain ⟨N, hNe⟩ : ∃ N, F.length = N := ⟨_, rfl⟩
    rw [hNe] at HEV hF1
    have HNE := Lib.hid hNe
    have HF1 := Lib.hid hF1
    clear hc h2 h3 hR hQ hcn hcl hcs hp hpl hx hy hql hF hZ hNe hF1
    have hs20 : w.heap.size < w.heap.size + 1 + 1 := (by omega); have hs30 : w.heap.size < w.heap.size + 1 + 1 + 1 := (by omega); have hs31 : w.heap.size + 1 < w.heap.size + 1 + 1 + 1 := (by omega)
    go_enter Try.func25, Try.ntmps25
    go_wp2_with (first | (go_at_call 32; refine (HSQ.out _).mono ?_; rintro e wA ⟨v, rfl, ho, hb⟩; obtain ⟨a1, c1, e, hv⟩ := own_view ho; rw [HNE.out] at e; subst e; obtain ⟨q, rfl, _⟩ := hv (by rw [HNE.out]; exact HF1.out); have HNU := Lib.hid (NumAt.own ho (by rw [HNE.out]; exact HF1.out)); clear ho hv; first | (have h2 := after_call2 hb hcl hfr hlt (by ((repeat' (first | (with_reducible exact Below.refl _ _) | (with_reducible refine Below.alloc ?_ ?_ _) | (with_reducible refine Below.setCell ?_ ?_ _) | (with_reducible refine Below.drew ?_) | (with_reducible refine below_drewN ?_ _) | (with_reducible assumption) | (with_reducible refine below_after (by with_reducible assumption) ?_) | go_size)); done)); obtain ⟨hclx, hfrx, hltx, hsz⟩ := after_call hb; (try simp only [World.size_alloc, World.size_setCell, World.size_drew] at hclx hfrx hltx hsz); (try (have hszl := Nat.lt_of_succ_le hsz)); obtain ⟨hcl, hfr, hlt⟩ := h2) | (obtain ⟨hcl, hfr, hlt, hsz⟩ := after_call hb; (try simp only [World.size_alloc, World.size_setCell, World.size_drew] at hcl hfr hlt hsz))) | (go_at_call 51; refine (HEV.out _ _ _ HNU.out).mono ?_; rintro e wB ⟨v, rfl, ho, hb⟩; have HO := Lib.hid ho; obtain ⟨a2, c2, rfl⟩ := own_viewI ho; clear ho; first | (have h2 := after_call2 hb hcl hfr hlt (by ((repeat' (first | (with_reducible exact Below.refl _ _) | (with_reducible refine Below.alloc ?_ ?_ _) | (with_reducible refine Below.setCell ?_ ?_ _) | (with_reducible refine Below.drew ?_) | (with_reducible refine below_drewN ?_ _) | (with_reducible assumption) | (with_reducible refine below_after (by with_reducible assumption) ?_) | go_size)); done)); obtain ⟨hclx, hfrx, hltx, hsz⟩ := after_call hb; (try simp only [World.size_alloc, World.size_setCell, World.size_drew] at hclx hfrx hltx hsz); (try (have hszl := Nat.lt_of_succ_le hsz)); obtain ⟨hcl, hfr, hlt⟩ := h2) | (obtain ⟨hcl, hfr, hlt, hsz⟩ := after_call hb; (try simp only [World.size_alloc, World.size_setCell, World.size_drew] at hcl hfr hlt hsz))))
    go_ret2
    exact ⟨_, rfl, own_up HO.out (Below.size (show Below w.heap.size w wA by (repeat' (first | (with_reducible exact Below.refl _ _) | (with_reducible refine Below.alloc ?_ ?_ _) | (with_reducible refine Below.setCell ?_ ?_ _) | (with_reducible refine Below.drew ?_) | (with_reducible refine below_drewN ?_ _) | (with_reducible assumption) | (with_reducible refine below_after (by with_reducible assumption) ?_) | go_size)))), by (repeat' (first | (with_reducible exact Below.refl _ _) | (with_reducible refine Below.alloc ?_ ?_ _) | (with_reducible refine Below.setCell ?_ ?_ _) | (with_reducible refine Below.drew ?_) | (with_reducible refine below_drewN ?_ _) | (with_reducible assumption) | (with_reducible refine below_after (by with_reducible assumption) ?_) | go_size))⟩
  · have hR : lnR (a, b) (c, d) = [] := by unfold lnR; rw [if_neg hc]
    have hQ : sqR (a, b) (c, d) = [] := by unfold sqR; rw [if_neg hc]
    rw [hR]
    rw [hQ] at HSQ
    generalize slC (a, b) (c, d) = C at *
    clear hR hQ hn hc
    have hs20 : w.heap.size < w.heap.size + 1 + 1 := (by omega); have hs30 : w.heap.size < w.heap.size + 1 + 1 + 1 := (by omega); have hs31 : w.heap.size + 1 < w.heap.size + 1 + 1 + 1 := (by omega)
    go_enter Try.func25, Try.ntmps25
    go_wp2_with (first | (go_at_call 32; refine (HSQ.out _).mono ?_; rintro e wA ⟨v, rfl, ho, hb⟩; obtain ⟨a1, c1, rfl⟩ := own_viewI ho; clear ho; first | (have h2 := after_call2 hb hcl hfr hlt (by ((repeat' (first | (with_reducible exact Below.refl _ _) | (with_reducible refine Below.alloc ?_ ?_ _) | (with_reducible refine Below.setCell ?_ ?_ _) | (with_reducible refine Below.drew ?_) | (with_reducible refine below_drewN ?_ _) | (with_reducible assumption) | (with_reducible refine below_after (by with_reducible assumption) ?_) | go_size)); done)); obtain ⟨hclx, hfrx, hltx, hsz⟩ := after_call hb; (try simp only [World.size_alloc, World.size_setCell, World.size_drew] at hclx hfrx hltx hsz); (try (have hszl := Nat.lt_of_succ_le hsz)); obtain ⟨hcl, hfr, hlt⟩ := h2) | (obtain ⟨hcl, hfr, hlt, hsz⟩ := after_call hb; (try simp only [World.size_alloc, World.size_setCell, World.size_drew] at hcl hfr hlt hsz))) | (go_at_call 51; refine (everySecond_none _ _ _ _ (by decide)).mono ?_; rintro e wn ⟨rfl, rfl⟩))
    go_ret2
    exact ⟨_, rfl, World.ownsRow_nil _ _ _ _, by (repeat' (first | (with_reducible exact Below.refl _ _) | (with_reducible refine Below.alloc ?_ ?_ _) | (with_reducible refine Below.setCell ?_ ?_ _) | (with_reducible refine Below.drew ?_) | (with_reducible refine below_drewN ?_ _) | (with_reducible assumption) | (with_reducible refine below_after (by with_reducible assumption) ?_) | go_size))⟩
theorem impl_SailSines_any (a b c d : Int) (w : World) : Calls Try.prog 30 #[.agg #[.int .i64 a, .int .i64 b], .agg #[.int .i64 c, .int .i64 d]] w (RetIC w (snR (a, b) (c, d)) (slC (a, b) (c, d))) := by
  have HSQ : Hid (∀ w, Calls Try.prog 32 #[.agg #[.int .i64 a, .int .i64 b], .agg #[.int .i64 c, .int .i64 d]] w (RetIC w (sqR (a, b) (c, d)) (slC (a, b) (c, d)))) := fun w => impl_SequenceOf_any a b c d w
  rcases sl_cases (a, b) (c, d) with ⟨hc, _, _, _, h2, h3⟩ | ⟨hc, hn, _⟩
  · have hR : snR (a, b) (c, d) = snS (cnL (a, b) (c, d)) := by unfold snR; rw [if_pos hc]
    have hQ : sqR (a, b) (c, d) = sqS (cnL (a, b) (c, d)) := by unfold sqR; rw [if_pos hc]
    have hcn := (cnL_of (a, b) (c, d)).1
    have hcl := cn_len (a, b) (c, d)
    rw [hR, hc]
    rw [hQ, hc] at HSQ
    obtain ⟨cs, hcs⟩ : ∃ cs, cnL (a, b) (c, d) = cs := ⟨_, rfl⟩
    rw [hcs] at HSQ hcn hcl ⊢
    have hp := ptsL_ne (cs := cs) (by omega)
    have hpl := ptsL_len cs
    have hx := lnS_len cs
    have hy := snS_len cs
    have hql : (sqS cs).length = (lnS cs).length + (snS cs).length := ilv_len _ _ (by omega)
    obtain ⟨F, hF⟩ : ∃ F, sqS cs = F := ⟨_, rfl⟩
    have HEV : Hid (∀ q cp w, NumAt w q F → Calls Try.prog 51 #[.slice (some ⟨q, 0, none⟩) F.length cp, .int .i64 1] w (RetI w (snS cs))) := by
      intro q cp w h
      rw [← hF] at h ⊢
      refine everySecond_some (sqS cs) (snS cs) 1 q cp _ _ w rfl (by omega) (by omega) rfl (fun t ht => ⟨by omega, ?_⟩) (by omega) h
      have := ilv_odd (lnS cs) (snS cs) t ht (by omega)
      rw [show 1 + 2 * t = 2 * t + 1 by omega]
      exact this
    rw [hF] at HSQ
    have hF1 : 0 < F.length := by rw [← hF]; omega
    obtain ⟨Z, hZ⟩ : ∃ Z, snS cs = Z := ⟨_, rfl⟩
    rw [hZ] at HEV ⊢
    obtain ⟨N, hNe⟩ : ∃ N, F.length = N := ⟨_, rfl⟩
    rw [hNe] at HEV hF1
    have HNE := Lib.hid hNe
    have HF1 := Lib.hid hF1
    clear hc h2 h3 hR hQ hcn hcl hcs hp hpl hx hy hql hF hZ hNe hF1
    have hs20 : w.heap.size < w.heap.size + 1 + 1 := (by omega); have hs30 : w.heap.size < w.heap.size + 1 + 1 + 1 := (by omega); have hs31 : w.heap.size + 1 < w.heap.size + 1 + 1 + 1 := (by omega)
    go_enter Try.func30, Try.ntmps30
    go_wp2_with (first | (go_at_call 32; refine (HSQ.out _).mono ?_; rintro e wA ⟨v, rfl, ho, hb⟩; obtain ⟨a1, c1, e, hv⟩ := own_view ho; rw [HNE.out] at e; subst e; obtain ⟨q, rfl, _⟩ := hv (by rw [HNE.out]; exact HF1.out); have HNU := Lib.hid (NumAt.own ho (by rw [HNE.out]; exact HF1.out)); clear ho hv; first | (have h2 := after_call2 hb hcl hfr hlt (by ((repeat' (first | (with_reducible exact Below.refl _ _) | (with_reducible refine Below.alloc ?_ ?_ _) | (with_reducible refine Below.setCell ?_ ?_ _) | (with_reducible refine Below.drew ?_) | (with_reducible refine below_drewN ?_ _) | (with_reducible assumption) | (with_reducible refine below_after (by with_reducible assumption) ?_) | go_size)); done)); obtain ⟨hclx, hfrx, hltx, hsz⟩ := after_call hb; (try simp only [World.size_alloc, World.size_setCell, World.size_drew] at hclx hfrx hltx hsz); (try (have hszl := Nat.lt_of_succ_le hsz)); obtain ⟨hcl, hfr, hlt⟩ := h2) | (obtain ⟨hcl, hfr, hlt, hsz⟩ := after_call hb; (try simp only [World.size_alloc, World.size_setCell, World.size_drew] at hcl hfr hlt hsz))) | (go_at_call 51; refine (HEV.out _ _ _ HNU.out).mono ?_; rintro e wB ⟨v, rfl, ho, hb⟩; have HO := Lib.hid ho; obtain ⟨a2, c2, rfl⟩ := own_viewI ho; clear ho; first | (have h2 := after_call2 hb hcl hfr hlt (by ((repeat' (first | (with_reducible exact Below.refl _ _) | (with_reducible refine Below.alloc ?_ ?_ _) | (with_reducible refine Below.setCell ?_ ?_ _) | (with_reducible refine Below.drew ?_) | (with_reducible refine below_drewN ?_ _) | (with_reducible assumption) | (with_reducible refine below_after (by with_reducible assumption) ?_) | go_size)); done)); obtain ⟨hclx, hfrx, hltx, hsz⟩ := after_call hb; (try simp only [World.size_alloc, World.size_setCell, World.size_drew] at hclx hfrx hltx hsz); (try (have hszl := Nat.lt_of_succ_le hsz)); obtain ⟨hcl, hfr, hlt⟩ := h2) | (obtain ⟨hcl, hfr, hlt, hsz⟩ := after_call hb; (try simp only [World.size_alloc, World.size_setCell, World.size_drew] at hcl hfr hlt hsz))))
    go_ret2
    exact ⟨_, rfl, own_up HO.out (Below.size (show Below w.heap.size w wA by (repeat' (first | (with_reducible exact Below.refl _ _) | (with_reducible refine Below.alloc ?_ ?_ _) | (with_reducible refine Below.setCell ?_ ?_ _) | (with_reducible refine Below.drew ?_) | (with_reducible refine below_drewN ?_ _) | (with_reducible assumption) | (with_reducible refine below_after (by with_reducible assumption) ?_) | go_size)))), by (repeat' (first | (with_reducible exact Below.refl _ _) | (with_reducible refine Below.alloc ?_ ?_ _) | (with_reducible refine Below.setCell ?_ ?_ _) | (with_reducible refine Below.drew ?_) | (with_reducible refine below_drewN ?_ _) | (with_reducible assumption) | (with_reducible refine below_after (by with_reducible assumption) ?_) | go_size))⟩
  · have hR : snR (a, b) (c, d) = [] := by unfold snR; rw [if_neg hc]
    have hQ : sqR (a, b) (c, d) = [] := by unfold sqR; rw [if_neg hc]
    rw [hR]
    rw [hQ] at HSQ
    generalize slC (a, b) (c, d) = C at *
    clear hR hQ hn hc
    have hs20 : w.heap.size < w.heap.size + 1 + 1 := (by omega); have hs30 : w.heap.size < w.heap.size + 1 + 1 + 1 := (by omega); have hs31 : w.heap.size + 1 < w.heap.size + 1 + 1 + 1 := (by omega)
    go_enter Try.func30, Try.ntmps30
    go_wp2_with (first | (go_at_call 32; refine (HSQ.out _).mono ?_; rintro e wA ⟨v, rfl, ho, hb⟩; obtain ⟨a1, c1, rfl⟩ := own_viewI ho; clear ho; first | (have h2 := after_call2 hb hcl hfr hlt (by ((repeat' (first | (with_reducible exact Below.refl _ _) | (with_reducible refine Below.alloc ?_ ?_ _) | (with_reducible refine Below.setCell ?_ ?_ _) | (with_reducible refine Below.drew ?_) | (with_reducible refine below_drewN ?_ _) | (with_reducible assumption) | (with_reducible refine below_after (by with_reducible assumption) ?_) | go_size)); done)); obtain ⟨hclx, hfrx, hltx, hsz⟩ := after_call hb; (try simp only [World.size_alloc, World.size_setCell, World.size_drew] at hclx hfrx hltx hsz); (try (have hszl := Nat.lt_of_succ_le hsz)); obtain ⟨hcl, hfr, hlt⟩ := h2) | (obtain ⟨hcl, hfr, hlt, hsz⟩ := after_call hb; (try simp only [World.size_alloc, World.size_setCell, World.size_drew] at hcl hfr hlt hsz))) | (go_at_call 51; refine (everySecond_none _ _ _ _ (by decide)).mono ?_; rintro e wn ⟨rfl, rfl⟩))
    go_ret2
    exact ⟨_, rfl, World.ownsRow_nil _ _ _ _, by (repeat' (first | (with_reducible exact Below.refl _ _) | (with_reducible refine Below.alloc ?_ ?_ _) | (with_reducible refine Below.setCell ?_ ?_ _) | (with_reducible refine Below.drew ?_) | (with_reducible refine below_drewN ?_ _) | (with_reducible assumption) | (with_reducible refine below_after (by with_reducible assumption) ?_) | go_size))⟩
end Go.Proofs.Ytjiaokcbhpmodaa
