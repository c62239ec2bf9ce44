/- The document's own line. Contract; no condition but that the line is short and the module small. -/
import Derived.Test.YtohlifeenhaifaaGreatDoorRef13L
namespace Go.Proofs.YtohlifeenhaifaaGreatDoor
open Go.RowKit Go.Shelf
set_option linter.unusedVariables false
set_option linter.unusedSimpArgs false
section
variable {base b0 : Nat} {w : World} {V D F : Value} {s0 : ByteArray} {r : List ByteArray} {m : ModV} {Cs : List Value}
set_option maxRecDepth 100000 in
set_option maxHeartbeats 8000000 in
theorem rline13_bytes_in (h : LnIn13 base b0 w V D F s0 r m Cs) (h1 : lettersOf s0 = bytesW) (h2 : m.funcs ≠ []) :
    Calls Tryz.prog 41 #[.agg #[D, F], V] w (LineDn13 base m w ((s0 :: r).map lettersOf)) := by
  obtain ⟨n, hn⟩ : ∃ n, n = r.length := ⟨_, rfl⟩
  obtain ⟨DA, dc, hDe⟩ := owns_len h.mo.dat
  obtain ⟨FA, fc, hFe⟩ := owns_len h.mo.fns.fown
  obtain ⟨dn, hdn⟩ : ∃ n, n = m.data.length := ⟨_, rfl⟩
  obtain ⟨fn, hfn⟩ : ∃ n, n = m.funcs.length := ⟨_, rfl⟩
  rw [← hdn] at hDe
  rw [← hfn] at hFe
  subst hDe hFe
  obtain ⟨VA, vc, hVe⟩ := h.strs.len
  rw [List.length_cons, ← hn] at hVe
  subst hVe
  obtain ⟨vb, vo, hVA, hcap, hvb, hc0, vo', vc', hsl, hvt⟩ := strs_tail_is13 hn h.strs
  subst hVA
  have HT := Lib.hid hvt
  have hln : n ≤ 4000 := by rw [hn]; exact h.len
  have hn0 : (0 : Int) < (n : Int) + 1 := by omega
  have hwr : IntKind.i64.wrap ((n : Int) + 1 - 1) = (n : Int) := by rw [IntKind.wrap_i64]; omega
  have hfl : fn ≤ 900000 := by rw [hfn]; exact h.fns
  have HI := Lib.hid h
  have hL0 := Ln13.start h.mo h.hbw
  have hb0 : Below w.heap.size w ((w.alloc (.cells #[.slice DA dn dc, .slice FA fn fc] 25)).alloc (.cells #[.slice none 0 0, .slice none 0 0] 25)) := ((Below.refl _ w).alloc (Nat.le_refl _) _).alloc (by simp) _
  obtain ⟨W0, hW0⟩ : ∃ W0, W0 = (w.alloc (.cells #[.slice DA dn dc, .slice FA fn fc] 25)).alloc (.cells #[.slice none 0 0, .slice none 0 0] 25) := ⟨_, rfl⟩
  rw [← hW0] at hL0 hb0
  have L0 := Lib.hid hL0
  have B0 := Lib.hid hb0
  have HW0 := Lib.hid hW0
  have HN := Lib.hid (And.intro hn (And.intro hdn hfn))
  have HFD : Hid (∀ W, Calls Tryz.prog 74 #[.string s0] W (Makes W (.int .i64 (findW (lettersOf s0))))) := Lib.hid (fun W => by rw [← findV_W]; exact rfind_any s0 W)
  have HC0 : Hid (∀ W, Below w.heap.size w W → W.cell? ⟨vb, vo, none⟩ = some (.string s0)) := Lib.hid (fun W hb => (hb.cell (p := ⟨vb, vo, none⟩) hvb).trans hc0)
  have c0 := HC0.out W0 hb0
  clear hn hdn hfn hvt hL0 hb0 hW0 hvb hc0
  have tb := bytesB_yes h1
  have hf0 : ((fn : Int) == 0) = false := by
    have : fn ≠ 0 := by rw [HN.out.2.2]; exact fun e => h2 (List.eq_nil_of_length_eq_zero e)
    simpa using this
  have HLP : Hid ((lineP m ((s0 :: r).map lettersOf)).2 = 10) := Lib.hid (line_bytes_in h1 h2)
  clear h1 h2
  go_enter Tryz.func41, Tryz.ntmps41
  go_wp2_with (first
    | (rw [← HW0.out])
    | (go_at_call 74; (with_reducible refine (HFD.out _).mono ?_); rintro e w2 ⟨rfl, hb⟩; have L2 := Lib.hid (L0.out.grow hb); have B2 := Lib.hid (B0.out.trans (hb.mono B0.out.size)); clear c0; have c0 := HC0.out _ B2.out; obtain ⟨x0, x1⟩ := L2.out.mdl.cells; obtain ⟨y0, y1⟩ := cells2 L2.out.res; have g0 := frozen_of_row w2 (w.heap.size + 1) 0 _ _ L2.out.res; have g1 := frozen_of_row w2 (w.heap.size + 1) 1 _ _ L2.out.res; clear hb))
  exact bodyPost_ret (v := .tuple #[.agg #[.slice DA dn dc, .slice FA fn fc], .int .i64 10]) (by simp [results, Tryz.results41, go_sem, y0, y1]) rfl (ln_end13 L2.out.res L2.out.bel L2.out.hbw HLP.out (fun h => absurd h (by decide)))
set_option maxRecDepth 100000 in
set_option maxHeartbeats 8000000 in
theorem rline13_func_n (h : LnIn13 base b0 w V D F s0 r m Cs) (h1 : lettersOf s0 = funcW) (h2 : r.length ≠ 3) :
    Calls Tryz.prog 41 #[.agg #[D, F], V] w (LineDn13 base m w ((s0 :: r).map lettersOf)) := by
  obtain ⟨n, hn⟩ : ∃ n, n = r.length := ⟨_, rfl⟩
  obtain ⟨DA, dc, hDe⟩ := owns_len h.mo.dat
  obtain ⟨FA, fc, hFe⟩ := owns_len h.mo.fns.fown
  obtain ⟨dn, hdn⟩ : ∃ n, n = m.data.length := ⟨_, rfl⟩
  obtain ⟨fn, hfn⟩ : ∃ n, n = m.funcs.length := ⟨_, rfl⟩
  rw [← hdn] at hDe
  rw [← hfn] at hFe
  subst hDe hFe
  obtain ⟨VA, vc, hVe⟩ := h.strs.len
  rw [List.length_cons, ← hn] at hVe
  subst hVe
  obtain ⟨vb, vo, hVA, hcap, hvb, hc0, vo', vc', hsl, hvt⟩ := strs_tail_is13 hn h.strs
  subst hVA
  have HT := Lib.hid hvt
  have hln : n ≤ 4000 := by rw [hn]; exact h.len
  have hn0 : (0 : Int) < (n : Int) + 1 := by omega
  have hwr : IntKind.i64.wrap ((n : Int) + 1 - 1) = (n : Int) := by rw [IntKind.wrap_i64]; omega
  have hfl : fn ≤ 900000 := by rw [hfn]; exact h.fns
  have HI := Lib.hid h
  have hL0 := Ln13.start h.mo h.hbw
  have hb0 : Below w.heap.size w ((w.alloc (.cells #[.slice DA dn dc, .slice FA fn fc] 25)).alloc (.cells #[.slice none 0 0, .slice none 0 0] 25)) := ((Below.refl _ w).alloc (Nat.le_refl _) _).alloc (by simp) _
  obtain ⟨W0, hW0⟩ : ∃ W0, W0 = (w.alloc (.cells #[.slice DA dn dc, .slice FA fn fc] 25)).alloc (.cells #[.slice none 0 0, .slice none 0 0] 25) := ⟨_, rfl⟩
  rw [← hW0] at hL0 hb0
  have L0 := Lib.hid hL0
  have B0 := Lib.hid hb0
  have HW0 := Lib.hid hW0
  have HN := Lib.hid (And.intro hn (And.intro hdn hfn))
  have HFD : Hid (∀ W, Calls Tryz.prog 74 #[.string s0] W (Makes W (.int .i64 (findW (lettersOf s0))))) := Lib.hid (fun W => by rw [← findV_W]; exact rfind_any s0 W)
  have HC0 : Hid (∀ W, Below w.heap.size w W → W.cell? ⟨vb, vo, none⟩ = some (.string s0)) := Lib.hid (fun W hb => (hb.cell (p := ⟨vb, vo, none⟩) hvb).trans hc0)
  have c0 := HC0.out W0 hb0
  clear hn hdn hfn hvt hL0 hb0 hW0 hvb hc0
  have tf := funcB_yes h1
  have tb := bytesB_no (s0 := s0) (by rw [h1]; decide)
  have hf0 : ((n : Int) + 1 == 4) = false := by
    have : ¬ (n : Int) + 1 = 4 := by have := HN.out.1; omega
    simpa using this
  have HLP : Hid ((lineP m ((s0 :: r).map lettersOf)).2 = 10) := Lib.hid (by
    unfold lineP
    rw [List.map_cons, List.headD_cons, if_neg (by rw [h1]; decide), if_pos h1, if_pos (by simp; omega)])
  clear h1 h2
  go_enter Tryz.func41, Tryz.ntmps41
  go_wp2_with (first
    | (rw [← HW0.out])
    | (go_at_call 74; (with_reducible refine (HFD.out _).mono ?_); rintro e w2 ⟨rfl, hb⟩; have L2 := Lib.hid (L0.out.grow hb); have B2 := Lib.hid (B0.out.trans (hb.mono B0.out.size)); clear c0; have c0 := HC0.out _ B2.out; obtain ⟨x0, x1⟩ := L2.out.mdl.cells; obtain ⟨y0, y1⟩ := cells2 L2.out.res; have g0 := frozen_of_row w2 (w.heap.size + 1) 0 _ _ L2.out.res; have g1 := frozen_of_row w2 (w.heap.size + 1) 1 _ _ L2.out.res; clear hb))
  exact bodyPost_ret (v := .tuple #[.agg #[.slice DA dn dc, .slice FA fn fc], .int .i64 10]) (by simp [results, Tryz.results41, go_sem, y0, y1]) rfl (ln_end13 L2.out.res L2.out.bel L2.out.hbw HLP.out (fun h => absurd h (by decide)))
set_option maxRecDepth 100000 in
set_option maxHeartbeats 8000000 in
theorem rline13_op_none (h : LnIn13 base b0 w V D F s0 r m Cs) (h1 : lettersOf s0 ≠ bytesW) (h2 : lettersOf s0 ≠ funcW) (h3 : 0 ≤ findW (lettersOf s0)) (h4 : m.funcs = []) :
    Calls Tryz.prog 41 #[.agg #[D, F], V] w (LineDn13 base m w ((s0 :: r).map lettersOf)) := by
  obtain ⟨n, hn⟩ : ∃ n, n = r.length := ⟨_, rfl⟩
  obtain ⟨DA, dc, hDe⟩ := owns_len h.mo.dat
  obtain ⟨FA, fc, hFe⟩ := owns_len h.mo.fns.fown
  obtain ⟨dn, hdn⟩ : ∃ n, n = m.data.length := ⟨_, rfl⟩
  obtain ⟨fn, hfn⟩ : ∃ n, n = m.funcs.length := ⟨_, rfl⟩
  rw [← hdn] at hDe
  rw [← hfn] at hFe
  subst hDe hFe
  obtain ⟨VA, vc, hVe⟩ := h.strs.len
  rw [List.length_cons, ← hn] at hVe
  subst hVe
  obtain ⟨vb, vo, hVA, hcap, hvb, hc0, vo', vc', hsl, hvt⟩ := strs_tail_is13 hn h.strs
  subst hVA
  have HT := Lib.hid hvt
  have hln : n ≤ 4000 := by rw [hn]; exact h.len
  have hn0 : (0 : Int) < (n : Int) + 1 := by omega
  have hwr : IntKind.i64.wrap ((n : Int) + 1 - 1) = (n : Int) := by rw [IntKind.wrap_i64]; omega
  have hfl : fn ≤ 900000 := by rw [hfn]; exact h.fns
  have HI := Lib.hid h
  have hL0 := Ln13.start h.mo h.hbw
  have hb0 : Below w.heap.size w ((w.alloc (.cells #[.slice DA dn dc, .slice FA fn fc] 25)).alloc (.cells #[.slice none 0 0, .slice none 0 0] 25)) := ((Below.refl _ w).alloc (Nat.le_refl _) _).alloc (by simp) _
  obtain ⟨W0, hW0⟩ : ∃ W0, W0 = (w.alloc (.cells #[.slice DA dn dc, .slice FA fn fc] 25)).alloc (.cells #[.slice none 0 0, .slice none 0 0] 25) := ⟨_, rfl⟩
  rw [← hW0] at hL0 hb0
  have L0 := Lib.hid hL0
  have B0 := Lib.hid hb0
  have HW0 := Lib.hid hW0
  have HN := Lib.hid (And.intro hn (And.intro hdn hfn))
  have HFD : Hid (∀ W, Calls Tryz.prog 74 #[.string s0] W (Makes W (.int .i64 (findW (lettersOf s0))))) := Lib.hid (fun W => by rw [← findV_W]; exact rfind_any s0 W)
  have HC0 : Hid (∀ W, Below w.heap.size w W → W.cell? ⟨vb, vo, none⟩ = some (.string s0)) := Lib.hid (fun W hb => (hb.cell (p := ⟨vb, vo, none⟩) hvb).trans hc0)
  have c0 := HC0.out W0 hb0
  clear hn hdn hfn hvt hL0 hb0 hW0 hvb hc0
  have tf := funcB_no h2
  have tb := bytesB_no h1
  have hf0 : ¬ (0 : Int) < (fn : Int) := by have := HN.out.2.2; rw [h4] at this; simp at this; omega
  have HLP : Hid ((lineP m ((s0 :: r).map lettersOf)).2 = 10) := Lib.hid (line_out h1 h2 (.inr h4))
  have hf1 : decide ((0 : Int) < (fn : Int)) = false := decide_eq_false hf0
  have hf2 : decide ((0 : Int) ≤ findW (lettersOf s0)) = true := decide_eq_true h3
  generalize findW (lettersOf s0) = op at *
  clear h1 h2 h4
  go_enter Tryz.func41, Tryz.ntmps41
  go_wp2_with (first
    | (rw [← HW0.out])
    | (go_at_call 74; (with_reducible refine (HFD.out _).mono ?_); rintro e w2 ⟨rfl, hb⟩; have L2 := Lib.hid (L0.out.grow hb); have B2 := Lib.hid (B0.out.trans (hb.mono B0.out.size)); clear c0; have c0 := HC0.out _ B2.out; obtain ⟨x0, x1⟩ := L2.out.mdl.cells; obtain ⟨y0, y1⟩ := cells2 L2.out.res; have g0 := frozen_of_row w2 (w.heap.size + 1) 0 _ _ L2.out.res; have g1 := frozen_of_row w2 (w.heap.size + 1) 1 _ _ L2.out.res; clear hb))
  exact bodyPost_ret (v := .tuple #[.agg #[.slice DA dn dc, .slice FA fn fc], .int .i64 10]) (by simp [results, Tryz.results41, go_sem, y0, y1]) rfl (ln_end13 L2.out.res L2.out.bel L2.out.hbw HLP.out (fun h => absurd h (by decide)))
set_option maxRecDepth 100000 in
set_option maxHeartbeats 8000000 in
theorem rline13_no (h : LnIn13 base b0 w V D F s0 r m Cs) (h1 : lettersOf s0 ≠ bytesW) (h2 : lettersOf s0 ≠ funcW) (h3 : findW (lettersOf s0) < 0) :
    Calls Tryz.prog 41 #[.agg #[D, F], V] w (LineDn13 base m w ((s0 :: r).map lettersOf)) := by
  obtain ⟨n, hn⟩ : ∃ n, n = r.length := ⟨_, rfl⟩
  obtain ⟨DA, dc, hDe⟩ := owns_len h.mo.dat
  obtain ⟨FA, fc, hFe⟩ := owns_len h.mo.fns.fown
  obtain ⟨dn, hdn⟩ : ∃ n, n = m.data.length := ⟨_, rfl⟩
  obtain ⟨fn, hfn⟩ : ∃ n, n = m.funcs.length := ⟨_, rfl⟩
  rw [← hdn] at hDe
  rw [← hfn] at hFe
  subst hDe hFe
  obtain ⟨VA, vc, hVe⟩ := h.strs.len
  rw [List.length_cons, ← hn] at hVe
  subst hVe
  obtain ⟨vb, vo, hVA, hcap, hvb, hc0, vo', vc', hsl, hvt⟩ := strs_tail_is13 hn h.strs
  subst hVA
  have HT := Lib.hid hvt
  have hln : n ≤ 4000 := by rw [hn]; exact h.len
  have hn0 : (0 : Int) < (n : Int) + 1 := by omega
  have hwr : IntKind.i64.wrap ((n : Int) + 1 - 1) = (n : Int) := by rw [IntKind.wrap_i64]; omega
  have hfl : fn ≤ 900000 := by rw [hfn]; exact h.fns
  have HI := Lib.hid h
  have hL0 := Ln13.start h.mo h.hbw
  have hb0 : Below w.heap.size w ((w.alloc (.cells #[.slice DA dn dc, .slice FA fn fc] 25)).alloc (.cells #[.slice none 0 0, .slice none 0 0] 25)) := ((Below.refl _ w).alloc (Nat.le_refl _) _).alloc (by simp) _
  obtain ⟨W0, hW0⟩ : ∃ W0, W0 = (w.alloc (.cells #[.slice DA dn dc, .slice FA fn fc] 25)).alloc (.cells #[.slice none 0 0, .slice none 0 0] 25) := ⟨_, rfl⟩
  rw [← hW0] at hL0 hb0
  have L0 := Lib.hid hL0
  have B0 := Lib.hid hb0
  have HW0 := Lib.hid hW0
  have HN := Lib.hid (And.intro hn (And.intro hdn hfn))
  have HFD : Hid (∀ W, Calls Tryz.prog 74 #[.string s0] W (Makes W (.int .i64 (findW (lettersOf s0))))) := Lib.hid (fun W => by rw [← findV_W]; exact rfind_any s0 W)
  have HC0 : Hid (∀ W, Below w.heap.size w W → W.cell? ⟨vb, vo, none⟩ = some (.string s0)) := Lib.hid (fun W hb => (hb.cell (p := ⟨vb, vo, none⟩) hvb).trans hc0)
  have c0 := HC0.out W0 hb0
  clear hn hdn hfn hvt hL0 hb0 hW0 hvb hc0
  have tf := funcB_no h2
  have tb := bytesB_no h1
  have hf0 : ¬ (0 : Int) ≤ findW (lettersOf s0) := by omega
  have HLP : Hid ((lineP m ((s0 :: r).map lettersOf)).2 = 10) := Lib.hid (line_out h1 h2 (.inl h3))
  generalize findW (lettersOf s0) = op at *
  clear h1 h2
  go_enter Tryz.func41, Tryz.ntmps41
  go_wp2_with (first
    | (rw [← HW0.out])
    | (go_at_call 74; (with_reducible refine (HFD.out _).mono ?_); rintro e w2 ⟨rfl, hb⟩; have L2 := Lib.hid (L0.out.grow hb); have B2 := Lib.hid (B0.out.trans (hb.mono B0.out.size)); clear c0; have c0 := HC0.out _ B2.out; obtain ⟨x0, x1⟩ := L2.out.mdl.cells; obtain ⟨y0, y1⟩ := cells2 L2.out.res; have g0 := frozen_of_row w2 (w.heap.size + 1) 0 _ _ L2.out.res; have g1 := frozen_of_row w2 (w.heap.size + 1) 1 _ _ L2.out.res; clear hb))
  exact bodyPost_ret (v := .tuple #[.agg #[.slice DA dn dc, .slice FA fn fc], .int .i64 10]) (by simp [results, Tryz.results41, go_sem, y0, y1]) rfl (ln_end13 L2.out.res L2.out.bel L2.out.hbw HLP.out (fun h => absurd h (by decide)))
set_option maxRecDepth 100000 in
set_option maxHeartbeats 8000000 in
theorem rline13_op_few (h : LnIn13 base b0 w V D F s0 r m Cs) (h1 : lettersOf s0 ≠ bytesW) (h2 : lettersOf s0 ≠ funcW) (h3 : 0 ≤ findW (lettersOf s0)) (h4 : m.funcs ≠ []) (h5 : fieldsP (findW (lettersOf s0)) (List.replicate r.length 0) = none) :
    Calls Tryz.prog 41 #[.agg #[D, F], V] w (LineDn13 base m w ((s0 :: r).map lettersOf)) := by
  obtain ⟨n, hn⟩ : ∃ n, n = r.length := ⟨_, rfl⟩
  obtain ⟨DA, dc, hDe⟩ := owns_len h.mo.dat
  obtain ⟨FA, fc, hFe⟩ := owns_len h.mo.fns.fown
  obtain ⟨dn, hdn⟩ : ∃ n, n = m.data.length := ⟨_, rfl⟩
  obtain ⟨fn, hfn⟩ : ∃ n, n = m.funcs.length := ⟨_, rfl⟩
  rw [← hdn] at hDe
  rw [← hfn] at hFe
  subst hDe hFe
  obtain ⟨VA, vc, hVe⟩ := h.strs.len
  rw [List.length_cons, ← hn] at hVe
  subst hVe
  obtain ⟨vb, vo, hVA, hcap, hvb, hc0, vo', vc', hsl, hvt⟩ := strs_tail_is13 hn h.strs
  subst hVA
  have HT := Lib.hid hvt
  have hln : n ≤ 4000 := by rw [hn]; exact h.len
  have hn0 : (0 : Int) < (n : Int) + 1 := by omega
  have hwr : IntKind.i64.wrap ((n : Int) + 1 - 1) = (n : Int) := by rw [IntKind.wrap_i64]; omega
  have hfl : fn ≤ 900000 := by rw [hfn]; exact h.fns
  have HI := Lib.hid h
  have hL0 := Ln13.start h.mo h.hbw
  have hb0 : Below w.heap.size w ((w.alloc (.cells #[.slice DA dn dc, .slice FA fn fc] 25)).alloc (.cells #[.slice none 0 0, .slice none 0 0] 25)) := ((Below.refl _ w).alloc (Nat.le_refl _) _).alloc (by simp) _
  obtain ⟨W0, hW0⟩ : ∃ W0, W0 = (w.alloc (.cells #[.slice DA dn dc, .slice FA fn fc] 25)).alloc (.cells #[.slice none 0 0, .slice none 0 0] 25) := ⟨_, rfl⟩
  rw [← hW0] at hL0 hb0
  have L0 := Lib.hid hL0
  have B0 := Lib.hid hb0
  have HW0 := Lib.hid hW0
  have HN := Lib.hid (And.intro hn (And.intro hdn hfn))
  have HFD : Hid (∀ W, Calls Tryz.prog 74 #[.string s0] W (Makes W (.int .i64 (findW (lettersOf s0))))) := Lib.hid (fun W => by rw [← findV_W]; exact rfind_any s0 W)
  have HC0 : Hid (∀ W, Below w.heap.size w W → W.cell? ⟨vb, vo, none⟩ = some (.string s0)) := Lib.hid (fun W hb => (hb.cell (p := ⟨vb, vo, none⟩) hvb).trans hc0)
  have c0 := HC0.out W0 hb0
  clear hn hdn hfn hvt hL0 hb0 hW0 hvb hc0
  have tf := funcB_no h2
  have tb := bytesB_no h1
  have hf0 : (0 : Int) < (fn : Int) := by have : fn ≠ 0 := (by rw [HN.out.2.2]; exact fun e => h4 (List.eq_nil_of_length_eq_zero e)); omega
  have HLP : Hid ((lineP m ((s0 :: r).map lettersOf)).2 = 10) := Lib.hid (by
    unfold lineP
    rw [List.map_cons, List.headD_cons, if_neg h1, if_neg h2, if_pos h3, if_pos (.inr (by simpa using h5))])
  have HMY : Hid (∀ W, Calls Tryz.prog 75 #[.int .i64 (findW (lettersOf s0)), .int .i64 n] W (Makes W (.bool false))) := Lib.hid (fun W => by
    have hz := rmany13_any (findW (lettersOf s0)) n W (by omega)
    rw [HN.out.1, h5] at hz
    rw [HN.out.1]
    exact hz)
  generalize findW (lettersOf s0) = op at *
  clear h1 h2 h4 h5
  go_enter Tryz.func41, Tryz.ntmps41
  go_wp2_with (first
    | (rw [← HW0.out])
    | (go_at_call 74; (with_reducible refine (HFD.out _).mono ?_); rintro e w2 ⟨rfl, hb⟩; have L2 := Lib.hid (L0.out.grow hb); have B2 := Lib.hid (B0.out.trans (hb.mono B0.out.size)); clear c0; have c0 := HC0.out _ B2.out; obtain ⟨x0, x1⟩ := L2.out.mdl.cells; obtain ⟨y0, y1⟩ := cells2 L2.out.res; have g0 := frozen_of_row w2 (w.heap.size + 1) 0 _ _ L2.out.res; have g1 := frozen_of_row w2 (w.heap.size + 1) 1 _ _ L2.out.res; clear hb)
    | (go_at_call 75; (with_reducible refine (HMY.out _).mono ?_); rintro e w3 ⟨rfl, hb⟩; have L3 := Lib.hid (L2.out.grow hb); have B3 := Lib.hid (B2.out.trans (hb.mono B2.out.size)); clear c0 x0 x1 y0 y1 g0 g1; have c0 := HC0.out _ B3.out; obtain ⟨x0, x1⟩ := L3.out.mdl.cells; obtain ⟨y0, y1⟩ := cells2 L3.out.res; have g0 := frozen_of_row w3 (w.heap.size + 1) 0 _ _ L3.out.res; have g1 := frozen_of_row w3 (w.heap.size + 1) 1 _ _ L3.out.res; clear hb))
  exact bodyPost_ret (v := .tuple #[.agg #[.slice DA dn dc, .slice FA fn fc], .int .i64 10]) (by simp [results, Tryz.results41, go_sem, y0, y1]) rfl (ln_end13 L3.out.res L3.out.bel L3.out.hbw HLP.out (fun h => absurd h (by decide)))
set_option maxRecDepth 100000 in
set_option maxHeartbeats 8000000 in
theorem rline13_bytes_bad (h : LnIn13 base b0 w V D F s0 r m Cs) (h1 : lettersOf s0 = bytesW) (h2 : m.funcs = []) (hnone : numsP (r.map lettersOf) = none) :
    Calls Tryz.prog 41 #[.agg #[D, F], V] w (LineDn13 base m w ((s0 :: r).map lettersOf)) := by
  obtain ⟨n, hn⟩ : ∃ n, n = r.length := ⟨_, rfl⟩
  obtain ⟨DA, dc, hDe⟩ := owns_len h.mo.dat
  obtain ⟨FA, fc, hFe⟩ := owns_len h.mo.fns.fown
  obtain ⟨dn, hdn⟩ : ∃ n, n = m.data.length := ⟨_, rfl⟩
  obtain ⟨fn, hfn⟩ : ∃ n, n = m.funcs.length := ⟨_, rfl⟩
  rw [← hdn] at hDe
  rw [← hfn] at hFe
  subst hDe hFe
  obtain ⟨VA, vc, hVe⟩ := h.strs.len
  rw [List.length_cons, ← hn] at hVe
  subst hVe
  obtain ⟨vb, vo, hVA, hcap, hvb, hc0, vo', vc', hsl, hvt⟩ := strs_tail_is13 hn h.strs
  subst hVA
  have HT := Lib.hid hvt
  have hln : n ≤ 4000 := by rw [hn]; exact h.len
  have hn0 : (0 : Int) < (n : Int) + 1 := by omega
  have hwr : IntKind.i64.wrap ((n : Int) + 1 - 1) = (n : Int) := by rw [IntKind.wrap_i64]; omega
  have hfl : fn ≤ 900000 := by rw [hfn]; exact h.fns
  have HI := Lib.hid h
  have hL0 := Ln13.start h.mo h.hbw
  have hb0 : Below w.heap.size w ((w.alloc (.cells #[.slice DA dn dc, .slice FA fn fc] 25)).alloc (.cells #[.slice none 0 0, .slice none 0 0] 25)) := ((Below.refl _ w).alloc (Nat.le_refl _) _).alloc (by simp) _
  obtain ⟨W0, hW0⟩ : ∃ W0, W0 = (w.alloc (.cells #[.slice DA dn dc, .slice FA fn fc] 25)).alloc (.cells #[.slice none 0 0, .slice none 0 0] 25) := ⟨_, rfl⟩
  rw [← hW0] at hL0 hb0
  have L0 := Lib.hid hL0
  have B0 := Lib.hid hb0
  have HW0 := Lib.hid hW0
  have HN := Lib.hid (And.intro hn (And.intro hdn hfn))
  have HFD : Hid (∀ W, Calls Tryz.prog 74 #[.string s0] W (Makes W (.int .i64 (findW (lettersOf s0))))) := Lib.hid (fun W => by rw [← findV_W]; exact rfind_any s0 W)
  have HC0 : Hid (∀ W, Below w.heap.size w W → W.cell? ⟨vb, vo, none⟩ = some (.string s0)) := Lib.hid (fun W hb => (hb.cell (p := ⟨vb, vo, none⟩) hvb).trans hc0)
  have c0 := HC0.out W0 hb0
  clear hn hdn hfn hvt hL0 hb0 hW0 hvb hc0
  have tb := bytesB_yes h1
  have hf0 : ((fn : Int) == 0) = true := by rw [HN.out.2.2, h2]; rfl
  have HLP : Hid ((lineP m ((s0 :: r).map lettersOf)).2 = 5) := Lib.hid (by
    unfold lineP
    rw [List.map_cons, List.headD_cons, if_pos h1, if_neg (by rw [h2]; simp), List.tail_cons, hnone])
  have HNM : Hid (∀ W, Below w.heap.size w W → Calls Tryz.prog 76 #[.slice (some ⟨vb, vo', none⟩) n vc'] W (fun e w' => e = .returned (.tuple #[.slice none 0 0, .bool false]) ∧ Below W.heap.size W w')) := Lib.hid (fun W hb => by
    have hz := rnumbers13_any _ r W ((HT.out.below hb (Nat.le_refl _) (Nat.le_refl _)).more hb.size) (fun x hx => HI.out.sz x (List.mem_cons_of_mem _ hx)) (by have := HI.out.len; omega)
    rw [hnone] at hz
    exact hz)
  clear h1 h2 hnone
  go_enter Tryz.func41, Tryz.ntmps41
  go_wp2_with (first
    | (rw [← HW0.out])
    | (go_at_call 74; (with_reducible refine (HFD.out _).mono ?_); rintro e w2 ⟨rfl, hb⟩; have L2 := Lib.hid (L0.out.grow hb); have B2 := Lib.hid (B0.out.trans (hb.mono B0.out.size)); clear c0; have c0 := HC0.out _ B2.out; obtain ⟨x0, x1⟩ := L2.out.mdl.cells; obtain ⟨y0, y1⟩ := cells2 L2.out.res; have g0 := frozen_of_row w2 (w.heap.size + 1) 0 _ _ L2.out.res; have g1 := frozen_of_row w2 (w.heap.size + 1) 1 _ _ L2.out.res; clear hb)
    | (go_at_call 76; (with_reducible refine (HNM.out _ B2.out).mono ?_); rintro e w4 ⟨rfl, hb⟩; have L4 := Lib.hid (L2.out.grow hb); have B4 := Lib.hid (B2.out.trans (hb.mono B2.out.size)); clear c0 x0 x1 y0 y1 g0 g1; have c0 := HC0.out _ B4.out; obtain ⟨x0, x1⟩ := L4.out.mdl.cells; obtain ⟨y0, y1⟩ := cells2 L4.out.res; have g0 := frozen_of_row w4 (w.heap.size + 1) 0 _ _ L4.out.res; have g1 := frozen_of_row w4 (w.heap.size + 1) 1 _ _ L4.out.res; clear hb))
  exact bodyPost_ret (v := .tuple #[.agg #[.slice DA dn dc, .slice FA fn fc], .int .i64 5]) (by simp [results, Tryz.results41, go_sem, y0, y1]) rfl (ln_end13 L4.out.res L4.out.bel L4.out.hbw HLP.out (fun h => absurd h (by decide)))
set_option maxRecDepth 100000 in
set_option maxHeartbeats 8000000 in
theorem rline13_func_bad (h : LnIn13 base b0 w V D F s0 r m Cs) (h1 : lettersOf s0 = funcW) (h2 : r.length = 3) (hnone : numsP (r.map lettersOf) = none) :
    Calls Tryz.prog 41 #[.agg #[D, F], V] w (LineDn13 base m w ((s0 :: r).map lettersOf)) := by
  obtain ⟨n, hn⟩ : ∃ n, n = r.length := ⟨_, rfl⟩
  obtain ⟨DA, dc, hDe⟩ := owns_len h.mo.dat
  obtain ⟨FA, fc, hFe⟩ := owns_len h.mo.fns.fown
  obtain ⟨dn, hdn⟩ : ∃ n, n = m.data.length := ⟨_, rfl⟩
  obtain ⟨fn, hfn⟩ : ∃ n, n = m.funcs.length := ⟨_, rfl⟩
  rw [← hdn] at hDe
  rw [← hfn] at hFe
  subst hDe hFe
  obtain ⟨VA, vc, hVe⟩ := h.strs.len
  rw [List.length_cons, ← hn] at hVe
  subst hVe
  obtain ⟨vb, vo, hVA, hcap, hvb, hc0, vo', vc', hsl, hvt⟩ := strs_tail_is13 hn h.strs
  subst hVA
  have HT := Lib.hid hvt
  have hln : n ≤ 4000 := by rw [hn]; exact h.len
  have hn0 : (0 : Int) < (n : Int) + 1 := by omega
  have hwr : IntKind.i64.wrap ((n : Int) + 1 - 1) = (n : Int) := by rw [IntKind.wrap_i64]; omega
  have hfl : fn ≤ 900000 := by rw [hfn]; exact h.fns
  have HI := Lib.hid h
  have hL0 := Ln13.start h.mo h.hbw
  have hb0 : Below w.heap.size w ((w.alloc (.cells #[.slice DA dn dc, .slice FA fn fc] 25)).alloc (.cells #[.slice none 0 0, .slice none 0 0] 25)) := ((Below.refl _ w).alloc (Nat.le_refl _) _).alloc (by simp) _
  obtain ⟨W0, hW0⟩ : ∃ W0, W0 = (w.alloc (.cells #[.slice DA dn dc, .slice FA fn fc] 25)).alloc (.cells #[.slice none 0 0, .slice none 0 0] 25) := ⟨_, rfl⟩
  rw [← hW0] at hL0 hb0
  have L0 := Lib.hid hL0
  have B0 := Lib.hid hb0
  have HW0 := Lib.hid hW0
  have HN := Lib.hid (And.intro hn (And.intro hdn hfn))
  have HFD : Hid (∀ W, Calls Tryz.prog 74 #[.string s0] W (Makes W (.int .i64 (findW (lettersOf s0))))) := Lib.hid (fun W => by rw [← findV_W]; exact rfind_any s0 W)
  have HC0 : Hid (∀ W, Below w.heap.size w W → W.cell? ⟨vb, vo, none⟩ = some (.string s0)) := Lib.hid (fun W hb => (hb.cell (p := ⟨vb, vo, none⟩) hvb).trans hc0)
  have c0 := HC0.out W0 hb0
  clear hn hdn hfn hvt hL0 hb0 hW0 hvb hc0
  have tf := funcB_yes h1
  have tb := bytesB_no (s0 := s0) (by rw [h1]; decide)
  have hf0 : ((n : Int) + 1 == 4) = true := by rw [HN.out.1, h2]; rfl
  have HLP : Hid ((lineP m ((s0 :: r).map lettersOf)).2 = 5) := Lib.hid (by
    unfold lineP
    rw [List.map_cons, List.headD_cons, if_neg (by rw [h1]; decide), if_pos h1, if_neg (by simp [h2]), List.tail_cons, hnone])
  have HNM : Hid (∀ W, Below w.heap.size w W → Calls Tryz.prog 76 #[.slice (some ⟨vb, vo', none⟩) n vc'] W (fun e w' => e = .returned (.tuple #[.slice none 0 0, .bool false]) ∧ Below W.heap.size W w')) := Lib.hid (fun W hb => by
    have hz := rnumbers13_any _ r W ((HT.out.below hb (Nat.le_refl _) (Nat.le_refl _)).more hb.size) (fun x hx => HI.out.sz x (List.mem_cons_of_mem _ hx)) (by have := HI.out.len; omega)
    rw [hnone] at hz
    exact hz)
  clear h1 h2 hnone
  go_enter Tryz.func41, Tryz.ntmps41
  go_wp2_with (first
    | (rw [← HW0.out])
    | (go_at_call 74; (with_reducible refine (HFD.out _).mono ?_); rintro e w2 ⟨rfl, hb⟩; have L2 := Lib.hid (L0.out.grow hb); have B2 := Lib.hid (B0.out.trans (hb.mono B0.out.size)); clear c0; have c0 := HC0.out _ B2.out; obtain ⟨x0, x1⟩ := L2.out.mdl.cells; obtain ⟨y0, y1⟩ := cells2 L2.out.res; have g0 := frozen_of_row w2 (w.heap.size + 1) 0 _ _ L2.out.res; have g1 := frozen_of_row w2 (w.heap.size + 1) 1 _ _ L2.out.res; clear hb)
    | (go_at_call 76; (with_reducible refine (HNM.out _ B2.out).mono ?_); rintro e w4 ⟨rfl, hb⟩; have L4 := Lib.hid (L2.out.grow hb); have B4 := Lib.hid (B2.out.trans (hb.mono B2.out.size)); clear c0 x0 x1 y0 y1 g0 g1; have c0 := HC0.out _ B4.out; obtain ⟨x0, x1⟩ := L4.out.mdl.cells; obtain ⟨y0, y1⟩ := cells2 L4.out.res; have g0 := frozen_of_row w4 (w.heap.size + 1) 0 _ _ L4.out.res; have g1 := frozen_of_row w4 (w.heap.size + 1) 1 _ _ L4.out.res; clear hb))
  exact bodyPost_ret (v := .tuple #[.agg #[.slice DA dn dc, .slice FA fn fc], .int .i64 5]) (by simp [results, Tryz.results41, go_sem, y0, y1]) rfl (ln_end13 L4.out.res L4.out.bel L4.out.hbw HLP.out (fun h => absurd h (by decide)))
set_option maxRecDepth 100000 in
set_option maxHeartbeats 8000000 in
theorem rline13_op_bad (h : LnIn13 base b0 w V D F s0 r m Cs) (h1 : lettersOf s0 ≠ bytesW) (h2 : lettersOf s0 ≠ funcW) (h3 : 0 ≤ findW (lettersOf s0)) (h4 : m.funcs ≠ []) (h5 : fieldsP (findW (lettersOf s0)) (List.replicate r.length 0) ≠ none) (hnone : numsP (r.map lettersOf) = none) :
    Calls Tryz.prog 41 #[.agg #[D, F], V] w (LineDn13 base m w ((s0 :: r).map lettersOf)) := by
  obtain ⟨n, hn⟩ : ∃ n, n = r.length := ⟨_, rfl⟩
  obtain ⟨DA, dc, hDe⟩ := owns_len h.mo.dat
  obtain ⟨FA, fc, hFe⟩ := owns_len h.mo.fns.fown
  obtain ⟨dn, hdn⟩ : ∃ n, n = m.data.length := ⟨_, rfl⟩
  obtain ⟨fn, hfn⟩ : ∃ n, n = m.funcs.length := ⟨_, rfl⟩
  rw [← hdn] at hDe
  rw [← hfn] at hFe
  subst hDe hFe
  obtain ⟨VA, vc, hVe⟩ := h.strs.len
  rw [List.length_cons, ← hn] at hVe
  subst hVe
  obtain ⟨vb, vo, hVA, hcap, hvb, hc0, vo', vc', hsl, hvt⟩ := strs_tail_is13 hn h.strs
  subst hVA
  have HT := Lib.hid hvt
  have hln : n ≤ 4000 := by rw [hn]; exact h.len
  have hn0 : (0 : Int) < (n : Int) + 1 := by omega
  have hwr : IntKind.i64.wrap ((n : Int) + 1 - 1) = (n : Int) := by rw [IntKind.wrap_i64]; omega
  have hfl : fn ≤ 900000 := by rw [hfn]; exact h.fns
  have HI := Lib.hid h
  have hL0 := Ln13.start h.mo h.hbw
  have hb0 : Below w.heap.size w ((w.alloc (.cells #[.slice DA dn dc, .slice FA fn fc] 25)).alloc (.cells #[.slice none 0 0, .slice none 0 0] 25)) := ((Below.refl _ w).alloc (Nat.le_refl _) _).alloc (by simp) _
  obtain ⟨W0, hW0⟩ : ∃ W0, W0 = (w.alloc (.cells #[.slice DA dn dc, .slice FA fn fc] 25)).alloc (.cells #[.slice none 0 0, .slice none 0 0] 25) := ⟨_, rfl⟩
  rw [← hW0] at hL0 hb0
  have L0 := Lib.hid hL0
  have B0 := Lib.hid hb0
  have HW0 := Lib.hid hW0
  have HN := Lib.hid (And.intro hn (And.intro hdn hfn))
  have HFD : Hid (∀ W, Calls Tryz.prog 74 #[.string s0] W (Makes W (.int .i64 (findW (lettersOf s0))))) := Lib.hid (fun W => by rw [← findV_W]; exact rfind_any s0 W)
  have HC0 : Hid (∀ W, Below w.heap.size w W → W.cell? ⟨vb, vo, none⟩ = some (.string s0)) := Lib.hid (fun W hb => (hb.cell (p := ⟨vb, vo, none⟩) hvb).trans hc0)
  have c0 := HC0.out W0 hb0
  clear hn hdn hfn hvt hL0 hb0 hW0 hvb hc0
  have tf := funcB_no h2
  have tb := bytesB_no h1
  have hf0 : (0 : Int) < (fn : Int) := by have : fn ≠ 0 := (by rw [HN.out.2.2]; exact fun e => h4 (List.eq_nil_of_length_eq_zero e)); omega
  have HLP : Hid ((lineP m ((s0 :: r).map lettersOf)).2 = 5) := Lib.hid (by
    unfold lineP
    rw [List.map_cons, List.headD_cons, if_neg h1, if_neg h2, if_pos h3, if_neg (by rw [List.length_cons, List.length_map]; simp [h4, h5]), List.tail_cons, hnone])
  have HNM : Hid (∀ W, Below w.heap.size w W → Calls Tryz.prog 76 #[.slice (some ⟨vb, vo', none⟩) n vc'] W (fun e w' => e = .returned (.tuple #[.slice none 0 0, .bool false]) ∧ Below W.heap.size W w')) := Lib.hid (fun W hb => by
    have hz := rnumbers13_any _ r W ((HT.out.below hb (Nat.le_refl _) (Nat.le_refl _)).more hb.size) (fun x hx => HI.out.sz x (List.mem_cons_of_mem _ hx)) (by have := HI.out.len; omega)
    rw [hnone] at hz
    exact hz)
  have HMY : Hid (∀ W, Calls Tryz.prog 75 #[.int .i64 (findW (lettersOf s0)), .int .i64 n] W (Makes W (.bool true))) := Lib.hid (fun W => by
    have hz := rmany13_any (findW (lettersOf s0)) n W (by omega)
    rw [HN.out.1] at hz ⊢
    rw [show (fieldsP (findW (lettersOf s0)) (List.replicate r.length 0)).isSome = true from by rw [Option.isSome_iff_ne_none]; exact h5] at hz
    exact hz)
  generalize findW (lettersOf s0) = op at *
  clear h1 h2 h4 h5 hnone
  go_enter Tryz.func41, Tryz.ntmps41
  go_wp2_with (first
    | (rw [← HW0.out])
    | (go_at_call 74; (with_reducible refine (HFD.out _).mono ?_); rintro e w2 ⟨rfl, hb⟩; have L2 := Lib.hid (L0.out.grow hb); have B2 := Lib.hid (B0.out.trans (hb.mono B0.out.size)); clear c0; have c0 := HC0.out _ B2.out; obtain ⟨x0, x1⟩ := L2.out.mdl.cells; obtain ⟨y0, y1⟩ := cells2 L2.out.res; have g0 := frozen_of_row w2 (w.heap.size + 1) 0 _ _ L2.out.res; have g1 := frozen_of_row w2 (w.heap.size + 1) 1 _ _ L2.out.res; clear hb)
    | (go_at_call 75; (with_reducible refine (HMY.out _).mono ?_); rintro e w3 ⟨rfl, hb⟩; have L3 := Lib.hid (L2.out.grow hb); have B3 := Lib.hid (B2.out.trans (hb.mono B2.out.size)); clear c0 x0 x1 y0 y1 g0 g1; have c0 := HC0.out _ B3.out; obtain ⟨x0, x1⟩ := L3.out.mdl.cells; obtain ⟨y0, y1⟩ := cells2 L3.out.res; have g0 := frozen_of_row w3 (w.heap.size + 1) 0 _ _ L3.out.res; have g1 := frozen_of_row w3 (w.heap.size + 1) 1 _ _ L3.out.res; clear hb)
    | (go_at_call 76; (with_reducible refine (HNM.out _ B3.out).mono ?_); rintro e w4 ⟨rfl, hb⟩; have L4 := Lib.hid (L3.out.grow hb); have B4 := Lib.hid (B3.out.trans (hb.mono B3.out.size)); clear c0 x0 x1 y0 y1 g0 g1; have c0 := HC0.out _ B4.out; obtain ⟨x0, x1⟩ := L4.out.mdl.cells; obtain ⟨y0, y1⟩ := cells2 L4.out.res; have g0 := frozen_of_row w4 (w.heap.size + 1) 0 _ _ L4.out.res; have g1 := frozen_of_row w4 (w.heap.size + 1) 1 _ _ L4.out.res; clear hb))
  exact bodyPost_ret (v := .tuple #[.agg #[.slice DA dn dc, .slice FA fn fc], .int .i64 5]) (by simp [results, Tryz.results41, go_sem, y0, y1]) rfl (ln_end13 L4.out.res L4.out.bel L4.out.hbw HLP.out (fun h => absurd h (by decide)))
end
end Go.Proofs.YtohlifeenhaifaaGreatDoor
