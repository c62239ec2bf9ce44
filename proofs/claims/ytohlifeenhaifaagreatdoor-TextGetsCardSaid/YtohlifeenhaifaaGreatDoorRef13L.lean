/- What the document's own line leaves, and what it has in memory. Plain lemmas; no condition but what each names. -/
import Derived.Test.YtohlifeenhaifaaGreatDoorRef13K
import Derived.Test.YtohlifeenhaifaaGreatDoorS31
namespace Go.Proofs.YtohlifeenhaifaaGreatDoor
open Go.RowKit Go.Shelf
set_option linter.unusedVariables false
set_option linter.unusedSimpArgs false
/-- What line leaves. -/
def LineDn13 (base : Nat) (m : ModV) (w : World) (ws : List (List Int)) (e : Ending) (w' : World) : Prop :=
  ∃ DA dn dc FA fn fc, e = .returned (.tuple #[.agg #[.slice DA dn dc, .slice FA fn fc], .int .i64 (lineP m ws).2]) ∧ Below base w w' ∧ ((lineP m ws).2 = 0 → ∃ b0 Cs, Mo13 base b0 w' (.slice DA dn dc) (.slice FA fn fc) (lineP m ws).1 Cs)
/-- What line is given. -/
structure LnIn13 (base b0 : Nat) (w : World) (V D F : Value) (s0 : ByteArray) (r : List ByteArray) (m : ModV) (Cs : List Value) : Prop where
  mo : Mo13 base b0 w D F m Cs
  hbw : base ≤ w.heap.size
  strs : IsStrs w w.heap.size V (s0 :: r)
  sz : ∀ x ∈ s0 :: r, x.size ≤ 4000
  len : r.length ≤ 4000
  dat : m.data.length ≤ 1000000
  fns : m.funcs.length ≤ 900000
  code : ∀ f ∈ m.funcs, f.code.length ≤ 900000
/-- What line has in memory. -/
structure Ln13 (base b0 : Nat) (w W : World) (D F : Value) (m : ModV) (Cs : List Value) : Prop where
  mdl : Mdl13 base b0 W w.heap.size D F m Cs
  res : W.heap[w.heap.size + 1]? = some (.cells #[.slice none 0 0, .slice none 0 0] 25 (0, 0))
  bel : Below base w W
  hbw : base ≤ w.heap.size
theorem Ln13.grow {base b0 : Nat} {w W W' : World} {D F : Value} {m : ModV} {Cs : List Value} (h : Ln13 base b0 w W D F m Cs) (hb : Below W.heap.size W W') : Ln13 base b0 w W' D F m Cs :=
  ⟨h.mdl.grow hb, (hb.block _ (heap_lt h.res)).trans h.res, h.bel.trans (hb.mono (Nat.le_trans h.hbw h.bel.size)), h.hbw⟩
theorem Ln13.start {base b0 : Nat} {w : World} {D F : Value} {m : ModV} {Cs : List Value} (h : Mo13 base b0 w D F m Cs) (hbw : base ≤ w.heap.size) :
    Ln13 base b0 w ((w.alloc (.cells #[D, F] 25)).alloc (.cells #[.slice none 0 0, .slice none 0 0] 25)) D F m Cs := by
  have hb : Below w.heap.size w ((w.alloc (.cells #[D, F] 25)).alloc (.cells #[.slice none 0 0, .slice none 0 0] 25)) := ((Below.refl _ w).alloc (Nat.le_refl _) _).alloc (by simp) _
  refine ⟨(h.grow hb).box ?_, ?_, hb.mono hbw, hbw⟩
  · rw [Below.heap_alloc _ _ _ (by simp)]
    exact heap_alloc_new _ _
  · have := heap_alloc_new (w.alloc (.cells #[D, F] 25)) (.cells #[.slice none 0 0, .slice none 0 0] 25)
    rwa [World.size_alloc] at this
def setM13 (W : World) (b : Nat) (D F : Value) : World := (W.setCell ⟨b, 0, none⟩ D).setCell ⟨b, 1, none⟩ F
theorem setM_but (W : World) (b : Nat) (D F : Value) : But (OneBlock b) W (setM13 W b D F) :=
  ((But.refl (OneBlock b) W).setCell (p := ⟨b, 0, none⟩) (.inl rfl) D).setCell (p := ⟨b, 1, none⟩) (.inl rfl) F
theorem Mo13.other {base b0 rb : Nat} {W W' : World} {D F : Value} {m : ModV} {Cs : List Value} {c : Array Value} (h : Mo13 base b0 W D F m Cs) (hx : W.heap[rb]? = some (.cells c 25 (0, 0))) (hb : But (OneBlock rb) W W') : Mo13 base b0 W' D F m Cs := by
  have hn : ∀ (t : TypeId), t ≠ 25 → ∀ k c', W.heap[k]? = some (.cells c' t (0, 0)) → ¬ OneBlock rb k := fun t h1 k c' hc e => by
    have e' : k = rb := e
    subst e'
    exact typed_ne hc h1 hx
  exact ⟨h.dat.but hb (fun g hg => by obtain ⟨c', hc⟩ := h.dat.typed hg; exact hn _ (by decide) _ _ hc), h.bd, h.fns.but hb (hn _ (by decide)) (hn _ (by decide)) (hn _ (by decide))⟩
/-- The end of line. -/
theorem ln_end13 {base : Nat} {w W : World} {m : ModV} {ws : List (List Int)} {DA FA : Option Addr} {dn dc fn fc : Nat} {e : Int} {c : Array Value} (hx : W.heap[w.heap.size + 1]? = some (.cells c 25 (0, 0))) (hb : Below base w W) (hbw : base ≤ w.heap.size) (he : (lineP m ws).2 = e)
    (hz : e = 0 → ∃ b0 Cs, Mo13 base b0 W (.slice DA dn dc) (.slice FA fn fc) (lineP m ws).1 Cs) :
    LineDn13 base m w ws (.returned (.tuple #[.agg #[.slice DA dn dc, .slice FA fn fc], .int .i64 e])) (setM13 W (w.heap.size + 1) (.slice DA dn dc) (.slice FA fn fc)) := by
  refine ⟨DA, dn, dc, FA, fn, fc, by rw [he], But.below hb (setM_but W _ _ _) (Nat.le_trans hbw hb.size) (fun k hk => by have e' : k = w.heap.size + 1 := hk; omega), fun h => ?_⟩
  obtain ⟨b0, Cs, h1⟩ := hz (he.symm.trans h)
  exact ⟨b0, Cs, h1.other hx (setM_but W _ _ _)⟩
theorem strs_tail_is13 {w : World} {B : Nat} {A : Option Addr} {cap n : Nat} {s0 : ByteArray} {r : List ByteArray} (hn : n = r.length) (h : IsStrs w B (.slice A (n + 1) cap) (s0 :: r)) :
    ∃ b off, A = some ⟨b, off, none⟩ ∧ n + 1 ≤ cap ∧ b < B ∧ w.cell? ⟨b, off, none⟩ = some (.string s0) ∧ ∃ o' c', (∀ W, (Instr.slice 74 (.slice (some ⟨b, off, none⟩) (n + 1) cap) (some (.int .i64 1)) none none).run Tryz.prog W = .ok (.slice (some ⟨b, o', none⟩) n c') W) ∧ IsStrs w B (.slice (some ⟨b, o', none⟩) n c') r := by
  subst hn
  obtain ⟨b, off, cap', hV, hcap, hb, hc⟩ := h.plain (by simp)
  simp only [Value.slice.injEq, List.length_cons, true_and] at hV
  obtain ⟨rfl, rfl⟩ := hV
  have hm := h.1
  simp only [List.length_cons] at hcap hm hc
  have c0 := hc 0 (by omega)
  simp only [Nat.add_zero, List.getD_cons_zero] at c0
  obtain ⟨o', c', hcc, hoo, hsl⟩ := slice_tail b off r.length cap hcap
  refine ⟨b, off, rfl, hcap, hb, c0, o', c', hsl, by omega, .inr ⟨b, o', c', rfl, hcc, hb, fun i hi => ?_⟩⟩
  rw [hoo (by omega)]
  have := hc (i + 1) (by omega)
  simp only [List.getD_cons_succ] at this
  rw [show off + 1 + i = off + (i + 1) by omega]
  exact this
end Go.Proofs.YtohlifeenhaifaaGreatDoor
