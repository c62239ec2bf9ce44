/- A module that a call makes, in a box of its own: as the landed reader's. Plain lemmas; no condition but what each names. -/
import Derived.Test.YtohlifeenhaifaaGreatDoorRef13J
import Derived.Test.YtohlifeenhaifaaGreatDoorS30
namespace Go.Proofs.YtohlifeenhaifaaGreatDoor
open Go.RowKit Go.Shelf
set_option linter.unusedVariables false
set_option linter.unusedSimpArgs false
structure Mdl13 (base b0 : Nat) (W : World) (rb : Nat) (D F : Value) (m : ModV) (Cs : List Value) : Prop where
  box : W.heap[rb]? = some (.cells #[D, F] 25 (0, 0))
  dat : Owns W base 5 1 IsU8 D m.data.length (m.data.map (Value.int .u8))
  bd : ∀ x ∈ m.data, 0 ≤ x ∧ x < 256
  fns : Fns13 base b0 W F m.funcs Cs
section
variable {base b0 : Nat} {W W' : World} {rb : Nat} {D F : Value} {m : ModV} {fs : List FunV} {Cs : List Value}
theorem Mdl13.grow (h : Mdl13 base b0 W rb D F m Cs) (hb : Below W.heap.size W W') : Mdl13 base b0 W' rb D F m Cs :=
  ⟨box_below h.box hb, h.dat.below hb (Nat.le_refl _), h.bd, h.fns.grow hb⟩
theorem Mdl13.cells (h : Mdl13 base b0 W rb D F m Cs) : W.cell? ⟨rb, 0, none⟩ = some D ∧ W.cell? ⟨rb, 1, none⟩ = some F := cells2 h.box
theorem Mdl13.free (h : Mdl13 base b0 W rb D F m Cs) (o : Nat) : W.frozen? ⟨rb, o, none⟩ = false := frozen_of_row W rb o _ _ h.box
theorem Mdl13.lt (h : Mdl13 base b0 W rb D F m Cs) : rb < W.heap.size := heap_lt h.box
theorem Mdl13.rb_ne (h : Mdl13 base b0 W rb D F m Cs) : some rb ≠ D.ownBlock := fun e => by
  obtain ⟨c, hc⟩ := h.dat.typed e.symm
  exact typed_ne hc (by decide) h.box
theorem Mdl13.data {D' : Value} {x : Int} (h : Mdl13 base b0 W rb D F m Cs) (hM : More1 5 base IsU8 W W' D D' (m.data.map (Value.int .u8)) (.int .u8 x)) (hx : 0 ≤ x ∧ x < 256) (hbw : base ≤ W.heap.size) :
    Mdl13 base b0 (W'.setCell ⟨rb, 0, none⟩ D') rb D' F ⟨m.data ++ [x], m.funcs⟩ Cs ∧ Wr13 rb base W (W'.setCell ⟨rb, 0, none⟩ D') ∧ ∀ V l, Strs13 W V l → Strs13 (W'.setCell ⟨rb, 0, none⟩ D') V l := by
  have hne : some rb ≠ D.ownBlock := fun e => by
    obtain ⟨c, hc⟩ := h.dat.typed e.symm
    exact typed_ne hc (by decide) h.box
  have hbx := (hM.blk rb h.lt hne).trans h.box
  have hset := heap_setCell_same W' rb 0 _ _ D' hbx
  have hbut : But (fun k => k = rb ∨ some k = D.ownBlock) W (W'.setCell ⟨rb, 0, none⟩ D') := by
    refine But.setCell ⟨hM.bel.os, hM.bel.tape, hM.bel.output, hM.size, fun k hk hn => hM.blk k hk (fun e => hn (.inr e))⟩ (p := ⟨rb, 0, none⟩) (.inl (.inl rfl)) _
  have hbut2 : But (OneBlock rb) W' (W'.setCell ⟨rb, 0, none⟩ D') := (But.refl (OneBlock rb) W').setCell (p := ⟨rb, 0, none⟩) (.inl rfl) _
  have hn : ∀ (t : TypeId), t ≠ 25 → t ≠ 5 → ∀ k c, W.heap[k]? = some (.cells c t (0, 0)) → ¬ (k = rb ∨ some k = D.ownBlock) := fun t h1 h2 k c hc e => by
    rcases e with rfl | e
    · exact typed_ne hc h1 h.box
    · obtain ⟨c', hc'⟩ := h.dat.typed e.symm
      exact typed_ne hc h2 hc'
  refine ⟨⟨hset, ?_, fun z hz => ?_, h.fns.but hbut (hn _ (by decide) (by decide)) (hn _ (by decide) (by decide)) (hn _ (by decide) (by decide))⟩, Wr13.of_but hbut (fun k hk => ?_), fun V l hs => hs.but hbut (hn _ (by decide) (by decide))⟩
  · have ho := hM.own
    rw [show m.data.map (Value.int .u8) ++ [.int .u8 x] = (m.data ++ [x]).map (Value.int .u8) by simp, List.length_map] at ho
    refine ho.but hbut2 (fun g hg e => ?_)
    have e' : g = rb := e
    subst e'
    obtain ⟨c, hc⟩ := ho.typed hg
    exact typed_ne hc (by decide) hbx
  · rcases List.mem_append.1 hz with hz | hz
    · exact h.bd z hz
    · simp at hz; subst hz; exact hx
  · rcases hk with rfl | e
    · exact .inl rfl
    · obtain ⟨c, hc⟩ := h.dat.typed e.symm
      exact .inr ⟨(h.dat.lt e.symm).1, _, _, _, hc⟩
theorem Mdl13.rb_nf (h : Mdl13 base b0 W rb D F m Cs) : some rb ≠ F.ownBlock := fun e => by
  obtain ⟨c, hc⟩ := h.fns.fn.own.typed e.symm
  exact typed_ne hc (by decide) h.box
theorem Mdl13.func {F' : Value} {f : FunV} {B : Nat} (h : Mdl13 base b0 W rb D F m Cs) (hM : MoreF 53 base W W' F F' m.funcs Cs f (.slice none 0 0)) (hf : f.code = []) (hB : base ≤ B) (hBW : B ≤ W.heap.size) (hCs : ∀ i, i < m.funcs.length → ∀ g, (Cs.getD i (.slice none 0 0)).ownBlock = some g → g < B) :
    Mdl13 base B (W'.setCell ⟨rb, 1, none⟩ F') rb D F' ⟨m.data, m.funcs ++ [f]⟩ (Cs ++ [.slice none 0 0]) ∧ Wr13 rb base W (W'.setCell ⟨rb, 1, none⟩ F') := by
  have hbx := (hM.blk rb h.lt h.rb_nf).trans h.box
  have hset := heap_setCell_same W' rb 1 _ _ F' hbx
  have hbut2 : But (OneBlock rb) W' (W'.setCell ⟨rb, 1, none⟩ F') := (But.refl (OneBlock rb) W').setCell (p := ⟨rb, 1, none⟩) (.inl rfl) _
  have hn2 : ∀ (t : TypeId), t ≠ 25 → ∀ k c, W'.heap[k]? = some (.cells c t (0, 0)) → ¬ OneBlock rb k := fun t h1 k c hc e => by
    have e' : k = rb := e
    subst e'
    exact typed_ne hc h1 hbx
  have hbut : But (fun k => some k = F.ownBlock) W W' := ⟨hM.bel.os, hM.bel.tape, hM.bel.output, hM.size, fun k hk hn => hM.blk k hk hn⟩
  have hn1 : ∀ (t : TypeId), t ≠ 53 → ∀ k c, W.heap[k]? = some (.cells c t (0, 0)) → ¬ some k = F.ownBlock := fun t h1 k c hc e => by
    obtain ⟨c', hc'⟩ := h.fns.fn.own.typed e.symm
    exact typed_ne hc h1 hc'
  refine ⟨⟨hset, ?_, h.bd, ⟨hM.own.own.but hbut2 (fun g hg => by obtain ⟨c, e⟩ := hM.own.own.typed hg; exact hn2 _ (by decide) _ _ e), hM.own.len, hM.own.inn, fun i hi => ?_, fun i hi g hg => ?_, fun _ => ⟨[], ?_, HighX.nil _⟩, hB, ?_⟩⟩, (Wr13.of_but hbut (fun k e => ?_)).trans (Wr13.of_but hbut2 (fun k e => .inl e))⟩
  · have hd : Owns W' base 5 1 IsU8 D m.data.length (m.data.map (Value.int .u8)) := h.dat.but hbut (fun g hg e => by
      obtain ⟨c, hc⟩ := h.dat.typed hg
      obtain ⟨c', hc'⟩ := h.fns.fn.own.typed e.symm
      exact typed_ne hc (by decide) hc')
    exact hd.but hbut2 (fun g hg => by obtain ⟨c, e⟩ := hd.typed hg; exact hn2 _ (by decide) _ _ e)
  · rw [List.length_append, List.length_singleton] at hi
    by_cases hl : i < m.funcs.length
    · obtain ⟨bs, Xs, ho, hlen, hbs, hx⟩ := h.fns.cods i hl
      rw [getD_left _ _ trivial (by rw [h.fns.flen]; exact hl), getD_left _ _ trivial hl]
      exact ⟨bs, Xs, ownC_but13 (ownC_but13 ho hbut (hn1 _ (by decide)) (hn1 _ (by decide))) hbut2 (hn2 _ (by decide)) (hn2 _ (by decide)), hlen, hbs, hx⟩
    · have e0 : i = m.funcs.length := by omega
      subst e0
      rw [getD_right _ _ trivial (by rw [h.fns.flen]; exact Nat.le_refl _), getD_right _ _ trivial (Nat.le_refl _), h.fns.flen]
      simp only [Nat.sub_self, List.getD_cons_zero, hf]
      exact ⟨base, [], OwnC.nil _ _, by simp, Nat.le_refl _, HighX.nil _⟩
  · rw [List.length_append, List.length_singleton] at hi
    have hi2 : i < Cs.length := by rw [h.fns.fn.len]; omega
    rw [getD_left _ _ trivial hi2] at hg
    exact hCs i (by omega) g hg
  · have e1 : (m.funcs ++ [f]).length - 1 = m.funcs.length := by simp
    show OwnC B _ ((Cs ++ [Value.slice none 0 0]).getD ((m.funcs ++ [f]).length - 1) _) ((m.funcs ++ [f]).getD ((m.funcs ++ [f]).length - 1) .zero).code []
    rw [e1, getD_right _ _ trivial (by rw [h.fns.fn.len]; exact Nat.le_refl _), getD_right _ _ trivial (Nat.le_refl _), h.fns.fn.len]
    simp only [Nat.sub_self, List.getD_cons_zero, hf]
    exact OwnC.nil _ _
  · exact Nat.le_trans hBW (Nat.le_trans hM.size hbut2.size)
  · obtain ⟨c, hc⟩ := h.fns.fn.own.typed e.symm
    exact .inr ⟨(h.fns.fn.own.lt e.symm).1, _, _, _, hc⟩
end
section
variable {base b0 : Nat} {W W' : World} {rb : Nat} {D : Value} {m : ModV} {Cs : List Value}
theorem Mdl13.ins {gF nf fc p : Nat} {C' X : Value} {Xs : List Value} {y : InsV} (h : Mdl13 base b0 W rb D (.slice (some ⟨gF, 0, none⟩) nf fc) m Cs) (hnf : m.funcs.length = p + 1)
    (hM : MoreC13 b0 W W' (Cs.getD p (.slice none 0 0)) C' (m.funcs.getD p .zero).code Xs y X) (hl : OwnC b0 W (Cs.getD p (.slice none 0 0)) (m.funcs.getD p .zero).code Xs) (hhx : HighX base Xs) (hXg : ∀ g, X.ownBlock = some g → base ≤ g) (hcl : (m.funcs.getD p .zero).code.length ≤ 900000) :
    Mdl13 base b0 (W'.setCell ⟨gF, p * 4 + 3, none⟩ C') rb D (.slice (some ⟨gF, 0, none⟩) nf fc) ⟨m.data, addC m.funcs y⟩ (Cs.set p C') ∧ Wr13 rb base W (W'.setCell ⟨gF, p * 4 + 3, none⟩ C') := by
  have hgF : base ≤ gF := (h.fns.fn.own.lt rfl).1
  obtain ⟨cF, hcF⟩ := h.fns.fn.own.typed (g := gF) rfl
  have hnfl : nf = m.funcs.length := by
    obtain ⟨A, c, e⟩ := owns_len h.fns.fn.own
    injection e
  have hlen := h.fns.fn.len
  have hCb : ∀ g, (Cs.getD p (.slice none 0 0)).ownBlock = some g → b0 ≤ g := fun g hg => (hl.own.lt hg).1
  have hbut1 : But (fun k => some k = (Cs.getD p (.slice none 0 0)).ownBlock) W W' := ⟨hM.bel.os, hM.bel.tape, hM.bel.output, hM.size, fun k hk hn => hM.blk k hk hn⟩
  have hne : ∀ (t : TypeId), t ≠ 28 → ∀ k c, W.heap[k]? = some (.cells c t (0, 0)) → ¬ some k = (Cs.getD p (.slice none 0 0)).ownBlock := fun t h1 k c hc e => by
    obtain ⟨c', hc'⟩ := hl.own.typed e.symm
    exact typed_ne hc h1 hc'
  have hcF' : W'.heap[gF]? = some (.cells cF 53 (0, 0)) := hbut1.heap hcF (hne _ (by decide) _ _ hcF)
  have hbut2 : But (OneBlock gF) W' (W'.setCell ⟨gF, p * 4 + 3, none⟩ C') := (But.refl (OneBlock gF) W').setCell (p := ⟨gF, p * 4 + 3, none⟩) (.inl rfl) _
  have hn2 : ∀ (t : TypeId), t ≠ 53 → ∀ k c, W'.heap[k]? = some (.cells c t (0, 0)) → ¬ OneBlock gF k := fun t h1 k c hc e => by
    have e' : k = gF := e
    subst e'
    exact typed_ne hc h1 hcF'
  have hbel : Wr13 rb base W (W'.setCell ⟨gF, p * 4 + 3, none⟩ C') := (Wr13.of_but hbut1 (fun k e => by
    obtain ⟨c, hc⟩ := hl.own.typed e.symm
    exact .inr ⟨Nat.le_trans h.fns.b0l (hCb k e.symm), _, _, _, hc⟩)).trans (Wr13.of_but hbut2 (fun k e => by
    have e' : k = gF := e
    subst e'
    exact .inr ⟨hgF, _, _, _, hcF'⟩))
  have hbx' : W'.heap[rb]? = some (.cells #[D, .slice (some ⟨gF, 0, none⟩) nf fc] 25 (0, 0)) := hbut1.heap h.box (hne _ (by decide) _ _ h.box)
  have hd1 : Owns W' base 5 1 IsU8 D m.data.length (m.data.map (Value.int .u8)) := h.dat.but hbut1 (fun g hg e => by obtain ⟨c, hc⟩ := h.dat.typed hg; exact hne _ (by decide) _ _ hc e)
  have hf1 : Owns W' base 53 4 AnyCell (.slice (some ⟨gF, 0, none⟩) nf fc) m.funcs.length (cellsF m.funcs Cs) := h.fns.fn.own.but hbut1 (fun g hg e => by obtain ⟨c, hc⟩ := h.fns.fn.own.typed hg; exact hne _ (by decide) _ _ hc e)
  have hC2 : OwnC b0 (W'.setCell ⟨gF, p * 4 + 3, none⟩ C') C' ((m.funcs.getD p .zero).code ++ [y]) (Xs ++ [X]) := hM.own.but hbut2 (fun g hg => by obtain ⟨c, hc⟩ := hM.own.own.typed hg; exact hn2 _ (by decide) _ _ hc) (fun i hi g hg => by obtain ⟨c, hc⟩ := (hM.own.nums i hi).typed hg; exact hn2 _ (by decide) _ _ hc)
  refine ⟨⟨hbut2.heap hbx' (hn2 _ (by decide) _ _ hbx'), hd1.but hbut2 (fun g hg => by obtain ⟨c, hc⟩ := hd1.typed hg; exact hn2 _ (by decide) _ _ hc), h.bd, ?_⟩, hbel⟩
  rw [addC_set m.funcs p y hnf]
  obtain ⟨f', hf'⟩ : ∃ f' : FunV, f' = ⟨(m.funcs.getD p .zero).params, (m.funcs.getD p .zero).regs, (m.funcs.getD p .zero).area, (m.funcs.getD p .zero).code ++ [y]⟩ := ⟨_, rfl⟩
  rw [← hf']
  have e1 : f'.params = (m.funcs.getD p .zero).params := by rw [hf']
  have e2 : f'.regs = (m.funcs.getD p .zero).regs := by rw [hf']
  have e3 : f'.area = (m.funcs.getD p .zero).area := by rw [hf']
  have e4 : f'.code = (m.funcs.getD p .zero).code ++ [y] := by rw [hf']
  clear hf'
  have hgs : ∀ i, i ≠ p → (Cs.set p C').getD i (.slice none 0 0) = Cs.getD i (.slice none 0 0) := fun i hi => by simp [List.getD, List.getElem?_set, Ne.symm hi]
  have hgp : (Cs.set p C').getD p (.slice none 0 0) = C' := by simp [List.getD, List.getElem?_set, show p < Cs.length by omega]
  have hfs : ∀ (f' : FunV) i, i ≠ p → (m.funcs.set p f').getD i .zero = m.funcs.getD i .zero := fun f' i hi => by simp [List.getD, List.getElem?_set, Ne.symm hi]
  have hfp : ∀ (f' : FunV), (m.funcs.set p f').getD p .zero = f' := fun f' => by simp [List.getD, List.getElem?_set, show p < m.funcs.length by omega]
  refine ⟨?_, by rw [List.length_set, List.length_set]; exact hlen, fun f hf => ?_, fun i hi => ?_, fun i hi g hg => ?_, fun _ => ⟨Xs ++ [X], ?_, hhx.snoc hXg⟩, h.fns.b0l, Nat.le_trans h.fns.b0w (Nat.le_trans hM.size hbut2.size)⟩
  · show Owns _ _ _ _ _ _ (m.funcs.set p f').length (cellsF (m.funcs.set p f') (Cs.set p C'))
    rw [cellsF_set m.funcs Cs p f' C' hlen (by omega) e1 e2 e3, List.length_set]
    have := owns_set13 (p := p * 4 + 3) (by rw [← hnfl] at hf1; exact hf1) C'
    rw [← hnfl]
    exact this
  · rcases List.mem_or_eq_of_mem_set hf with hf | rfl
    · exact h.fns.fn.inn f hf
    · have := h.fns.fn.inn (m.funcs.getD p .zero) (by rw [List.getD_eq_getElem?_getD, List.getElem?_eq_getElem (show p < m.funcs.length by omega)]; exact List.getElem_mem _)
      exact ⟨by rw [e1]; exact this.params, by rw [e2]; exact this.regs, by rw [e3]; exact this.area⟩
  · rw [List.length_set] at hi
    by_cases hip : i = p
    · subst hip
      rw [hgp, hfp, e4]
      exact ⟨b0, _, hC2, by rw [List.length_append, List.length_singleton]; omega, h.fns.b0l, hhx.snoc hXg⟩
    · rw [hgs i hip, hfs _ i hip]
      have hold := h.fns.old i (by omega)
      obtain ⟨bs, Ys, ho, hlo, hbs, hx⟩ := h.fns.cods i hi
      refine ⟨bs, Ys, ?_, hlo, hbs, hx⟩
      have h1 := ho.but hbut1 (fun g hg e => by have := hold g hg; have := hCb g e.symm; omega) (fun j hj g hg e => by obtain ⟨c, hc⟩ := (ho.nums j hj).typed hg; exact hne _ (by decide) _ _ hc e)
      exact h1.but hbut2 (fun g hg => by obtain ⟨c, hc⟩ := h1.own.typed hg; exact hn2 _ (by decide) _ _ hc) (fun j hj g hg => by obtain ⟨c, hc⟩ := (h1.nums j hj).typed hg; exact hn2 _ (by decide) _ _ hc)
  · rw [List.length_set] at hi
    rw [hgs i (by omega)] at hg
    exact h.fns.old i hi g hg
  · show OwnC b0 _ ((Cs.set p C').getD ((m.funcs.set p f').length - 1) _) ((m.funcs.set p f').getD ((m.funcs.set p f').length - 1) .zero).code _
    rw [List.length_set, show m.funcs.length - 1 = p by omega, hgp, hfp, e4]
    exact hC2
end
/-- The module without its box. -/
structure Mo13 (base b0 : Nat) (W : World) (D F : Value) (m : ModV) (Cs : List Value) : Prop where
  dat : Owns W base 5 1 IsU8 D m.data.length (m.data.map (Value.int .u8))
  bd : ∀ x ∈ m.data, 0 ≤ x ∧ x < 256
  fns : Fns13 base b0 W F m.funcs Cs
theorem Mdl13.mo {base b0 rb : Nat} {W : World} {D F : Value} {m : ModV} {Cs : List Value} (h : Mdl13 base b0 W rb D F m Cs) : Mo13 base b0 W D F m Cs := ⟨h.dat, h.bd, h.fns⟩
theorem Mo13.grow {base b0 : Nat} {W W' : World} {D F : Value} {m : ModV} {Cs : List Value} (h : Mo13 base b0 W D F m Cs) (hb : Below W.heap.size W W') : Mo13 base b0 W' D F m Cs :=
  ⟨h.dat.below hb (Nat.le_refl _), h.bd, h.fns.grow hb⟩
theorem Mo13.low {base b0 : Nat} {R : Nat → Prop} {W W' : World} {D F : Value} {m : ModV} {Cs : List Value} (h : Mo13 base b0 W D F m Cs) (hb : But R W W') (hR : ∀ k, R k → k < base) : Mo13 base b0 W' D F m Cs :=
  ⟨h.dat.but hb (fun g hg e => by have h1 := (h.dat.lt hg).1; have h2 := hR _ e; omega), h.bd, h.fns.but2 hb hR⟩
theorem Mo13.box {base b0 rb : Nat} {W : World} {D F : Value} {m : ModV} {Cs : List Value} (h : Mo13 base b0 W D F m Cs) (hx : W.heap[rb]? = some (.cells #[D, F] 25 (0, 0))) : Mdl13 base b0 W rb D F m Cs := ⟨hx, h.dat, h.bd, h.fns⟩
end Go.Proofs.YtohlifeenhaifaaGreatDoor
