/- What the document's own Get has in memory. Plain lemmas; no condition but what each names. -/
import Derived.Test.YtohlifeenhaifaaGreatDoorRef13O
import Derived.Test.YtohlifeenhaifaaGreatDoorRef08L
namespace Go.Proofs.YtohlifeenhaifaaGreatDoor
open Go.RowKit Go.Shelf
set_option linter.unusedVariables false
set_option linter.unusedSimpArgs false
theorem IsStrs.of_owns13 {w : World} {base B : Nat} {e : TypeId} {V : Value} {l : List ByteArray} (h : Owns w base e 1 IsStr V l.length (strB l)) (hB : w.heap.size ≤ B) (hl : l.length ≤ 1000000) : IsStrs w B V l := by
  refine ⟨by unfold maxLen; omega, ?_⟩
  rcases h.1.2 with ⟨rfl, h0⟩ | ⟨g, cap, cur, rfl, h1, h2, h3, h4, h5, h6⟩
  · exact .inl ⟨List.eq_nil_of_length_eq_zero h0, none, 0, rfl⟩
  · refine .inr ⟨g, 0, cap, rfl, h3, Nat.lt_of_lt_of_le (heap_lt h2) hB, fun i hi => ?_⟩
    rw [cell_of_row _ _ _ _ _ _ h2, Nat.zero_add]
    have h7 : (cur.toList.take l.length)[i]? = (strB l)[i]? := by rw [← h6, Nat.mul_one]
    rw [List.getElem?_take, if_pos hi] at h7
    rw [← Array.getElem?_toList, h7]
    simp [strB, List.getD, List.getElem?_eq_getElem hi]
/-- The boxes of Get, and the module that it has read. -/
structure Gt13 (w W : World) (D F : Value) (m : ModV) : Prop where
  mod : W.heap[w.heap.size]? = some (.cells #[.slice none 0 0, .slice none 0 0] 25 (0, 0))
  flt : W.heap[w.heap.size + 1]? = some (.cells #[.int .i64 0, .int .i64 0] 41 (0, 0))
  box : W.heap[w.heap.size + 2]? = some (.cells #[D, F] 25 (0, 0))
  mo : ∃ b0 Cs, Mo13 (w.heap.size + 3) b0 W D F m Cs
  bel : Below w.heap.size w W
theorem Gt13.big {w W : World} {D F : Value} {m : ModV} (h : Gt13 w W D F m) : w.heap.size + 3 ≤ W.heap.size := heap_lt h.box
theorem Gt13.grow {w W W' : World} {D F : Value} {m : ModV} (h : Gt13 w W D F m) (hb : Below W.heap.size W W') : Gt13 w W' D F m := by
  obtain ⟨b0, Cs, hm⟩ := h.mo
  exact ⟨(hb.block _ (heap_lt h.mod)).trans h.mod, (hb.block _ (heap_lt h.flt)).trans h.flt, (hb.block _ (heap_lt h.box)).trans h.box, ⟨b0, Cs, hm.grow hb⟩, h.bel.trans (hb.mono h.bel.size)⟩
/-- A line has been read. -/
theorem Gt13.line {w W W' : World} {D F D' F' : Value} {m m' : ModV} (h : Gt13 w W D F m) (hb : Below (w.heap.size + 3) W W') (hm : ∃ b0 Cs, Mo13 (w.heap.size + 3) b0 W' D' F' m' Cs) : Gt13 w (setM13 W' (w.heap.size + 2) D' F') D' F' m' := by
  have hbx := (hb.block _ (by omega)).trans h.box
  have hbut := setM_but W' (w.heap.size + 2) D' F'
  have hset : (setM13 W' (w.heap.size + 2) D' F').heap[w.heap.size + 2]? = some (.cells #[D', F'] 25 (0, 0)) := by
    have h1 := heap_setCell_same W' (w.heap.size + 2) 0 _ _ D' hbx
    exact heap_setCell_same _ (w.heap.size + 2) 1 _ _ F' h1
  obtain ⟨b0, Cs, hm⟩ := hm
  exact ⟨hbut.heap ((hb.block _ (by omega)).trans h.mod) (fun e => by have e' : w.heap.size = w.heap.size + 2 := e; omega), hbut.heap ((hb.block _ (by omega)).trans h.flt) (fun e => by have e' : w.heap.size + 1 = w.heap.size + 2 := e; omega), hset, ⟨b0, Cs, hm.other hbx hbut⟩, But.below (h.bel.trans (hb.mono (by omega))) hbut (Nat.le_trans h.bel.size hb.size) (fun k hk => by have e' : k = w.heap.size + 2 := hk; omega)⟩
theorem Gt13.start (w : World) : Gt13 w (((w.alloc (.cells #[.slice none 0 0, .slice none 0 0] 25)).alloc (.cells #[.int .i64 0, .int .i64 0] 41)).alloc (.cells #[.slice none 0 0, .slice none 0 0] 25)) (.slice none 0 0) (.slice none 0 0) ⟨[], []⟩ := by
  have h0 := heap_alloc_new w (.cells #[.slice none 0 0, .slice none 0 0] 25)
  have h1 := heap_alloc_new (w.alloc (.cells #[.slice none 0 0, .slice none 0 0] 25)) (.cells #[.int .i64 0, .int .i64 0] 41)
  have h2 := heap_alloc_new ((w.alloc (.cells #[.slice none 0 0, .slice none 0 0] 25)).alloc (.cells #[.int .i64 0, .int .i64 0] 41)) (.cells #[.slice none 0 0, .slice none 0 0] 25)
  rw [World.size_alloc] at h1 h2
  rw [World.size_alloc] at h2
  refine ⟨?_, ?_, h2, ⟨w.heap.size + 3, [], Owns.nil _ _ _ _ _, by simp, ⟨Owns.nil _ _ _ _ _, rfl, by simp, fun i hi => absurd hi (by simp), fun i hi => absurd hi (by simp), fun h => absurd rfl h, Nat.le_refl _, by simp⟩⟩, (((Below.refl _ w).alloc (Nat.le_refl _) _).alloc (by simp) _).alloc (by simp; omega) _⟩
  · rw [Below.heap_alloc _ _ _ (by simp; omega), Below.heap_alloc _ _ _ (by simp)]
    exact h0
  · rw [Below.heap_alloc _ _ _ (by simp)]
    exact h1
/-- The end of Get, where nothing is told but a fault. -/
def setR13 (W : World) (b : Nat) (D F : Value) (e a : Int) : World := (((W.setCell ⟨b, 0, none⟩ D).setCell ⟨b, 1, none⟩ F).setCell ⟨b + 1, 0, none⟩ (.int .i64 e)).setCell ⟨b + 1, 1, none⟩ (.int .i64 a)
theorem setR_but (W : World) (b : Nat) (D F : Value) (e a : Int) : But (fun k => k = b ∨ k = b + 1) W (setR13 W b D F e a) :=
  ((((But.refl (fun k => k = b ∨ k = b + 1) W).setCell (p := ⟨b, 0, none⟩) (.inl (.inl rfl)) D).setCell (p := ⟨b, 1, none⟩) (.inl (.inl rfl)) F).setCell (p := ⟨b + 1, 0, none⟩) (.inl (.inr rfl)) _).setCell (p := ⟨b + 1, 1, none⟩) (.inl (.inr rfl)) _
theorem got_nil13 {w W : World} (hb : Below w.heap.size w W) (e a : Int) : MGotDone w ⟨e, a, ⟨[], []⟩⟩ (.returned (.tuple #[.agg #[.slice none 0 0, .slice none 0 0], .agg #[.int .i64 e, .int .i64 a]])) (setR13 W w.heap.size (.slice none 0 0) (.slice none 0 0) e a) :=
  ⟨_, _, [], rfl, ⟨Owns.nil _ _ _ _ _, But.below hb (setR_but _ _ _ _ _ _) hb.size (fun k hk => by omega)⟩, OwnF.nil _ _ _⟩
theorem got_some13 {w W : World} {D F : Value} {m : ModV} (h : Gt13 w W D F m) : MGotDone w ⟨0, 0, m⟩ (.returned (.tuple #[.agg #[D, F], .agg #[.int .i64 0, .int .i64 0]])) (setR13 W w.heap.size D F 0 0) := by
  obtain ⟨b0, Cs, hm⟩ := h.mo
  have hbut := setR_but W w.heap.size D F 0 0
  have h1 := hm.low hbut (fun k hk => by omega)
  exact ⟨D, F, Cs, rfl, ⟨h1.dat.base (by omega), But.below h.bel hbut h.bel.size (fun k hk => by omega)⟩, ⟨h1.fns.fown.base (Nat.zero_le _), h1.fns.flen, h1.fns.finn, fun i hi => by obtain ⟨bs, Xs, h1, h2, _⟩ := h1.fns.cods i hi; exact .inr ⟨bs, Xs, h1, h2⟩⟩⟩
end Go.Proofs.YtohlifeenhaifaaGreatDoor
