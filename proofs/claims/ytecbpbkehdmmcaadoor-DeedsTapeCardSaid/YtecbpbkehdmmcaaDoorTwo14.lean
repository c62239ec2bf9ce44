/- Two outcomes in boxes; when two are the same, when they have one text. Plain lemmas; no condition but what each names. -/
import Derived.Test.YtecbpbkehdmmcaaDoorLaws14B
namespace Go.Proofs.YtecbpbkehdmmcaaDoor
open Go.RowKit Go.Shelf
set_option linter.unusedVariables false
set_option linter.unusedSimpArgs false

/-- Two outcomes in boxes. -/
structure Two14 (w W : World) (A B : Array Value) : Prop where
  a : W.heap[w.heap.size]? = some (.cells A 47 (0, 0))
  b : W.heap[w.heap.size + 1]? = some (.cells B 47 (0, 0))
  bel : Below w.heap.size w W
theorem Two14.grow {w W W' : World} {A B : Array Value} (h : Two14 w W A B) (hb : Below W.heap.size W W') : Two14 w W' A B :=
  ⟨by rw [hb.block _ (heap_lt h.a)]; exact h.a, by rw [hb.block _ (heap_lt h.b)]; exact h.b, h.bel.trans (hb.mono h.bel.size)⟩
theorem two14_mk (w : World) (A B : Array Value) : Two14 w ((w.alloc (.cells A 47)).alloc (.cells B 47)) A B := by
  obtain ⟨h1, h2, h3⟩ := two_alloc14 w A B 47 47
  exact ⟨h2, h3, h1⟩
theorem Two14.cells {w W : World} {a0 a1 a2 b0 b1 b2 : Value} (h : Two14 w W #[a0, a1, a2] #[b0, b1, b2]) : W.cell? ⟨w.heap.size, 0, none⟩ = some a0 ∧ W.cell? ⟨w.heap.size, 1, none⟩ = some a1 ∧ W.cell? ⟨w.heap.size, 2, none⟩ = some a2 ∧
    W.cell? ⟨w.heap.size + 1, 0, none⟩ = some b0 ∧ W.cell? ⟨w.heap.size + 1, 1, none⟩ = some b1 ∧ W.cell? ⟨w.heap.size + 1, 2, none⟩ = some b2 := by
  obtain ⟨x0, x1, x2⟩ := cells3_14 h.a
  obtain ⟨y0, y1, y2⟩ := cells3_14 h.b
  exact ⟨x0, x1, x2, y0, y1, y2⟩
theorem Two14.free {w W : World} {A B : Array Value} (h : Two14 w W A B) (j : Nat) : W.frozen? ⟨w.heap.size, j, none⟩ = false ∧ W.frozen? ⟨w.heap.size + 1, j, none⟩ = false :=
  ⟨frozen_of_row W _ j _ _ h.a, frozen_of_row W _ j _ _ h.b⟩
theorem two_set14 {w W : World} {A : Array Value} {b0 b1 b2 : Value} (h : Two14 w W A #[b0, b1, b2]) (x y : Value) : Two14 w ((W.setCell ⟨w.heap.size + 1, 1, none⟩ x).setCell ⟨w.heap.size + 1, 2, none⟩ y) A #[b0, x, y] := by
  have s1 := heap_setCell_same W (w.heap.size + 1) 1 _ _ x h.b
  have s2 := heap_setCell_same _ (w.heap.size + 1) 2 _ _ y s1
  have hbut : But (OneBlock (w.heap.size + 1)) W ((W.setCell ⟨w.heap.size + 1, 1, none⟩ x).setCell ⟨w.heap.size + 1, 2, none⟩ y) := ((But.refl (OneBlock (w.heap.size + 1)) W).setCell (p := ⟨w.heap.size + 1, 1, none⟩) (.inl rfl) _).setCell (p := ⟨w.heap.size + 1, 2, none⟩) (.inl rfl) _
  have e1 : ∀ g, OneBlock (w.heap.size + 1) g → g = w.heap.size + 1 := fun g e => e
  refine ⟨?_, s2, But.below h.bel hbut h.bel.size (fun k hk => by have := e1 k hk; omega)⟩
  rw [hbut.block _ (heap_lt h.a) (fun e => by have := e1 _ e; omega)]
  exact h.a
theorem sameO_refl14 (L : List (Int × Int)) (k c : Int) : sameO L k c L k c = true := by unfold sameO; simp
theorem begins_both14 (L M : List (Int × Int)) (k c : Int) : sameO L k c M k c = (beginsO L M && beginsO M L) := by
  unfold sameO beginsO
  simp only [beq_self_eq_true, Bool.and_self, Bool.true_and]
  by_cases h : L = M
  · subst h; simp
  · have h1 : (L == M) = false := by simp [h]
    rw [h1]
    by_cases hl : L.length ≤ M.length
    · by_cases hm : M.length ≤ L.length
      · have e : M.take L.length = M := List.take_of_length_le (by omega)
        rw [e, h1]; simp
      · simp [hm]
    · simp [hl]
theorem text_same14 (L M : List (Int × Int)) (k c k' c' : Int) (h : errO L k c = 0) (h' : errO M k' c' = 0) : ((textQ L k c).toList == (textQ M k' c').toList) = sameO L k c M k' c' := by
  have e1 : okO L k c = true := by
    unfold errO at h
    split at h
    · assumption
    · simp at h
  have e2 : okO M k' c' = true := by
    unfold errO at h'
    split at h'
    · assumption
    · simp at h'
  unfold textQ
  rw [if_pos e1, if_pos e2]
  have hq := texts14 e1 e2
  unfold sameO
  by_cases hs : strOfNums (textO L k c) = strOfNums (textO M k' c')
  · obtain ⟨rfl, rfl, rfl⟩ := hq.1 hs
    simp
  · have hn : ¬ (k = k' ∧ c = c' ∧ L = M) := fun h => hs (hq.2 h)
    have h1 : ((strOfNums (textO L k c)).toList == (strOfNums (textO M k' c')).toList) = false := by
      rw [beq_eq_false_iff_ne]
      intro hc
      apply hs
      rw [ByteArray.toList_eq, ByteArray.toList_eq] at hc
      exact ByteArray.ext (Array.toList_inj.1 hc)
    rw [h1]
    by_cases e : k = k' <;> by_cases e' : c = c' <;> by_cases e'' : L = M <;> simp_all
end Go.Proofs.YtecbpbkehdmmcaaDoor
