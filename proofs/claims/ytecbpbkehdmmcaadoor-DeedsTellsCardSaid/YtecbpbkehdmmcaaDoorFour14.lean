/- Four outcomes in boxes, two of them copies. Plain lemmas; no condition but what each names. -/
import Derived.Test.YtecbpbkehdmmcaaDoorTwo14
namespace Go.Proofs.YtecbpbkehdmmcaaDoor
open Go.RowKit Go.Shelf
set_option linter.unusedVariables false
set_option linter.unusedSimpArgs false

structure Four14 (w W : World) (p q : Nat) (A B C D : Array Value) : Prop where
  two : Two14 w W A B
  hp : W.heap[p]? = some (.cells C 47 (0, 0))
  hq : W.heap[q]? = some (.cells D 47 (0, 0))
  ne : p ≠ q
  lp : w.heap.size + 2 ≤ p
  lq : w.heap.size + 2 ≤ q
section
variable {w W W' : World} {p q : Nat} {A B C D : Array Value}
theorem Four14.grow (h : Four14 w W p q A B C D) (hb : Below W.heap.size W W') : Four14 w W' p q A B C D :=
  ⟨h.two.grow hb, by rw [hb.block _ (heap_lt h.hp)]; exact h.hp, by rw [hb.block _ (heap_lt h.hq)]; exact h.hq, h.ne, h.lp, h.lq⟩
theorem Four14.drew (h : Four14 w W p q A B C D) : Four14 w W.drew p q A B C D := h.grow (Below.refl _ _).drew
theorem Four14.cells {a0 a1 a2 b0 b1 b2 c0 c1 c2 d0 d1 d2 : Value} (h : Four14 w W p q #[a0, a1, a2] #[b0, b1, b2] #[c0, c1, c2] #[d0, d1, d2]) :
    W.cell? ⟨w.heap.size, 0, none⟩ = some a0 ∧ W.cell? ⟨w.heap.size, 1, none⟩ = some a1 ∧ W.cell? ⟨w.heap.size, 2, none⟩ = some a2 ∧
    W.cell? ⟨w.heap.size + 1, 0, none⟩ = some b0 ∧ W.cell? ⟨w.heap.size + 1, 1, none⟩ = some b1 ∧ W.cell? ⟨w.heap.size + 1, 2, none⟩ = some b2 ∧
    W.cell? ⟨p, 0, none⟩ = some c0 ∧ W.cell? ⟨p, 1, none⟩ = some c1 ∧ W.cell? ⟨p, 2, none⟩ = some c2 ∧
    W.cell? ⟨q, 0, none⟩ = some d0 ∧ W.cell? ⟨q, 1, none⟩ = some d1 ∧ W.cell? ⟨q, 2, none⟩ = some d2 := by
  obtain ⟨x0, x1, x2, y0, y1, y2⟩ := h.two.cells
  obtain ⟨z0, z1, z2⟩ := cells3_14 h.hp
  obtain ⟨t0, t1, t2⟩ := cells3_14 h.hq
  exact ⟨x0, x1, x2, y0, y1, y2, z0, z1, z2, t0, t1, t2⟩
theorem Four14.free (h : Four14 w W p q A B C D) (j : Nat) : W.frozen? ⟨p, j, none⟩ = false ∧ W.frozen? ⟨q, j, none⟩ = false :=
  ⟨frozen_of_row W _ j _ _ h.hp, frozen_of_row W _ j _ _ h.hq⟩
/-- Two boxes more. -/
theorem four_new14 (h : Two14 w W A B) (C D : Array Value) : Four14 w ((W.alloc (.cells C 47)).alloc (.cells D 47)) W.heap.size (W.heap.size + 1) A B C D := by
  obtain ⟨h1, h2, h3⟩ := two_alloc14 W C D 47 47
  have := heap_lt h.b
  exact ⟨h.grow h1, h2, h3, by omega, by omega, by omega⟩
theorem four_new14' (h : Two14 w W A B) (C D : Array Value) (hp : p = W.heap.size) (hq : q = W.heap.size + 1) : Four14 w ((W.alloc (.cells C 47)).alloc (.cells D 47)) p q A B C D := by
  subst hp hq; exact four_new14 h C D
theorem Four14.read {a0 a1 a2 b0 b1 b2 : Value} (h : Four14 w W p q #[a0, a1, a2] #[b0, b1, b2] C D) : W.cell? ⟨w.heap.size, 0, none⟩ = some a0 ∧ W.cell? ⟨w.heap.size + 1, 0, none⟩ = some b0 :=
  ⟨h.two.cells.1, h.two.cells.2.2.2.1⟩
theorem Four14.swap (h : Four14 w W p q A B C D) : Four14 w W q p A B D C := ⟨h.two, h.hq, h.hp, h.ne.symm, h.lq, h.lp⟩
theorem four_set14 {c0 c1 c2 : Value} (h : Four14 w W p q A B #[c0, c1, c2] D) (x : Value) : Four14 w (W.setCell ⟨p, 0, none⟩ x) p q A B #[x, c1, c2] D := by
  have s1 := heap_setCell_same W p 0 _ _ x h.hp
  have hbut : But (OneBlock p) W (W.setCell ⟨p, 0, none⟩ x) := (But.refl (OneBlock p) W).setCell (p := ⟨p, 0, none⟩) (.inl rfl) _
  have e1 : ∀ g, OneBlock p g → g = p := fun g e => e
  have hl := h.lp
  refine ⟨⟨?_, ?_, But.below h.two.bel hbut h.two.bel.size (fun k hk => by have := e1 k hk; omega)⟩, s1, ?_, h.ne, h.lp, h.lq⟩
  · rw [hbut.block _ (heap_lt h.two.a) (fun e => by have := e1 _ e; omega)]; exact h.two.a
  · rw [hbut.block _ (heap_lt h.two.b) (fun e => by have := e1 _ e; omega)]; exact h.two.b
  · rw [hbut.block _ (heap_lt h.hq) (fun e => by have := e1 _ e; have := h.ne; omega)]; exact h.hq
/-- A row of its own is not touched by a store into a box. -/
theorem owns_set14 {base : Nat} {v : Value} {n : Nat} {xs : List Value} (h : Owns W base 60 2 AnyC14 v n xs) (hp : W.heap[p]? = some (.cells C 47 (0, 0))) (x : Value) : Owns (W.setCell ⟨p, 0, none⟩ x) base 60 2 AnyC14 v n xs := by
  have hbut : But (OneBlock p) W (W.setCell ⟨p, 0, none⟩ x) := (But.refl (OneBlock p) W).setCell (p := ⟨p, 0, none⟩) (.inl rfl) _
  have e1 : ∀ g, OneBlock p g → g = p := fun g e => e
  refine h.but hbut (fun g hg e => ?_)
  have e2 := e1 _ e
  subst e2
  obtain ⟨_, cur, hc⟩ := typed14 h hg
  exact types14 hc hp (by decide)
/-- Behind the two stores. -/
structure In14 (w W : World) (p q : Nat) (A B C D : Array Value) (x y : Value) (L M : List (Int × Int)) : Prop where
  four : Four14 w W p q A B C D
  x : IsDeeds W W.heap.size x L
  y : IsDeeds W W.heap.size y M
theorem In14.grow {x y : Value} {L M : List (Int × Int)} (h : In14 w W p q A B C D x y L M) (hb : Below W.heap.size W W') : In14 w W' p q A B C D x y L M := ⟨h.four.grow hb, h.x.grow hb, h.y.grow hb⟩
theorem in_made14 {c0 c1 c2 d0 d1 d2 x y : Value} {L M : List (Int × Int)} {base base' : Nat} (h : Four14 w W p q A B #[c0, c1, c2] #[d0, d1, d2]) (hx : Owns W base 60 2 AnyC14 x L.length (cellsD L)) (hy : Owns W base' 60 2 AnyC14 y M.length (cellsD M)) :
    In14 w ((W.setCell ⟨p, 0, none⟩ x).setCell ⟨q, 0, none⟩ y) p q A B #[x, c1, c2] #[y, d1, d2] x y L M := by
  have h1 := four_set14 h x
  have h2 := (four_set14 h1.swap y).swap
  exact ⟨h2, IsDeeds.of_owns (owns_set14 (owns_set14 hx h.hp x) h1.hq y) (Nat.le_refl _), IsDeeds.of_owns (owns_set14 (owns_set14 hy h.hp x) h1.hq y) (Nat.le_refl _)⟩
theorem in_made14' {c0 c1 c2 d0 d1 d2 x y : Value} {L M : List (Int × Int)} {base base' : Nat} (h : Four14 w W p q A B #[c0, c1, c2] #[d0, d1, d2]) (hx : Owns W base 60 2 AnyC14 x L.length (cellsD L)) (hy : Owns W base' 60 2 AnyC14 y M.length (cellsD M)) :
    In14 w ((W.setCell ⟨q, 0, none⟩ y).setCell ⟨p, 0, none⟩ x) p q A B #[x, c1, c2] #[y, d1, d2] x y L M := by
  have h1 := in_made14 h.swap hy hx
  exact ⟨h1.four.swap, h1.y, h1.x⟩
end
end Go.Proofs.YtecbpbkehdmmcaaDoor
