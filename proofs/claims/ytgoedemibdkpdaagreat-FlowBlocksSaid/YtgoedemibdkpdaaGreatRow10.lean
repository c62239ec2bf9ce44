/- Blocks in a row that are changed in place. Plain lemmas; no condition but what each names. -/
import Derived.Test.YtgoedemibdkpdaaGreatMath10D
namespace Go.Proofs.YtgoedemibdkpdaaGreat
open Go.RowKit
set_option linter.unusedVariables false
set_option linter.unusedSimpArgs false

theorem cellsK_to : ∀ (l : List BlkV) (Xs : List Value) {i : Nat} (z : Int) (ys : List Int), Xs.length = l.length → i < l.length → cellsK (l.set i ⟨(l.getD i .zero).fr, z, ys⟩) Xs = (cellsK l Xs).set (i * 3 + 1) (.int .i64 z)
  | [], _, i, _, _, _, hi => absurd hi (by simp)
  | y :: l, [], _, _, _, h, _ => absurd h (by simp)
  | y :: l, X :: Xs, 0, z, ys, h, _ => by simp [cellsK, blkList]
  | y :: l, X :: Xs, i + 1, z, ys, h, hi => by
    have ih := cellsK_to l Xs (i := i) z ys (by simpa using h) (by simpa using hi)
    simp only [List.set_cons_succ, cellsK, List.getD_cons_succ]
    rw [ih, List.set_append_right _ _ (by simp [blkList]; omega)]
    congr 2
    simp [blkList]; omega
theorem cellsK_nx : ∀ (l : List BlkV) (Xs : List Value) {i : Nat} (ys : List Int), cellsK (l.set i ⟨(l.getD i .zero).fr, (l.getD i .zero).to, ys⟩) Xs = cellsK l Xs
  | [], _, i, _ => by simp [cellsK]
  | y :: l, [], 0, _ => by simp [cellsK]
  | y :: l, [], i + 1, _ => by simp [cellsK]
  | y :: l, X :: Xs, 0, ys => by simp [cellsK, blkList]
  | y :: l, X :: Xs, i + 1, ys => by
    simp only [List.set_cons_succ, cellsK, List.getD_cons_succ]
    rw [cellsK_nx l Xs ys]
theorem cellsK_setX : ∀ (l : List BlkV) (Xs : List Value) {i : Nat} (X : Value), Xs.length = l.length → i < l.length → cellsK l (Xs.set i X) = (cellsK l Xs).set (i * 3 + 2) X
  | [], _, i, _, _, hi => absurd hi (by simp)
  | y :: l, [], _, _, h, _ => absurd h (by simp)
  | y :: l, Z :: Xs, 0, X, h, _ => by simp [cellsK, blkList]
  | y :: l, Z :: Xs, i + 1, X, h, hi => by
    have ih := cellsK_setX l Xs (i := i) X (by simpa using h) (by simpa using hi)
    simp only [List.set_cons_succ, cellsK]
    rw [ih, List.set_append_right _ _ (by simp [blkList]; omega)]
    congr 2
    simp [blkList]; omega
theorem set_take {α : Type} : ∀ (xs : List α) (m p : Nat) (u : α), (xs.set p u).take m = (xs.take m).set p u
  | [], m, p, u => by simp
  | x :: xs, 0, p, u => by simp
  | x :: xs, m + 1, 0, u => by simp
  | x :: xs, m + 1, p + 1, u => by
    simp only [List.set_cons_succ, List.take_succ_cons]
    rw [set_take xs m p u]
/-- A cell of a row of the call's own is set. -/
theorem Owns.setAt {w : World} {base : Nat} {e : TypeId} {size : Nat} {n cap g p : Nat} {xs : List Value} (h : Owns w base e size AnyCell (.slice (some ⟨g, 0, none⟩) n cap) n xs) (u : Value) :
    Owns (w.setCell ⟨g, p, none⟩ u) base e size AnyCell (.slice (some ⟨g, 0, none⟩) n cap) n (xs.set p u) := by
  refine ⟨⟨by rw [List.length_set]; exact h.1.1, ?_⟩, fun _ _ _ _ _ _ _ _ => trivial⟩
  rcases h.1.2 with ⟨h0, _⟩ | ⟨g', cap', cur, he, h1, h2, h3, h4, h5, h6⟩
  · cases h0
  · simp only [Value.slice.injEq, Option.some.injEq, Addr.mk.injEq, and_true, true_and] at he
    obtain ⟨rfl, rfl⟩ := he
    refine .inr ⟨g, cap, cur.setIfInBounds p u, rfl, h1, heap_setCell_same w g p cur _ u h2, h3, h4, by simpa using h5, ?_⟩
    rw [Array.toList_setIfInBounds, set_take, h6]
theorem OutN.apart {base b2 : Nat} {W : World} {V X : Value} {g n cap : Nat} {cs : List Value} {xs : List Int} (h : Owns W base 34 3 AnyCell (.slice (some ⟨g, 0, none⟩) n cap) n cs) (hX : OutN b2 W X xs) : ¬ OwnB X g := by
  intro hg
  obtain ⟨c1, h1⟩ := hX.typed hg
  obtain ⟨c2, h2⟩ := h.typed (g := g) (by simp [Value.ownBlock])
  rw [h1] at h2
  injection h2 with h2
  injection h2 with _ h2 _
  exact absurd h2 (by decide)
theorem OwnK.setTo {base g n cap m : Nat} {W : World} {l : List BlkV} {Xs : List Value} (h : OwnK base W (.slice (some ⟨g, 0, none⟩) n cap) l Xs) (hn : n = l.length) (hm : m < l.length) (z : Int) :
    OwnK base (W.setCell ⟨g, m * 3 + 1, none⟩ (.int .i64 z)) (.slice (some ⟨g, 0, none⟩) n cap) (l.set m ⟨(l.getD m .zero).fr, z, (l.getD m .zero).nx⟩) Xs := by
  have ho := h.own
  rw [← hn] at ho
  have hs := (But.refl (OneBlock g) W).setCell (p := ⟨g, m * 3 + 1, none⟩) (.inl rfl) (.int .i64 z)
  refine ⟨?_, by rw [List.length_set]; exact h.len, fun i hi => ?_⟩
  · rw [List.length_set, ← hn, cellsK_to l Xs z _ h.len hm]
    exact ho.setAt _
  · rw [List.length_set] at hi
    have hx := h.nums i hi
    have hk : OutN base (W.setCell ⟨g, m * 3 + 1, none⟩ (.int .i64 z)) (Xs.getD i (.slice none 0 0)) (l.getD i .zero).nx := hx.but hs (fun g' hg' e => OutN.apart (V := Xs.getD i (.slice none 0 0)) ho hx (by rw [show g' = g from e] at hg'; exact hg'))
    by_cases e : m = i
    · subst e
      have : (l.set m ⟨(l.getD m .zero).fr, z, (l.getD m .zero).nx⟩).getD m .zero = ⟨(l.getD m .zero).fr, z, (l.getD m .zero).nx⟩ := by simp [List.getD, hm]
      rw [this]
      exact hk
    · have : (l.set m ⟨(l.getD m .zero).fr, z, (l.getD m .zero).nx⟩).getD i .zero = l.getD i .zero := by simp only [List.getD, List.getElem?_set_ne e]
      rw [this]
      exact hk
/-- What Blocks has while it tells what comes behind block i: X its list, w5 the world in which it began. -/
structure BkIn (base : Nat) (w5 wr : World) (g n cap i : Nat) (l : List BlkV) (Xs : List Value) (X : Value) (xs : List Int) : Prop where
  own : Owns wr base 34 3 AnyCell (.slice (some ⟨g, 0, none⟩) n cap) n (cellsK l (Xs.set i X))
  out : OutN w5.heap.size wr X xs
  but : But (OneBlock g) w5 wr
section
variable {base g n cap i : Nat} {w5 wr W : World} {l : List BlkV} {Xs : List Value} {X X' : Value} {xs ys : List Int}
theorem set_self (Xs : List Value) (i : Nat) (h : Xs.getD i (.slice none 0 0) = .slice none 0 0) : Xs.set i (.slice none 0 0) = Xs := by
  apply List.ext_getElem (by simp)
  intro j h1 h2
  rw [List.getElem_set]
  by_cases e : i = j
  · subst e
    rw [if_pos rfl]
    simp [List.getD, List.getElem?_eq_getElem h2] at h
    exact h.symm
  · rw [if_neg e]
theorem BkIn.start (h : OwnK base w5 (.slice (some ⟨g, 0, none⟩) n cap) l Xs) (hn : n = l.length) (h0 : Xs.getD i (.slice none 0 0) = .slice none 0 0) : BkIn base w5 w5 g n cap i l Xs (.slice none 0 0) [] := by
  have ho := h.own
  rw [← hn] at ho
  exact ⟨by rw [set_self Xs i h0]; exact ho, Owns.nil _ _ _ _ _, But.refl _ _⟩
/-- A number is appended to the list, ahead of its being laid in its block. -/
theorem BkIn.mid (h : BkIn base w5 wr g n cap i l Xs X xs) (hb : But (OwnB X) wr W) : Owns W base 34 3 AnyCell (.slice (some ⟨g, 0, none⟩) n cap) n (cellsK l (Xs.set i X)) ∧ But (OneBlock g) w5 W := by
  refine ⟨Owns.of_blocks h.own (fun g' hg' => ?_) hb.size, ⟨hb.os.trans h.but.os, hb.tape.trans h.but.tape, hb.output.trans h.but.output, Nat.le_trans h.but.size hb.size, fun k hk hne => ?_⟩⟩
  · have e : g = g' := by simpa [Value.ownBlock] using hg'
    subst e
    exact hb.block g (h.own.lt (g := g) (by simp [Value.ownBlock])).2 (OutN.apart (V := X) h.own h.out)
  · rw [hb.block k (Nat.lt_of_lt_of_le hk h.but.size) (fun hx => by have := (h.out.lt hx).1; omega)]
    exact h.but.block k hk hne
theorem BkIn.lay (h1 : Owns W base 34 3 AnyCell (.slice (some ⟨g, 0, none⟩) n cap) n (cellsK l (Xs.set i X))) (h2 : But (OneBlock g) w5 W) (ho : OutN w5.heap.size W X' ys) (hX : Xs.length = l.length) (hi : i < l.length) :
    BkIn base w5 (W.setCell ⟨g, i * 3 + 2, none⟩ X') g n cap i l Xs X' ys := by
  have hs := (But.refl (OneBlock g) W).setCell (p := ⟨g, i * 3 + 2, none⟩) (.inl rfl) X'
  refine ⟨?_, ho.but hs (fun g' hg' e => OutN.apart (V := X') h1 ho (by rw [show g' = g from e] at hg'; exact hg')), h2.trans hs⟩
  have := h1.setAt (p := i * 3 + 2) X'
  rw [cellsK_setX l (Xs.set i X) X' (by simpa using hX) hi |>.symm] at this
  rw [List.set_set] at this
  exact this
/-- The row as it stands then. -/
theorem BkIn.row (h : BkIn base w5 wr g n cap i l Xs X xs) (hk : OwnK base w5 (.slice (some ⟨g, 0, none⟩) n cap) l Xs) (hn : n = l.length) (hi : i < l.length) (hb : base ≤ w5.heap.size) :
    OwnK base wr (.slice (some ⟨g, 0, none⟩) n cap) (l.set i ⟨(l.getD i .zero).fr, (l.getD i .zero).to, xs⟩) (Xs.set i X) := by
  have ho := hk.own
  rw [← hn] at ho
  refine ⟨?_, by simp [hk.len], fun j hj => ?_⟩
  · rw [List.length_set, ← hn, cellsK_nx]
    exact h.own
  · rw [List.length_set] at hj
    by_cases e : i = j
    · subst e
      have e1 : (l.set i ⟨(l.getD i .zero).fr, (l.getD i .zero).to, xs⟩).getD i .zero = ⟨(l.getD i .zero).fr, (l.getD i .zero).to, xs⟩ := by simp [List.getD, hi]
      have e2 : (Xs.set i X).getD i (.slice none 0 0) = X := by simp [List.getD, hk.len, hi]
      rw [e1, e2]
      exact h.out.base hb
    · have e1 : (l.set i ⟨(l.getD i .zero).fr, (l.getD i .zero).to, xs⟩).getD j .zero = l.getD j .zero := by simp only [List.getD, List.getElem?_set_ne e]
      have e2 : (Xs.set i X).getD j (.slice none 0 0) = Xs.getD j (.slice none 0 0) := by simp only [List.getD, List.getElem?_set_ne e]
      rw [e1, e2]
      have hx := hk.nums j hj
      exact hx.but h.but (fun g' hg' e => OutN.apart (V := Xs.getD j (.slice none 0 0)) ho hx (by rw [show g' = g from e] at hg'; exact hg'))
theorem BkIn.cell (h : BkIn base w5 wr g n cap i l Xs X xs) (hX : Xs.length = l.length) (hi : i < l.length) : wr.cell? ⟨g, i * 3 + 2, none⟩ = some X ∧ wr.frozen? ⟨g, i * 3 + 2, none⟩ = false := by
  have hc := cellsK_at l (Xs.set i X) (i := i) (j := 2) (by simpa using hX) hi (by omega)
  have e2 : (Xs.set i X).getD i (.slice none 0 0) = X := by simp [List.getD, hX, hi]
  rw [e2] at hc
  have := h.own.1.cells (g := g) rfl (i * 3 + 2) _ hc
  have e : (⟨g, 0, none⟩ : Addr).add (i * 3 + 2) = ⟨g, i * 3 + 2, none⟩ := by unfold Addr.add; split <;> simp_all
  rw [e] at this
  refine ⟨this, ?_⟩
  rcases h.own.1.2 with ⟨h0, _⟩ | ⟨g', cap', cur, he, _, h2, _⟩
  · cases h0
  · simp only [Value.slice.injEq, Option.some.injEq, Addr.mk.injEq, and_true, true_and] at he
    obtain ⟨rfl, rfl⟩ := he
    exact frozen_of_row _ _ _ _ _ h2
end
theorem ownK_cell {base g n cap j : Nat} {W : World} {l : List BlkV} {Xs : List Value} (h : OwnK base W (.slice (some ⟨g, 0, none⟩) n cap) l Xs) (hj : j < l.length) :
    W.cell? ⟨g, j * 3 + 1, none⟩ = some (.int .i64 (l.getD j .zero).to) ∧ W.frozen? ⟨g, j * 3 + 1, none⟩ = false := by
  have hc := cellsK_at l Xs (i := j) (j := 1) h.len hj (by omega)
  have := h.own.1.cells (g := g) rfl (j * 3 + 1) _ hc
  have e : (⟨g, 0, none⟩ : Addr).add (j * 3 + 1) = ⟨g, j * 3 + 1, none⟩ := by unfold Addr.add; split <;> simp_all
  rw [e] at this
  refine ⟨this, ?_⟩
  rcases h.own.1.2 with ⟨h0, _⟩ | ⟨g', cap', cur, he, _, h2, _⟩
  · cases h0
  · simp only [Value.slice.injEq, Option.some.injEq, Addr.mk.injEq, and_true, true_and] at he
    obtain ⟨rfl, _, rfl⟩ := he
    exact frozen_of_row _ _ _ _ _ h2
end Go.Proofs.YtgoedemibdkpdaaGreat
