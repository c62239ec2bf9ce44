/- Blocks in a row: what they are in the model, and an append of one. Plain lemmas; no condition but what each names. -/
import Derived.Test.YtgoedemibdkpdaaGreatFlow10F
namespace Go.Proofs.YtgoedemibdkpdaaGreat
open Go.RowKit
set_option linter.unusedVariables false
set_option linter.unusedSimpArgs false

structure BlkV where
  fr : Int
  to : Int
  nx : List Int
def BlkV.zero : BlkV := ⟨0, 0, []⟩
def blkCell (b : BlkV) (X : Value) (j : Nat) : Value := if j = 0 then .int .i64 b.fr else if j = 1 then .int .i64 b.to else X
def blkList (b : BlkV) (X : Value) : List Value := [.int .i64 b.fr, .int .i64 b.to, X]
def cellsK : List BlkV → List Value → List Value
  | y :: l, X :: Xs => blkList y X ++ cellsK l Xs
  | _, _ => []
theorem cellsK_length : ∀ (l : List BlkV) (Xs : List Value), Xs.length = l.length → (cellsK l Xs).length = l.length * 3
  | [], [], _ => rfl
  | y :: l, X :: Xs, h => by
    simp only [cellsK, List.length_append, cellsK_length l Xs (by simpa using h), blkList, List.length_cons, List.length_nil]
    omega
theorem blkList_at (y : BlkV) (X : Value) {j : Nat} (hj : j < 3) : (blkList y X)[j]? = some (blkCell y X j) := by
  rcases (show j = 0 ∨ j = 1 ∨ j = 2 by omega) with rfl | rfl | rfl <;> rfl
theorem cellsK_at : ∀ (l : List BlkV) (Xs : List Value) {i j : Nat}, Xs.length = l.length → i < l.length → j < 3 → (cellsK l Xs)[i * 3 + j]? = some (blkCell (l.getD i .zero) (Xs.getD i (.slice none 0 0)) j)
  | [], _, i, j, _, hi, _ => absurd hi (by simp)
  | y :: l, [], i, j, h, _, _ => absurd h (by simp)
  | y :: l, X :: Xs, 0, j, _, _, hj => by
    simp only [cellsK]
    rw [List.getElem?_append_left (by simp [blkList]; omega)]
    simpa using blkList_at y X hj
  | y :: l, X :: Xs, i + 1, j, h, hi, hj => by
    simp only [cellsK]
    rw [List.getElem?_append_right (by simp [blkList]; omega)]
    have e : (i + 1) * 3 + j - (blkList y X).length = i * 3 + j := by simp [blkList]; omega
    rw [e, cellsK_at l Xs (by simpa using h) (by simpa using hi) hj]
    rfl
theorem cellsK_append : ∀ (l : List BlkV) (Xs : List Value) (y : BlkV) (X : Value), Xs.length = l.length → cellsK (l ++ [y]) (Xs ++ [X]) = cellsK l Xs ++ blkList y X
  | [], [], y, X, _ => by simp [cellsK]
  | z :: l, Z :: Xs, y, X, h => by
    simp only [List.cons_append, cellsK, cellsK_append l Xs y X (by simpa using h), List.append_assoc]
/-- Blocks to be read. -/
def IsBlks (w : World) (B : Nat) (V : Value) (l : List BlkV) : Prop :=
  l.length ≤ maxLen ∧ ((l = [] ∧ ∃ a cap, V = .slice a 0 cap) ∨
    ∃ b off cap, V = .slice (some ⟨b, off, none⟩) l.length cap ∧ l.length ≤ cap ∧ b < B ∧ ∀ i, i < l.length → ∃ X, IsNums .i64 w B X (l.getD i .zero).nx ∧ ∀ j, j < 3 → w.cell? ⟨b, off + i * 3 + j, none⟩ = some (blkCell (l.getD i .zero) X j))
theorem IsBlks.len {w : World} {B : Nat} {V : Value} {l : List BlkV} (h : IsBlks w B V l) : ∃ a cap, V = .slice a l.length cap := by
  rcases h.2 with ⟨rfl, a, cap, h⟩ | ⟨b, off, cap, h, _⟩
  · exact ⟨a, cap, h⟩
  · exact ⟨_, cap, h⟩
theorem IsBlks.plain {w : World} {B : Nat} {V : Value} {l : List BlkV} (h : IsBlks w B V l) (hn : 0 < l.length) :
    ∃ b off cap, V = .slice (some ⟨b, off, none⟩) l.length cap ∧ l.length ≤ cap ∧ b < B ∧ ∀ i, i < l.length → ∃ X, IsNums .i64 w B X (l.getD i .zero).nx ∧ ∀ j, j < 3 → w.cell? ⟨b, off + i * 3 + j, none⟩ = some (blkCell (l.getD i .zero) X j) := by
  rcases h.2 with ⟨rfl, _⟩ | h
  · simp at hn
  · exact h
theorem IsBlks.below {w w' : World} {B B' : Nat} {V : Value} {l : List BlkV} (h : IsBlks w B V l) (hb : Below B' w w') (hB : B ≤ B') : IsBlks w' B V l := by
  refine ⟨h.1, ?_⟩
  rcases h.2 with h0 | ⟨b, off, cap, h1, h2, h3, h4⟩
  · exact .inl h0
  · refine .inr ⟨b, off, cap, h1, h2, h3, fun i hi => ?_⟩
    obtain ⟨X, hX, hc⟩ := h4 i hi
    exact ⟨X, hX.below hb hB, fun j hj => (hb.cell (p := ⟨b, off + i * 3 + j, none⟩) (Nat.lt_of_lt_of_le h3 hB)).trans (hc j hj)⟩
theorem IsBlks.more {w : World} {B B' : Nat} {V : Value} {l : List BlkV} (h : IsBlks w B V l) (hB : B ≤ B') : IsBlks w B' V l := by
  refine ⟨h.1, ?_⟩
  rcases h.2 with h0 | ⟨b, off, cap, h1, h2, h3, h4⟩
  · exact .inl h0
  · refine .inr ⟨b, off, cap, h1, h2, Nat.lt_of_lt_of_le h3 hB, fun i hi => ?_⟩
    obtain ⟨X, hX, hc⟩ := h4 i hi
    exact ⟨X, hX.more hB, hc⟩
/-- Blocks that a call makes by append. -/
structure OwnK (base : Nat) (W : World) (V : Value) (l : List BlkV) (Xs : List Value) : Prop where
  own : Owns W base 34 3 AnyCell V l.length (cellsK l Xs)
  len : Xs.length = l.length
  nums : ∀ i, i < l.length → OutN base W (Xs.getD i (.slice none 0 0)) (l.getD i .zero).nx
theorem OwnK.nil (base : Nat) (W : World) : OwnK base W (.slice none 0 0) [] [] := ⟨Owns.nil _ _ _ _ _, rfl, fun i hi => absurd hi (by simp)⟩
section
variable {base : Nat} {W W' : World} {V : Value} {l : List BlkV} {Xs : List Value}
theorem OwnK.below {B : Nat} (h : OwnK base W V l Xs) (hb : Below B W W') (hB : W.heap.size ≤ B) : OwnK base W' V l Xs :=
  ⟨h.own.below hb hB, h.len, fun i hi => Owns.below (h.nums i hi) hb hB⟩
theorem OwnK.blks (h : OwnK base W V l Xs) (hl : l.length ≤ 1000000) : IsBlks W W.heap.size V l := by
  refine ⟨by unfold maxLen; omega, ?_⟩
  rcases h.own.1.2 with ⟨rfl, h0⟩ | ⟨g, cap, cur, rfl, h1, h2, h3, h4, h5, h6⟩
  · exact .inl ⟨List.eq_nil_of_length_eq_zero h0, none, 0, rfl⟩
  · exact .inr ⟨g, 0, cap, rfl, h3, (h.own.lt (g := g) (by simp [Value.ownBlock])).2, fun i hi => ⟨_, IsNums.of_owns (h.nums i hi) (Nat.le_refl _), fun j hj => by
      have := h.own.1.cells (g := g) rfl (i * 3 + j) _ (cellsK_at l Xs h.len hi hj)
      rw [← this]
      congr 1
      unfold Addr.add
      split <;> simp_all⟩⟩
end
theorem blk_info : (Tryz.prog.info? 34).map (fun i => (i.zero, i.size, i.bytes)) = some (some (.agg #[.int .i64 0, .int .i64 0, .slice none 0 0]), 3, 40) := by kernel_rfl
theorem one_blk (w : World) (y : BlkV) (X : Value) : ∀ j u, (blkList y X)[j]? = some u → (w.alloc (.cells #[.int .i64 y.fr, .int .i64 y.to, X] 34)).cell? ((⟨w.heap.size, 0, none⟩ : Addr).add j) = some u := by
  intro j u hu
  have e : (⟨w.heap.size, 0, none⟩ : Addr).add j = ⟨w.heap.size, j, none⟩ := by unfold Addr.add; split <;> simp_all
  rw [e, cell_of_row _ _ _ _ _ _ (heap_alloc_new w _), ← Array.getElem?_toList]
  exact hu
/-- An append of one block, at the operation. -/
theorem wpList_outK {W : World} {ops : Array Oper} {rest : List Oper} {o : Oper} {a : Act} {Q : Exit → Act → World → Prop} (hgd : o.guard = none) (s x : Operand)
    (ho : o.op = .call { callee := .builtin .append, args := #[s, x], argTypes := #[26, 26] }) {V X : Value} {l : List BlkV} {Xs : List Value} {y : BlkV} {base : Nat} (hs : a.eval s = V) (hx : a.eval x = .slice (some ⟨W.heap.size, 0, none⟩) 1 1)
    (h : OwnK base W V l Xs) (hX : OutN base W X y.nx) (hX1 : X.oneCell' = true) (hb : base ≤ W.heap.size) (hl : l.length ≤ 1000000)
    (hK : ∀ V' W', OwnK base W' V' (l ++ [y]) (Xs ++ [X]) → Below base W W' → wpList Tryz.prog ops Q rest (a.put o.dst V') W') :
    wpList Tryz.prog ops Q (o :: rest) a (W.alloc (.cells #[.int .i64 y.fr, .int .i64 y.to, X] 34)) := by
  obtain ⟨i, hi, h1, h2, h3⟩ := info_parts blk_info
  have ha : Below W.heap.size W (W.alloc (.cells #[.int .i64 y.fr, .int .i64 y.to, X] 34)) := (Below.refl W.heap.size W).alloc (Nat.le_refl _) _
  have hg := Owns.below h.own ha (Nat.le_refl _)
  refine wpList_append_q _ hgd s x 26 ho base 34 i _ 3 40 Tryz.underlying26 hi h1 h2 h3 rfl (by decide) AnyCell (fun _ _ => trivial) V l.length (cellsK l Xs) hs hg ⟨W.heap.size, 0, none⟩ 1 1 (blkList y X) hx rfl (one_blk W y X) (by intro u hu; simp [blkList] at hu; rcases hu with rfl | rfl | rfl <;> first | rfl | exact hX1) (fun _ _ => trivial) (by unfold maxLen; omega) (by omega) (by simp; omega) ?_
  intro V' W' ho' hg'
  have e : World.grownBy (W.alloc (.cells #[.int .i64 y.fr, .int .i64 y.to, X] 34)) W' V.ownBlock := hg'
  have hblk : ∀ i, i < W.heap.size → some i ≠ V.ownBlock → W'.heap[i]? = W.heap[i]? := fun i hi hn => (e.block i (by simp; omega) hn).trans (ha.block i hi)
  have hsz : W.heap.size ≤ W'.heap.size := Nat.le_trans (by simp) e.size
  have hkeep : ∀ (v : Value) (xs : List Int), OutN base W v xs → OutN base W' v xs := fun v xs hv => by
    refine Owns.of_blocks hv (fun g hg => hblk g (hv.lt hg).2 (fun e' => ?_)) hsz
    obtain ⟨c1, h1⟩ := hv.typed hg
    obtain ⟨c2, h2⟩ := h.own.typed e'.symm
    rw [h1] at h2
    injection h2 with h2
    injection h2 with _ h2 _
    exact absurd h2 (by decide)
  refine hK V' W' ⟨?_, by simp [h.len], fun i hi => ?_⟩ ((ha.mono hb).grown e (by simp; omega) fun j hj => (h.own.lt hj).1)
  · rw [List.length_append, cellsK_append l Xs y X h.len]; exact ho'
  · rw [List.length_append] at hi
    simp only [List.length_cons, List.length_nil, Nat.zero_add] at hi
    rw [getD_snoc l y .zero hi, getD_snoc Xs X _ (by rw [h.len]; exact hi), h.len]
    by_cases hlt : i < l.length
    · rw [if_pos hlt, if_pos hlt]
      exact hkeep _ _ (h.nums i hlt)
    · rw [if_neg hlt, if_neg hlt]
      exact hkeep _ _ hX
/-- The blocks of code. -/
def blkV (l : List InsV) (j : Nat) : BlkV := ⟨fromV l j, toV l j, behindV l j⟩
def blksV (l : List InsV) : List BlkV := (List.range (leadI l).length).map (blkV l)
theorem blksV_length (l : List InsV) : (blksV l).length = (leadI l).length := by simp [blksV]
theorem blksV_at {l : List InsV} {j : Nat} (h : j < (leadI l).length) : (blksV l).getD j .zero = blkV l j := by simp [blksV, List.getD, h]
theorem blks_take {l : List InsV} {j : Nat} (h : j < (leadI l).length) : (blksV l).take (j + 1) = (blksV l).take j ++ [blkV l j] := by
  have h' : j < (blksV l).length := by rw [blksV_length]; exact h
  rw [List.take_add_one, List.getElem?_eq_getElem h']
  simp [blksV]
end Go.Proofs.YtgoedemibdkpdaaGreat
