/- Lemmas of Blk10, Math10D, Ref10A, Ref10B, Ref10C, each with its own remark. -/
import Derived.Test.YtfdblmjgpoocpaaGreatS17
import Derived.Test.YtfdblmjgpoocpaaGreatS16
import Derived.Test.YtfdblmjgpoocpaaGreatS15
/- (Blk10) Blocks in a row: what they are in the model, and an append of one. Plain lemmas; no condition but what each names. -/
namespace Go.Proofs.YtfdblmjgpoocpaaGreat
open Go.RowKit
set_option linter.unusedVariables false
set_option linter.unusedSimpArgs false

structure BlkV where
  fr : Int
  to : Int
  nx : List Int
def BlkV.zero : BlkV := ⟨0, 0, []⟩
def blkCell (b : BlkV) (X : Value) (j : Nat) : Value := if j = 0 then .int .i64 b.fr else if j = 1 then .int .i64 b.to else X
def blkList (b : BlkV) (X : Value) : List Value := [.int .i64 b.fr, .int .i64 b.to, X]
def cellsK : List BlkV → List Value → List Value
  | y :: l, X :: Xs => blkList y X ++ cellsK l Xs
  | _, _ => []
theorem cellsK_length : ∀ (l : List BlkV) (Xs : List Value), Xs.length = l.length → (cellsK l Xs).length = l.length * 3
  | [], [], _ => rfl
  | y :: l, X :: Xs, h => by
    simp only [cellsK, List.length_append, cellsK_length l Xs (by simpa using h), blkList, List.length_cons, List.length_nil]
    omega
theorem blkList_at (y : BlkV) (X : Value) {j : Nat} (hj : j < 3) : (blkList y X)[j]? = some (blkCell y X j) := by
  rcases (show j = 0 ∨ j = 1 ∨ j = 2 by omega) with rfl | rfl | rfl <;> rfl
theorem cellsK_at : ∀ (l : List BlkV) (Xs : List Value) {i j : Nat}, Xs.length = l.length → i < l.length → j < 3 → (cellsK l Xs)[i * 3 + j]? = some (blkCell (l.getD i .zero) (Xs.getD i (.slice none 0 0)) j)
  | [], _, i, j, _, hi, _ => absurd hi (by simp)
  | y :: l, [], i, j, h, _, _ => absurd h (by simp)
  | y :: l, X :: Xs, 0, j, _, _, hj => by
    simp only [cellsK]
    rw [List.getElem?_append_left (by simp [blkList]; omega)]
    simpa using blkList_at y X hj
  | y :: l, X :: Xs, i + 1, j, h, hi, hj => by
    simp only [cellsK]
    rw [List.getElem?_append_right (by simp [blkList]; omega)]
    have e : (i + 1) * 3 + j - (blkList y X).length = i * 3 + j := by simp [blkList]; omega
    rw [e, cellsK_at l Xs (by simpa using h) (by simpa using hi) hj]
    rfl
theorem cellsK_append : ∀ (l : List BlkV) (Xs : List Value) (y : BlkV) (X : Value), Xs.length = l.length → cellsK (l ++ [y]) (Xs ++ [X]) = cellsK l Xs ++ blkList y X
  | [], [], y, X, _ => by simp [cellsK]
  | z :: l, Z :: Xs, y, X, h => by
    simp only [List.cons_append, cellsK, cellsK_append l Xs y X (by simpa using h), List.append_assoc]
/-- Blocks to be read. -/
def IsBlks (w : World) (B : Nat) (V : Value) (l : List BlkV) : Prop :=
  l.length ≤ maxLen ∧ ((l = [] ∧ ∃ a cap, V = .slice a 0 cap) ∨
    ∃ b off cap, V = .slice (some ⟨b, off, none⟩) l.length cap ∧ l.length ≤ cap ∧ b < B ∧ ∀ i, i < l.length → ∃ X, IsNums .i64 w B X (l.getD i .zero).nx ∧ ∀ j, j < 3 → w.cell? ⟨b, off + i * 3 + j, none⟩ = some (blkCell (l.getD i .zero) X j))
theorem IsBlks.len {w : World} {B : Nat} {V : Value} {l : List BlkV} (h : IsBlks w B V l) : ∃ a cap, V = .slice a l.length cap := by
  rcases h.2 with ⟨rfl, a, cap, h⟩ | ⟨b, off, cap, h, _⟩
  · exact ⟨a, cap, h⟩
  · exact ⟨_, cap, h⟩
theorem IsBlks.plain {w : World} {B : Nat} {V : Value} {l : List BlkV} (h : IsBlks w B V l) (hn : 0 < l.length) :
    ∃ b off cap, V = .slice (some ⟨b, off, none⟩) l.length cap ∧ l.length ≤ cap ∧ b < B ∧ ∀ i, i < l.length → ∃ X, IsNums .i64 w B X (l.getD i .zero).nx ∧ ∀ j, j < 3 → w.cell? ⟨b, off + i * 3 + j, none⟩ = some (blkCell (l.getD i .zero) X j) := by
  rcases h.2 with ⟨rfl, _⟩ | h
  · simp at hn
  · exact h
theorem IsBlks.below {w w' : World} {B B' : Nat} {V : Value} {l : List BlkV} (h : IsBlks w B V l) (hb : Below B' w w') (hB : B ≤ B') : IsBlks w' B V l := by
  refine ⟨h.1, ?_⟩
  rcases h.2 with h0 | ⟨b, off, cap, h1, h2, h3, h4⟩
  · exact .inl h0
  · refine .inr ⟨b, off, cap, h1, h2, h3, fun i hi => ?_⟩
    obtain ⟨X, hX, hc⟩ := h4 i hi
    exact ⟨X, hX.below hb hB, fun j hj => (hb.cell (p := ⟨b, off + i * 3 + j, none⟩) (Nat.lt_of_lt_of_le h3 hB)).trans (hc j hj)⟩
theorem IsBlks.more {w : World} {B B' : Nat} {V : Value} {l : List BlkV} (h : IsBlks w B V l) (hB : B ≤ B') : IsBlks w B' V l := by
  refine ⟨h.1, ?_⟩
  rcases h.2 with h0 | ⟨b, off, cap, h1, h2, h3, h4⟩
  · exact .inl h0
  · refine .inr ⟨b, off, cap, h1, h2, Nat.lt_of_lt_of_le h3 hB, fun i hi => ?_⟩
    obtain ⟨X, hX, hc⟩ := h4 i hi
    exact ⟨X, hX.more hB, hc⟩
section
variable {base : Nat} {W W' : World} {V : Value} {l : List BlkV} {Xs : List Value}
end
/-- The blocks of code. -/
def blkV (l : List InsV) (j : Nat) : BlkV := ⟨fromV l j, toV l j, behindV l j⟩
def blksV (l : List InsV) : List BlkV := (List.range (leadI l).length).map (blkV l)
theorem blksV_length (l : List InsV) : (blksV l).length = (leadI l).length := by simp [blksV]
theorem blksV_at {l : List InsV} {j : Nat} (h : j < (leadI l).length) : (blksV l).getD j .zero = blkV l j := by simp [blksV, List.getD, h]
theorem blks_take {l : List InsV} {j : Nat} (h : j < (leadI l).length) : (blksV l).take (j + 1) = (blksV l).take j ++ [blkV l j] := by
  have h' : j < (blksV l).length := by rw [blksV_length]; exact h
  rw [List.take_add_one, List.getElem?_eq_getElem h']
  simp [blksV]
end Go.Proofs.YtfdblmjgpoocpaaGreat

/- (Math10D) Blocks as the document makes them, one instruction behind the other. Plain mathematics. -/
namespace Go.Proofs.YtfdblmjgpoocpaaGreat
set_option linter.unusedVariables false
set_option linter.unusedSimpArgs false

def leadP (l : List InsV) (i : Nat) : List Int := ((List.range i).filter (leadB l)).map fun i : Nat => (i : Int)
theorem leadP_yes {l : List InsV} {i : Nat} (h : leadB l i = true) : leadP l (i + 1) = leadP l i ++ [(i : Int)] := by
  unfold leadP
  rw [List.range_succ, List.filter_append, List.map_append]
  simp [h]
theorem leadP_no {l : List InsV} {i : Nat} (h : leadB l i = false) : leadP l (i + 1) = leadP l i := by
  unfold leadP
  rw [List.range_succ, List.filter_append, List.map_append]
  simp [h]
theorem leadP_all (l : List InsV) : leadP l l.length = leadI l := rfl
theorem leadP_pos (l : List InsV) {i : Nat} (h : 0 < i) : 0 < (leadP l i).length := by
  induction i with
  | zero => omega
  | succ i ih =>
    rcases Nat.eq_zero_or_pos i with h0 | h0
    · subst h0
      rw [leadP_yes (lead_iff.2 (.inl rfl))]
      simp
    · cases hb : leadB l i with
      | true => rw [leadP_yes hb, List.length_append]; have := ih h0; omega
      | false => rw [leadP_no hb]; exact ih h0
theorem leadP_len (l : List InsV) (i : Nat) : (leadP l i).length ≤ i := by
  have : ((List.range i).filter (leadB l)).length ≤ (List.range i).length := List.length_filter_le _ _
  simpa [leadP] using this
def blkP (l : List InsV) (i j : Nat) : BlkV := ⟨(leadP l i).getD j 0, if j + 1 < (leadP l i).length then (leadP l i).getD (j + 1) 0 else (i : Int), []⟩
def blksP (l : List InsV) (i : Nat) : List BlkV := (List.range (leadP l i).length).map (blkP l i)
theorem blksP_length (l : List InsV) (i : Nat) : (blksP l i).length = (leadP l i).length := by simp [blksP]
theorem blksP_at {l : List InsV} {i j : Nat} (h : j < (leadP l i).length) : (blksP l i).getD j .zero = blkP l i j := by simp [blksP, List.getD, h]
theorem blksP_yes {l : List InsV} {i : Nat} (h : leadB l i = true) : blksP l (i + 1) = blksP l i ++ [⟨(i : Int), (i : Int) + 1, []⟩] := by
  have e := leadP_yes h
  have hlen : (leadP l (i + 1)).length = (leadP l i).length + 1 := by rw [e]; simp
  unfold blksP
  rw [hlen, List.range_succ, List.map_append]
  congr 1
  · refine List.map_congr_left fun j hj => ?_
    have hj : j < (leadP l i).length := by simpa using hj
    unfold blkP
    rw [hlen, e]
    have e1 : (leadP l i ++ [(i : Int)]).getD j 0 = (leadP l i).getD j 0 := by simp [List.getD, List.getElem?_append_left hj]
    rw [e1, if_pos (by omega)]
    by_cases h1 : j + 1 < (leadP l i).length
    · rw [if_pos h1]
      have e2 : (leadP l i ++ [(i : Int)]).getD (j + 1) 0 = (leadP l i).getD (j + 1) 0 := by simp [List.getD, List.getElem?_append_left h1]
      rw [e2]
    · rw [if_neg h1]
      have : j + 1 = (leadP l i).length := by omega
      have e2 : (leadP l i ++ [(i : Int)]).getD (j + 1) 0 = (i : Int) := by rw [this]; simp [List.getD]
      rw [e2]
  · simp only [List.map_cons, List.map_nil]
    unfold blkP
    rw [hlen, if_neg (by omega), e]
    have e2 : (leadP l i ++ [(i : Int)]).getD (leadP l i).length 0 = (i : Int) := by simp [List.getD]
    rw [e2]
    simp
theorem blksP_no {l : List InsV} {i m : Nat} (h : leadB l i = false) (hm : (leadP l i).length = m + 1) : blksP l (i + 1) = (blksP l i).set m ⟨((blksP l i).getD m .zero).fr, (i : Int) + 1, ((blksP l i).getD m .zero).nx⟩ := by
  have e := leadP_no h
  rw [blksP_at (by omega)]
  apply List.ext_getElem
  · simp [blksP_length, e]
  intro j h1 h2
  have hj : j < (leadP l i).length := by rw [blksP_length, e] at h1; exact h1
  rw [List.getElem_set]
  have g1 : (blksP l (i + 1))[j] = blkP l (i + 1) j := by simp [blksP]
  rw [g1]
  by_cases hjm : m = j
  · subst hjm
    rw [if_pos rfl]
    unfold blkP
    rw [e, hm, if_neg (by omega), if_neg (by omega)]
    simp
  · rw [if_neg hjm]
    have g2 : (blksP l i)[j]'(by rw [blksP_length]; exact hj) = blkP l i j := by simp [blksP]
    rw [g2]
    unfold blkP
    rw [e, if_pos (by omega), if_pos (by omega)]
/-- The blocks when what comes behind is known of those ahead of i, and as much as xs of i. -/
def blkQ (l : List InsV) (i : Nat) (xs : List Int) (j : Nat) : BlkV := ⟨fromV l j, toV l j, if j < i then behindV l j else if j = i then xs else []⟩
def blksQ (l : List InsV) (i : Nat) (xs : List Int) : List BlkV := (List.range (leadI l).length).map (blkQ l i xs)
theorem blksQ_length (l : List InsV) (i : Nat) (xs : List Int) : (blksQ l i xs).length = (leadI l).length := by simp [blksQ]
theorem blksQ_at {l : List InsV} {i j : Nat} {xs : List Int} (h : j < (leadI l).length) : (blksQ l i xs).getD j .zero = blkQ l i xs j := by simp [blksQ, List.getD, h]
theorem blksQ_fr (l : List InsV) (i : Nat) (xs : List Int) : (blksQ l i xs).map BlkV.fr = leadI l := by
  apply List.ext_getElem
  · simp [blksQ_length]
  intro j h1 h2
  simp [blksQ, blkQ, fromV, List.getD, List.getElem?_eq_getElem h2]
theorem blksQ_first {l : List InsV} (hl : 0 < l.length) : blksP l l.length = blksQ l 0 [] := by
  unfold blksP blksQ
  rw [leadP_all]
  refine List.map_congr_left fun j hj => ?_
  have hj : j < (leadI l).length := by simpa using hj
  unfold blkP blkQ
  rw [leadP_all]
  congr 1
  · by_cases h1 : j + 1 < (leadI l).length
    · rw [if_pos h1, to_from hl h1]
      rfl
    · rw [if_neg h1]
      have : j = (leadI l).length - 1 := by omega
      rw [this, to_last hl]
  · by_cases h0 : j = 0 <;> simp [h0]
theorem blksQ_set {l : List InsV} {i : Nat} {xs ys : List Int} (hi : i < (leadI l).length) : blksQ l i ys = (blksQ l i xs).set i ⟨((blksQ l i xs).getD i .zero).fr, ((blksQ l i xs).getD i .zero).to, ys⟩ := by
  rw [blksQ_at hi]
  apply List.ext_getElem
  · simp [blksQ_length]
  intro j h1 h2
  have hj : j < (leadI l).length := by rw [blksQ_length] at h1; exact h1
  rw [List.getElem_set]
  have g : ∀ zs, (blksQ l i zs)[j]'(by rw [blksQ_length]; exact hj) = blkQ l i zs j := fun zs => by simp [blksQ]
  rw [g, g]
  by_cases e : i = j
  · subst e
    rw [if_pos rfl]
    unfold blkQ
    simp
  · rw [if_neg e]
    unfold blkQ
    simp [show ¬ j = i from fun h => e h.symm]
theorem blksQ_next {l : List InsV} {i : Nat} : blksQ l i (behindV l i) = blksQ l (i + 1) [] := by
  unfold blksQ
  refine List.map_congr_left fun j hj => ?_
  unfold blkQ
  congr 1
  rcases Nat.lt_trichotomy j i with h | h | h
  · rw [if_pos h, if_pos (by omega)]
  · subst h
    rw [if_neg (by omega), if_pos rfl, if_pos (by omega)]
  · rw [if_neg (by omega), if_neg (by omega), if_neg (by omega)]
    split <;> rfl
theorem blksQ_last {l : List InsV} : blksQ l (leadI l).length [] = blksV l := by
  unfold blksQ blksV
  refine List.map_congr_left fun j hj => ?_
  have hj : j < (leadI l).length := by simpa using hj
  unfold blkQ blkV
  rw [if_pos hj]
theorem at_lead {l : List InsV} {x : Int} (h : x ∈ leadI l) : atV (leadI l) x = idxV l x := by
  obtain ⟨j, h1, hj, he⟩ := idx_from h
  rw [h1]
  have hb := atV_lb (leadI l) x
  by_cases h0 : atV (leadI l) x < 0
  · exact absurd he (atV_none h0 j hj)
  · obtain ⟨k, hk⟩ : ∃ k : Nat, atV (leadI l) x = k := ⟨_, (Int.toNat_of_nonneg (by omega)).symm⟩
    have hs := atV_some hk
    rw [hk]
    congr 1
    rcases Nat.lt_trichotomy k j with h3 | h3 | h3
    · have := from_rise (l := l) h3 hj
      unfold fromV at this he
      omega
    · exact h3
    · have := from_rise (l := l) h3 hs.1
      unfold fromV at this he
      omega
/-- Is an instruction a leader, as the document asks it? -/
def ledB (l : List InsV) (i : Nat) : Bool :=
  decide (i = 0) || decide (0 ≤ tgtV (l.getD (i - 1) .zero)) || !flsV (l.getD (i - 1) .zero) || (List.range l.length).any fun k => decide (tgtV (l.getD k .zero) = (placesV l 0).getD i 0)
theorem led_lead {l : List InsV} (h : Good10 l) {i : Nat} (hi : i < l.length) : ledB l i = leadB l i := by
  rw [Bool.eq_iff_iff, lead_iff]
  unfold ledB
  simp only [Bool.or_eq_true, decide_eq_true_eq, Bool.not_eq_true', List.any_eq_true, List.mem_range]
  constructor
  · rintro (((h0 | h1) | h1) | ⟨k, hk, h1⟩)
    · exact .inl h0
    · rcases Nat.eq_zero_or_pos i with h0 | h0
      · exact .inl h0
      · refine .inr ⟨i - 1, by omega, .inr ⟨.inl ?_, by omega⟩⟩
        have := h.neg (n := i - 1) (by omega)
        omega
    · rcases Nat.eq_zero_or_pos i with h0 | h0
      · exact .inl h0
      · exact .inr ⟨i - 1, by omega, .inr ⟨.inr h1, by omega⟩⟩
    · exact .inr ⟨k, hk, .inl ((h.tgt hk hi).1 h1)⟩
  · rintro (h0 | ⟨n, hn, h1 | ⟨h1 | h1, rfl⟩⟩)
    · exact .inl (.inl (.inl h0))
    · exact .inr ⟨n, hn, (h.tgt hn hi).2 h1⟩
    · have := h.neg (n := n) hn
      refine .inl (.inl (.inr ?_))
      rw [Nat.add_sub_cancel]
      omega
    · refine .inl (.inr ?_)
      rw [Nat.add_sub_cancel]
      exact h1
end Go.Proofs.YtfdblmjgpoocpaaGreat

/- (Ref10A) The document's own places, at and Check of layer 10. Contracts; no condition but that the instructions are few. -/
namespace Go.Proofs.YtfdblmjgpoocpaaGreat
open Go.RowKit Go.Shelf
set_option linter.unusedVariables false
set_option linter.unusedSimpArgs false

theorem at_first : ∀ {ps : List Int} {t : Int} {k : Nat}, k < ps.length → ps.getD k 0 = t → (∀ j, j < k → ps.getD j 0 ≠ t) → atV ps t = (k : Int)
  | [], _, _, h, _, _ => absurd h (by simp)
  | p :: ps, t, 0, _, h, _ => by
    simp at h
    simp [atV, h]
  | p :: ps, t, k + 1, hk, h, hn => by
    have h0 := hn 0 (by omega)
    simp at h0
    have ih := at_first (ps := ps) (t := t) (k := k) (by simpa using hk) (by simpa using h) (fun j hj => by simpa using hn (j + 1) (by omega))
    simp only [atV, if_neg h0, ih]
    rw [if_neg (by omega)]
    omega
theorem at_never {ps : List Int} {t : Int} (h : ∀ j, j < ps.length → ps.getD j 0 ≠ t) : atV ps t = -1 := by
  have hb := atV_lb ps t
  rcases Int.lt_or_le (atV ps t) 0 with h0 | h0
  · omega
  · obtain ⟨k, hk⟩ : ∃ k : Nat, atV ps t = k := ⟨_, (Int.toNat_of_nonneg h0).symm⟩
    have hs := atV_some hk
    exact absurd hs.2 (h k hs.1)
/-- What is read of an instruction. -/
def InsR (W : World) (b o : Nat) (op a b1 c n1 : Int) (X : Value) (args : List Int) : Prop :=
  IsNums .i64 W W.heap.size X args ∧ W.cell? ⟨b, o, none⟩ = some (.int .i64 op) ∧ W.cell? ⟨b, o + 1, none⟩ = some (.int .i64 a) ∧ W.cell? ⟨b, o + 2, none⟩ = some (.int .i64 b1) ∧
    W.cell? ⟨b, o + 3, none⟩ = some (.int .i64 c) ∧ W.cell? ⟨b, o + 4, none⟩ = some (.int .i64 n1) ∧ W.cell? ⟨b, o + 5, none⟩ = some X
/-- An instruction of a row, as it is read later on. -/
theorem code_cells {w : World} {A : Option Addr} {n cap k : Nat} {l : List InsV} (h : IsCode w w.heap.size (.slice A n cap) l) (hn : n = l.length) (hk : k < n) :
    ∃ b off op a b1 c n1 args YA Yc, A = some ⟨b, off, none⟩ ∧ l.getD k .zero = ⟨op, a, b1, c, n1, args⟩ ∧ InI n1 ∧ ∀ W, Below w.heap.size w W → InsR W b (off + k * 6) op a b1 c n1 (.slice YA args.length Yc) args := by
  have hkl : k < l.length := by omega
  obtain ⟨b, off, cap', hV, _, hbB, hcl⟩ := h.plain (by omega)
  obtain ⟨X, hX, hc⟩ := hcl k hkl
  have hin := (code_getD h hkl).n
  obtain ⟨⟨op, a, b1, c, n1, args⟩, hy⟩ : ∃ y, y = l.getD k .zero := ⟨_, rfl⟩
  rw [← hy] at hX hc hin
  obtain ⟨YA, Yc, hYe⟩ := hX.len
  subst hYe
  refine ⟨b, off, op, a, b1, c, n1, args, YA, Yc, ?_, hy.symm, hin, fun W hb => ?_⟩
  · injection hV
  · have hc' : ∀ j, j < 6 → W.cell? ⟨b, off + k * 6 + j, none⟩ = some (insCell ⟨op, a, b1, c, n1, args⟩ (.slice YA args.length Yc) j) := fun j hj => (hb.cell (p := ⟨b, off + k * 6 + j, none⟩) hbB).trans (hc j hj)
    exact ⟨(hX.below hb (Nat.le_refl _)).more hb.size, hc' 0 (by omega), hc' 1 (by omega), hc' 2 (by omega), hc' 3 (by omega), hc' 4 (by omega), hc' 5 (by omega)⟩
theorem places_take {l : List InsV} {k : Nat} (hk : k < l.length) : (placesV l 0).take (k + 1) = (placesV l 0).take k ++ [((allB (l.take k)).length : Int)] := by
  have hk' : k < (placesV l 0).length := by rw [placesV_length]; exact hk
  rw [List.take_add_one, List.getElem?_eq_getElem hk']
  have e := placesV_at l 0 hk
  simp only [List.getD, List.getElem?_eq_getElem hk', Option.getD_some, Nat.zero_add] at e
  rw [e]
  rfl
theorem take_len10 {l : List InsV} {k : Nat} (hk : k < l.length) : (allB (l.take (k + 1))).length = (allB (l.take k)).length + (l.getD k .zero).bytes.length := by
  rw [(all_at hk).2, List.length_append]
theorem take_le10 (l : List InsV) (k : Nat) : (allB (l.take k)).length ≤ (allB l).length := by
  have : allB l = allB (l.take k) ++ allB (l.drop k) := by
    unfold allB
    rw [← List.flatMap_append, List.take_append_drop]
  rw [this, List.length_append]
  omega
set_option maxRecDepth 100000 in
set_option maxHeartbeats 4000000 in
theorem rplaces_any (A : Option Addr) (n cap : Nat) (l : List InsV) (w : World) (hn : n = l.length) (h : IsCode w w.heap.size (.slice A n cap) l) (hj : joinE l = 0) :
    Calls Tryz.prog 68 #[.slice A n cap] w fun e w' => Below w.heap.size w w' ∧ ∃ P, e = .returned P ∧ OutN w.heap.size w' P (placesV l 0) := by
  have HC := Lib.hid h
  have HF := Lib.hid (first_all hj)
  have hn4 : n ≤ 4096 := by have := all_length l; have := (first_all hj).2; omega
  have hn4I : (n : Int) ≤ 4096 := by omega
  have HN := Lib.hid hn
  clear h hn hj
  go_enter Tryz.func68, Tryz.ntmps68
  go_wp2
  go_loopw [3, 4, 5] (fun out at' i wr => ∃ k : Nat, k ≤ n ∧ i = .int .i64 k ∧ at' = .int .i64 ((allB (l.take k)).length : Nat) ∧ Hid (OutN w.heap.size wr out ((placesV l 0).take k) ∧ Below w.heap.size w wr)) (fun _ _ i _ => n - (intOf i).toNat)
  case atStart => exact ⟨0, by omega, rfl, by simp [allB], ⟨Owns.nil _ _ _ _ _, Below.refl _ _⟩⟩
  case round =>
    obtain ⟨k, hk, rfl, rfl, HR⟩ := hrel
    obtain ⟨ho, hb⟩ := HR.out
    have HO := Lib.hid ho
    have HB := Lib.hid hb
    obtain ⟨oA, oc, hoe, _⟩ := out_len ho
    have hlen : ((placesV l 0).take k).length = k := by rw [List.length_take, placesV_length, ← HN.out]; omega
    rw [hlen] at hoe
    subst hoe
    have HLN := Lib.hid hlen
    have hap := take_le10 l k
    have hap2 : (allB (l.take k)).length ≤ 4096 := by have := HF.out.2; omega
    have HAP := Lib.hid hap2
    clear HR ho hlen hap
    by_cases hlt : k < n
    · have hkl : k < l.length := by rw [← HN.out]; exact hlt
      obtain ⟨b, off, op, a, b1, c, n1, args, YA, Yc, hA, hy, hin, hcc⟩ := code_cells HC.out HN.out hlt
      cases hA
      have HCC := Lib.hid hcc
      have HIN := Lib.hid hin
      have HPT := Lib.hid (places_take hkl)
      have hat := take_len10 hkl
      have hfa := first_at l hkl HF.out.1
      rw [hy] at hat hfa
      have hle : lenV ⟨op, a, b1, c, n1, args⟩ = (InsV.bytes ⟨op, a, b1, c, n1, args⟩).length := by unfold lenV; rw [if_pos hfa]
      have hap3 := take_le10 l (k + 1)
      have hap4 := HF.out.2
      have HQ1 := Lib.hid (show (allB (l.take (k + 1))).length = (allB (l.take k)).length + lenV ⟨op, a, b1, c, n1, args⟩ by rw [hle]; exact hat)
      have hlv : lenV ⟨op, a, b1, c, n1, args⟩ ≤ 4096 := by rw [hle]; omega
      have HRL := Lib.hid (fun W hX => rlength7_any op a b1 c n1 (.slice YA args.length Yc) args W hX HIN.out)
      generalize lenV ⟨op, a, b1, c, n1, args⟩ = q1 at *
      generalize (allB (l.take k)).length = q0 at *
      have k0 : (0 : Int) ≤ (k : Int) := by omega
      have k1 : (k : Int) < (n : Int) := by omega
      have p0 : (q0 : Int) ≤ 4096 := by omega
      have p1 : (q1 : Int) ≤ 4096 := by omega
      have hs : (q0 : Int) + (q1 : Int) = ((q0 + q1 : Nat) : Int) := by omega
      have HS := Lib.hid hs
      clear hcc hin hy hat hfa hle hap3 hap4 hap2 hlv hkl hs hb
      go_wp2_with (first
        | (at_builtin; (refine wpList_outN (W := wr) (z := (q0 : Int)) (base := w.heap.size) rfl (.tmp 12) (.tmp 14) rfl rfl rfl HO.out HB.out.size (by rw [HLN.out]; omega) ?_; intro V6 w6 ho hb6 _; have HO6 := Lib.hid ho; have HB6 := Lib.hid (HB.out.trans hb6); obtain ⟨hX6, c0, c1, c2, c3, c4, c5⟩ := HCC.out w6 HB6.out; have HX6 := Lib.hid hX6; obtain ⟨a6, cp6, h6, _⟩ := out_len ho; generalize hq6 : (_ ++ [(q0 : Int)]).length = q6 at h6; subst h6; clear ho hb6 hX6 hq6))
        | (go_at_call 92; (with_reducible refine (HRL.out w6 HX6.out).mono ?_); rintro e w7 ⟨rfl, hb⟩; have HB7 := Lib.hid (HB6.out.trans (hb.mono HB6.out.size)); have HO7 := Lib.hid (HO6.out.below hb (Nat.le_refl _)); clear hb))
      go_roundw
      case rel => exact ⟨k + 1, by omega, by go_num, by rw [HQ1.out]; exact congrArg (Value.int .i64) HS.out, ⟨by rw [HPT.out]; exact HO7.out, HB7.out⟩⟩
      case measure => simp [intOf]; omega
    · obtain rfl : k = n := by omega
      have hte : (placesV l 0).take k = placesV l 0 := by have := placesV_length l 0; rw [HN.out, ← this]; exact List.take_length
      have HTE := Lib.hid hte
      clear hte
      go_wp2
      go_ret
      refine ⟨HB.out, _, rfl, ?_⟩
      rw [← HTE.out]
      exact HO.out
set_option maxHeartbeats 4000000 in
theorem rat_any (X : Value) (ps : List Int) (z : Int) (w : World) (B : Nat) (h : IsNums .i64 w B X ps) : Calls Tryz.prog 70 #[X, .int .i64 z] w fun e w' => e = .returned (.int .i64 (atV ps z)) ∧ w = w' := by
  obtain ⟨A, cap, rfl⟩ := h.len
  have hl := h.1
  unfold maxLen at hl
  obtain ⟨n, hn⟩ : ∃ n, n = ps.length := ⟨_, rfl⟩
  have HN := Lib.hid hn
  have HX := Lib.hid h
  rw [← hn] at HX hl ⊢
  clear h hn
  go_enter Tryz.func70, Tryz.ntmps70
  go_wp2
  go_loop [5] (fun i => ∃ k : Nat, k ≤ n ∧ i = .int .i64 k ∧ Hid (∀ j, j < k → ps.getD j 0 ≠ z)) (fun i => n - (intOf i).toNat)
  case atStart => exact ⟨0, by omega, rfl, fun j hj => by omega⟩
  case round =>
    obtain ⟨k, hk, rfl, HA⟩ := hrel
    by_cases hlt : k < n
    · have hkl : k < ps.length := by rw [← HN.out]; exact hlt
      obtain ⟨b, off, cap', hV, _, _, hc⟩ := HX.out.plain (by omega)
      rw [← HN.out] at hV
      cases hV
      have d1 := hc k hkl
      have k0 : (0 : Int) ≤ (k : Int) := by omega
      have k1 : (k : Int) < (n : Int) := by omega
      clear hc
      by_cases he : ps.getD k 0 = z
      · have HE : Hid (atV ps z = (k : Int)) := Lib.hid (at_first hkl he HA.out)
        rw [he] at d1
        clear he
        go_wp2
        go_ret
        exact ⟨by rw [HE.out]; rfl, rfl⟩
      · have HE := Lib.hid he
        obtain ⟨x, hx⟩ : ∃ x, x = ps.getD k 0 := ⟨_, rfl⟩
        rw [← hx] at d1 he
        have e1 : (x == z) = false := by simpa using he
        clear he hx
        go_wp2
        go_round
        case rel => exact ⟨k + 1, by omega, by go_num, fun j hj => by
          by_cases e : j = k
          · subst e; exact HE.out
          · exact HA.out j (by omega)⟩
        case measure => simp [intOf]; omega
    · obtain rfl : k = n := by omega
      have HE : Hid (atV ps z = -1) := Lib.hid (at_never (fun j hj => HA.out j (by rw [HN.out]; exact hj)))
      go_wp2
      go_ret
      exact ⟨by rw [HE.out]; rfl, rfl⟩
end Go.Proofs.YtfdblmjgpoocpaaGreat

/- (Ref10B) The document's own Check and next of layer 10. Contracts; no condition but that the instructions are few. -/
namespace Go.Proofs.YtfdblmjgpoocpaaGreat
open Go.RowKit Go.Shelf
set_option linter.unusedVariables false
set_option linter.unusedSimpArgs false

theorem any_take {f : InsV → Bool} {l : List InsV} {k : Nat} (hk : k < l.length) (h0 : (l.take k).any f = false) (h1 : f (l.getD k .zero) = false) : (l.take (k + 1)).any f = false := by
  rw [code_take l hk, List.any_append, h0]
  simp only [List.any_cons, List.any_nil, h1, Bool.or_false]
theorem any_hit {f : InsV → Bool} {l : List InsV} {k : Nat} (hk : k < l.length) (h1 : f (l.getD k .zero) = true) : l.any f = true := by
  rw [List.any_eq_true]
  exact ⟨_, by simp [List.getD, List.getElem?_eq_getElem hk], h1⟩
set_option maxRecDepth 100000 in
set_option maxHeartbeats 8000000 in
theorem rCheck_any (A : Option Addr) (n cap : Nat) (l : List InsV) (w : World) (hn : n = l.length) (h : IsCode w w.heap.size (.slice A n cap) l) (hs : n ≤ 1000) :
    Calls Tryz.prog 46 #[.slice A n cap] w (Makes w (.int .i64 (check10 l))) := by
  have HC := Lib.hid h
  have HN := Lib.hid hn
  have HJ := Lib.hid (rjoin7_any (.slice A n cap) l w h (by omega))
  have hsI : (n : Int) ≤ 1000 := by omega
  by_cases hj : joinE l = 0
  · have HJ2 := Lib.hid (HJ.out.mono fun e w' hh => (hh.resolve_left (fun h => h.1 hj)).2)
    by_cases hn0 : n = 0
    · have HE : Hid (check10 l = 10) := Lib.hid (by unfold check10; rw [if_neg (not_not_intro hj), if_pos (by omega)])
      subst hn0
      clear h hn hj
      go_enter Tryz.func46, Tryz.ntmps46
      go_wp2_with (go_at_call 66; (with_reducible refine HJ2.out.mono ?_); rintro e w1 ⟨v1, rfl, ho⟩; have HB1 := Lib.hid ho.bel; clear ho)
      go_ret
      rw [HE.out]
      exact ⟨rfl, HB1.out⟩
    · have HPC := Lib.hid (fun W hc => rplaces_any A n cap l W HN.out hc hj)
      have HE13 : Hid (l.any (strayB (placesV l 0)) = true → check10 l = 13) := Lib.hid (fun hy => by unfold check10; rw [if_neg (not_not_intro hj), if_neg (by omega), if_pos hy])
      have HE10 : Hid (l.any (strayB (placesV l 0)) = false → flsV (lastV l) = true → check10 l = 10) := Lib.hid (fun hy hf => by unfold check10; rw [if_neg (not_not_intro hj), if_neg (by omega), if_neg (by rw [hy]; simp), if_pos hf])
      have HE0 : Hid (l.any (strayB (placesV l 0)) = false → flsV (lastV l) = false → check10 l = 0) := Lib.hid (fun hy hf => by unfold check10; rw [if_neg (not_not_intro hj), if_neg (by omega), if_neg (by rw [hy]; simp), if_neg (by rw [hf]; simp)])
      have hn1 : 0 < n := by omega
      have hnI : (0 : Int) < (n : Int) := by omega
      have hnz : ((n : Int) == 0) = false := by simp; omega
      have hnz2 : (n == 0) = false := by simpa using hn0
      clear h hn hj hn0
      go_enter Tryz.func46, Tryz.ntmps46
      go_wp2_with (first
        | (go_at_call 66; (with_reducible refine HJ2.out.mono ?_); rintro e w1 ⟨v1, rfl, ho⟩; have HB1 := Lib.hid ho.bel; have HC1 := Lib.hid ((HC.out.below ho.bel (Nat.le_refl _) (Nat.le_refl _)).more ho.bel.size); clear ho)
        | (go_at_call 68; (with_reducible refine (HPC.out w1 HC1.out).mono ?_); rintro e w2 ⟨hb, P, rfl, ho⟩; have HB2 := Lib.hid (HB1.out.trans (hb.mono HB1.out.size)); have HP2 := Lib.hid (IsNums.of_owns ho (Nat.le_refl _)); obtain ⟨pA, pc, hpe⟩ := owns_len ho; subst hpe; clear hb ho))
      go_loopw [6] (fun i wr => ∃ k : Nat, k ≤ n ∧ i = .int .i64 k ∧ Hid (Below w2.heap.size w2 wr ∧ (l.take k).any (strayB (placesV l 0)) = false)) (fun i _ => n - (intOf i).toNat)
      case atStart => exact ⟨0, by omega, rfl, Below.refl _ _, rfl⟩
      case round =>
        obtain ⟨k, hk, rfl, HR⟩ := hrel
        obtain ⟨hb, hy⟩ := HR.out
        have HB := Lib.hid hb
        have HY := Lib.hid hy
        have HBW := Lib.hid (HB2.out.trans (hb.mono HB2.out.size))
        clear HR hb hy
        by_cases hlt : k < n
        · have hkl : k < l.length := by rw [← HN.out]; exact hlt
          obtain ⟨b, off, op, a, b1, c, n1, args, YA, Yc, hA, hy, hin, hcc⟩ := code_cells HC.out HN.out hlt
          cases hA
          obtain ⟨hX, c0, c1, c2, c3, c4, c5⟩ := hcc wr HBW.out
          have HTG := Lib.hid (rtarget_any op a b1 c n1 (.slice YA args.length Yc) args wr)
          rw [← hy] at HTG
          have HST : Hid (strayB (placesV l 0) (l.getD k .zero) = decide (0 ≤ tgtV (l.getD k .zero) ∧ atV (placesV l 0) (tgtV (l.getD k .zero)) < 0)) := Lib.hid rfl
          have HKL := Lib.hid hkl
          have k0 : (0 : Int) ≤ (k : Int) := by omega
          have k1 : (k : Int) < (n : Int) := by omega
          generalize tgtV (l.getD k .zero) = t at *
          clear hcc hX hin hy hkl
          by_cases ht : 0 ≤ t
          · have HAT := Lib.hid (fun W hb' => rat_any (.slice pA (placesV l 0).length pc) (placesV l 0) t W _ (HP2.out.below hb' (Nat.le_refl _)))
            have htI : ¬ t < 0 := by omega
            by_cases ha : atV (placesV l 0) t < 0
            · have HE := Lib.hid (HE13.out (any_hit HKL.out (by rw [HST.out]; exact decide_eq_true ⟨ht, ha⟩)))
              generalize atV (placesV l 0) t = av at *
              go_wp2_with (first
                | (go_at_call 69; (with_reducible refine HTG.out.mono ?_); rintro e w5 ⟨rfl, hb⟩; have HB5 := Lib.hid (HB.out.trans (hb.mono HB.out.size)); have HW5 := Lib.hid (HBW.out.trans (hb.mono HBW.out.size)); clear hb)
                | (go_at_call 70; (with_reducible refine (HAT.out w5 HB5.out).mono ?_); rintro e w6 ⟨rfl, hw⟩; subst hw))
              go_ret
              rw [HE.out]
              exact ⟨rfl, HW5.out⟩
            · have HNX := Lib.hid (any_take HKL.out HY.out (by rw [HST.out]; exact decide_eq_false (fun hc => ha hc.2)))
              generalize atV (placesV l 0) t = av at *
              go_wp2_with (first
                | (go_at_call 69; (with_reducible refine HTG.out.mono ?_); rintro e w5 ⟨rfl, hb⟩; have HB5 := Lib.hid (HB.out.trans (hb.mono HB.out.size)); have HW5 := Lib.hid (HBW.out.trans (hb.mono HBW.out.size)); clear hb)
                | (go_at_call 70; (with_reducible refine (HAT.out w5 HB5.out).mono ?_); rintro e w6 ⟨rfl, hw⟩; subst hw))
              go_roundw
              case rel => exact ⟨k + 1, by omega, by go_num, HB5.out, HNX.out⟩
              case measure => simp [intOf]; omega
          · have HNX := Lib.hid (any_take HKL.out HY.out (by rw [HST.out]; exact decide_eq_false (fun hc => ht hc.1)))
            go_wp2_with (go_at_call 69; (with_reducible refine HTG.out.mono ?_); rintro e w5 ⟨rfl, hb⟩; have HB5 := Lib.hid (HB.out.trans (hb.mono HB.out.size)); clear hb)
            go_roundw
            case rel => exact ⟨k + 1, by omega, by go_num, HB5.out, HNX.out⟩
            case measure => simp [intOf]; omega
        · obtain rfl : n = k := by omega
          have hall : l.any (strayB (placesV l 0)) = false := by have := HY.out; rw [HN.out, List.take_length] at this; exact this
          obtain ⟨nn, hnn⟩ : ∃ nn, n = nn + 1 := ⟨n - 1, by omega⟩
          obtain ⟨b, off, op, a, b1, c, n1, args, YA, Yc, hA, hy, hin, hcc⟩ := code_cells HC.out HN.out (show nn < n by omega)
          cases hA
          obtain ⟨hX, c0, c1, c2, c3, c4, c5⟩ := hcc wr HBW.out
          have hlv : lastV l = l.getD nn .zero := by unfold lastV; rw [← HN.out, hnn, Nat.add_sub_cancel]
          have HFL := Lib.hid (rfalls_any op a b1 c n1 (.slice YA args.length Yc) wr)
          have hfe : flsV (lastV l) = fallsV op := by rw [hlv, hy]; rfl
          have hw1 : wrap64 ((n : Int) - 1) = (nn : Int) := by unfold wrap64; omega
          have hw2 : (n : Int) - 1 = (nn : Int) := by omega
          have m0 : (0 : Int) ≤ (nn : Int) := by omega
          have m1 : (nn : Int) < (n : Int) := by omega
          cases hf : fallsV op with
          | true =>
            rw [hf] at HFL hfe
            have HE := Lib.hid (HE10.out hall hfe)
            clear hcc hX hin hy hlv hfe hf hall hnn
            go_wp2_with (go_at_call 71; (with_reducible refine HFL.out.mono ?_); rintro e w5 ⟨rfl, hb⟩; have HW5 := Lib.hid (HBW.out.trans (hb.mono HBW.out.size)); clear hb)
            go_ret
            rw [HE.out]
            exact ⟨rfl, HW5.out⟩
          | false =>
            rw [hf] at HFL hfe
            have HE := Lib.hid (HE0.out hall hfe)
            clear hcc hX hin hy hlv hfe hf hall hnn
            go_wp2_with (go_at_call 71; (with_reducible refine HFL.out.mono ?_); rintro e w5 ⟨rfl, hb⟩; have HW5 := Lib.hid (HBW.out.trans (hb.mono HBW.out.size)); clear hb)
            go_ret
            rw [HE.out]
            exact ⟨rfl, HW5.out⟩
  · have HE : Hid (check10 l = joinE l) := Lib.hid (by unfold check10; rw [if_pos hj])
    have HJ2 := Lib.hid (HJ.out.mono fun e w' hh => (hh.resolve_right (fun h => hj h.1)).2)
    have hne : (joinE l != 0) = true := by simpa using hj
    generalize joinE l = z at *
    clear h hn hj HJ
    go_enter Tryz.func46, Tryz.ntmps46
    go_wp2_with (go_at_call 66; (with_reducible refine HJ2.out.mono ?_); rintro e w1 ⟨rfl, hb⟩; have HB1 := Lib.hid hb; clear hb)
    go_ret
    rw [HE.out]
    exact ⟨rfl, HB1.out⟩
/-- An append of numbers to numbers, at the operation. -/
theorem wpList_outT {W : World} {ops : Array Oper} {rest : List Oper} {o : Oper} {a : Act} {Q : Exit → Act → World → Prop} (hgd : o.guard = none) (s x : Operand)
    (ho : o.op = .call { callee := .builtin .append, args := #[s, x], argTypes := #[35, 35] }) {V X : Value} {xs ys : List Int} {base b2 : Nat} (hs : a.eval s = V) (hx : a.eval x = X) (h : OutN base W V xs) (hX : OutN b2 W X ys)
    (hb : base ≤ W.heap.size) (hl : xs.length + ys.length ≤ 1000000)
    (hK : ∀ V' W', OutN base W' V' (xs ++ ys) → But (OwnB V) W W' → wpList Tryz.prog ops Q rest (a.put o.dst V') W') :
    wpList Tryz.prog ops Q (o :: rest) a W :=
  wpList_plain hgd fun _ hk => by
    obtain ⟨V', W', hr, ho', hb'⟩ := run_append_two (ty := o.type) h hX hb hl
    unfold Oper.wp execOp
    simp only [ho, resolve, invoke, builtin, Sem.run_bind, Sem.run_pure, Result.andThen_ok, List.map_toArray, List.map_cons, List.map_nil, hs, hx, hr]
    exact hk _ _ (hK V' W' ho' hb')
theorem one_new (w : World) (z : Int) : OutN w.heap.size (w.alloc (.cells #[.int .i64 z] 3)) (.slice (some ⟨w.heap.size, 0, none⟩) 1 1) [z] :=
  OutN.of_block (cap := 1) (ys := [z]) (Nat.le_refl _) (heap_alloc_new w _) (by simp) (by simp [maxLen]) rfl rfl (fun u hu => by simp at hu; subst hu; exact ⟨_, rfl⟩)
def NextL (w : World) (l : List InsV) (i : Nat) (e : Ending) (w' : World) : Prop := Below w.heap.size w w' ∧ ∃ X, e = .returned X ∧ OutN w.heap.size w' X (nextV l i)
set_option maxRecDepth 100000 in
set_option maxHeartbeats 8000000 in
theorem rnext10_any (A : Option Addr) (n cap : Nat) (P : Value) (l : List InsV) (i : Nat) (w : World) (hn : n = l.length) (h : IsCode w w.heap.size (.slice A n cap) l) (hP : IsNums .i64 w w.heap.size P (placesV l 0)) (hg : Good10 l) (hi : i < n) (hs : n ≤ 4096) :
    Calls Tryz.prog 116 #[.slice A n cap, P, .int .i64 i] w (NextL w l i) := by
  have HC := Lib.hid h
  obtain ⟨b, off, op, a, b1, c, n1, args, YA, Yc, hA, hy, hin, hcc⟩ := code_cells h hn hi
  cases hA
  have HCC := Lib.hid hcc
  obtain ⟨hX, c0, c1, c2, c3, c4, c5⟩ := hcc w (Below.refl _ _)
  have HP := Lib.hid hP
  have HFL := Lib.hid (fun W => rfalls_any op a b1 c n1 (.slice YA args.length Yc) W)
  have HTG := Lib.hid (fun W => rtarget_any op a b1 c n1 (.slice YA args.length Yc) args W)
  rw [← hy] at HTG
  have hfe : fallsV op = flsV (l.getD i .zero) := by rw [hy]; rfl
  rw [hfe] at HFL
  have HNX : Hid (nextV l i = nxV (flsV (l.getD i .zero)) (goalV (placesV l 0) (l.getD i .zero)) i) := Lib.hid rfl
  have HGV : Hid (goalV (placesV l 0) (l.getD i .zero) = if 0 ≤ tgtV (l.getD i .zero) then atV (placesV l 0) (tgtV (l.getD i .zero)) else -1) := Lib.hid rfl
  have HGG : Hid (0 ≤ tgtV (l.getD i .zero) → 0 ≤ goalV (placesV l 0) (l.getD i .zero)) := Lib.hid (hg.goal i (by omega))
  have HLT := Lib.hid (goal_lt (l := l) (n := i))
  have HAT := Lib.hid (fun W hb' => rat_any P (placesV l 0) (tgtV (l.getD i .zero)) W _ (hP.below hb' (Nat.le_refl _)))
  have i0 : (0 : Int) ≤ (i : Int) := by omega
  have i1 : (i : Int) < (n : Int) := by omega
  have i2 : (n : Int) ≤ 4096 := by omega
  obtain ⟨PA, pc, hpe⟩ := hP.len
  have hnl : (placesV l 0).length = n := by rw [placesV_length, hn]
  rw [hnl] at hpe
  subst hpe
  have HLN := Lib.hid hn
  have HBR := Lib.hid (Below.refl w.heap.size w)
  clear hcc hX hin hy hfe hg hP h hn hnl
  unfold NextL
  rw [HNX.out]
  generalize flsV (l.getD i .zero) = fl at *
  generalize tgtV (l.getD i .zero) = t at *
  rw [← HLN.out] at HLT
  generalize goalV (placesV l 0) (l.getD i .zero) = gv at *
  generalize atV (placesV l 0) t = av at *
  by_cases ht : 0 ≤ t
  · have hge := HGG.out ht
    have hgv : gv = av := by have := HGV.out; rw [if_pos ht] at this; exact this
    subst hgv
    obtain ⟨q, rfl⟩ : ∃ q : Nat, gv = q := ⟨gv.toNat, by omega⟩
    have q1 : (q : Int) < (n : Int) := HLT.out
    have htI : ¬ t < 0 := by omega
    clear HNX HGV HGG HLT hge ht
    cases fl with
    | true =>
      by_cases hA : (i : Int) + 1 < (q : Int)
      · have HE : Hid (nxV true (q : Int) i = [(i : Int) + 1] ++ [(q : Int)]) := Lib.hid (by unfold nxV; rw [if_pos rfl, if_neg (by omega), if_pos hA]; rfl)
        go_enter Tryz.func116, Tryz.ntmps116
        go_wp2_with (first
          | (go_at_call 71; (with_reducible refine (HFL.out w).mono ?_); rintro e w5 ⟨rfl, hb⟩; have HB5 := Lib.hid hb; clear hb)
          | (at_builtin; (refine wpList_outN (W := w5) (z := (i : Int) + 1) (base := w.heap.size) (xs := []) rfl (.tmp 15) (.tmp 18) rfl rfl rfl (Owns.nil _ _ _ _ _) HB5.out.size (by simp) ?_; intro V8 w8 ho hb8 _; have ho2 : OutN w.heap.size w8 V8 [(i : Int) + 1] := ho; obtain ⟨vb, vo, vc, hV, -, hvB, hvc⟩ := (IsNums.of_owns ho2 (Nat.le_refl _)).plain (by simp); have hV2 : V8 = .slice (some ⟨vb, vo, none⟩) 1 vc := hV; subst hV2; have HO8 := Lib.hid ho2; have HB8 := Lib.hid (HB5.out.trans hb8); have hz8 : w8.cell? ⟨vb, vo, none⟩ = some (.int .i64 ((i : Int) + 1)) := hvc 0 (by simp); have HZ8 := Lib.hid hz8; have HVB := Lib.hid hvB; obtain ⟨hX5, d0, d1, d2, d3, d4, d5⟩ := HCC.out w8 HB8.out; clear ho ho2 hb8 hX5 hvB hvc hz8 hV))
          | (go_at_call 69; (with_reducible refine (HTG.out w8).mono ?_); rintro e w6 ⟨rfl, hb⟩; have HB6 := Lib.hid (HB8.out.trans (hb.mono HB8.out.size)); have HO6 := Lib.hid (HO8.out.below hb (Nat.le_refl _)); have z0 := (hb.cell (p := ⟨vb, vo, none⟩) HVB.out).trans HZ8.out; clear hb)
          | (go_at_call 70; (with_reducible refine (HAT.out w6 HB6.out).mono ?_); rintro e w7 ⟨rfl, hw⟩; subst hw)
          | (at_builtin; (refine wpList_outN (W := w6) (z := (q : Int)) (base := w.heap.size) (xs := [(i : Int) + 1]) rfl (.tmp 41) (.tmp 43) rfl rfl rfl HO6.out HB6.out.size (by simp) ?_; intro V9 w9 ho hb9 _; have HO9 := Lib.hid ho; have HB9 := Lib.hid (HB6.out.trans hb9); clear ho hb9)))
        go_ret
        exact ⟨HB9.out, _, rfl, by rw [HE.out]; exact HO9.out⟩
      · by_cases hB : (q : Int) = (i : Int) + 1
        · have HE : Hid (nxV true (q : Int) i = [(i : Int) + 1]) := Lib.hid (by unfold nxV; rw [if_pos rfl, if_neg (by omega), if_neg hA, if_pos hB])
          have e1 : ((i : Int) + 1 == (q : Int)) = true := by simp; omega
          clear hB
          go_enter Tryz.func116, Tryz.ntmps116
          go_wp2_with (first
            | (go_at_call 71; (with_reducible refine (HFL.out w).mono ?_); rintro e w5 ⟨rfl, hb⟩; have HB5 := Lib.hid hb; clear hb)
            | (at_builtin; (refine wpList_outN (W := w5) (z := (i : Int) + 1) (base := w.heap.size) (xs := []) rfl (.tmp 15) (.tmp 18) rfl rfl rfl (Owns.nil _ _ _ _ _) HB5.out.size (by simp) ?_; intro V8 w8 ho hb8 _; have ho2 : OutN w.heap.size w8 V8 [(i : Int) + 1] := ho; obtain ⟨vb, vo, vc, hV, -, hvB, hvc⟩ := (IsNums.of_owns ho2 (Nat.le_refl _)).plain (by simp); have hV2 : V8 = .slice (some ⟨vb, vo, none⟩) 1 vc := hV; subst hV2; have HO8 := Lib.hid ho2; have HB8 := Lib.hid (HB5.out.trans hb8); have hz8 : w8.cell? ⟨vb, vo, none⟩ = some (.int .i64 ((i : Int) + 1)) := hvc 0 (by simp); have HZ8 := Lib.hid hz8; have HVB := Lib.hid hvB; obtain ⟨hX5, d0, d1, d2, d3, d4, d5⟩ := HCC.out w8 HB8.out; clear ho ho2 hb8 hX5 hvB hvc hz8 hV))
            | (go_at_call 69; (with_reducible refine (HTG.out w8).mono ?_); rintro e w6 ⟨rfl, hb⟩; have HB6 := Lib.hid (HB8.out.trans (hb.mono HB8.out.size)); have HO6 := Lib.hid (HO8.out.below hb (Nat.le_refl _)); have z0 := (hb.cell (p := ⟨vb, vo, none⟩) HVB.out).trans HZ8.out; clear hb)
            | (go_at_call 70; (with_reducible refine (HAT.out w6 HB6.out).mono ?_); rintro e w7 ⟨rfl, hw⟩; subst hw))
          go_ret
          exact ⟨HB6.out, _, rfl, by rw [HE.out]; exact HO6.out⟩
        · have HE : Hid (nxV true (q : Int) i = [(q : Int)] ++ [(i : Int) + 1]) := Lib.hid (by unfold nxV; rw [if_pos rfl, if_neg (by omega), if_neg hA, if_neg hB]; rfl)
          have e1 : ((i : Int) + 1 == (q : Int)) = false := by simp; omega
          clear hB
          go_enter Tryz.func116, Tryz.ntmps116
          go_wp2_with (first
            | (go_at_call 71; (with_reducible refine (HFL.out w).mono ?_); rintro e w5 ⟨rfl, hb⟩; have HB5 := Lib.hid hb; clear hb)
            | (at_builtin; (refine wpList_outN (W := w5) (z := (i : Int) + 1) (base := w.heap.size) (xs := []) rfl (.tmp 15) (.tmp 18) rfl rfl rfl (Owns.nil _ _ _ _ _) HB5.out.size (by simp) ?_; intro V8 w8 ho hb8 _; have ho2 : OutN w.heap.size w8 V8 [(i : Int) + 1] := ho; obtain ⟨vb, vo, vc, hV, -, hvB, hvc⟩ := (IsNums.of_owns ho2 (Nat.le_refl _)).plain (by simp); have hV2 : V8 = .slice (some ⟨vb, vo, none⟩) 1 vc := hV; subst hV2; have HO8 := Lib.hid ho2; have HB8 := Lib.hid (HB5.out.trans hb8); have hz8 : w8.cell? ⟨vb, vo, none⟩ = some (.int .i64 ((i : Int) + 1)) := hvc 0 (by simp); have HZ8 := Lib.hid hz8; have HVB := Lib.hid hvB; obtain ⟨hX5, d0, d1, d2, d3, d4, d5⟩ := HCC.out w8 HB8.out; clear ho ho2 hb8 hX5 hvB hvc hz8 hV))
            | (go_at_call 69; (with_reducible refine (HTG.out w8).mono ?_); rintro e w6 ⟨rfl, hb⟩; have HB6 := Lib.hid (HB8.out.trans (hb.mono HB8.out.size)); have HO6 := Lib.hid (HO8.out.below hb (Nat.le_refl _)); have z0 := (hb.cell (p := ⟨vb, vo, none⟩) HVB.out).trans HZ8.out; clear hb)
            | (go_at_call 70; (with_reducible refine (HAT.out w6 HB6.out).mono ?_); rintro e w7 ⟨rfl, hw⟩; subst hw)
            | (at_builtin; (refine wpList_outT (W := w6.alloc (.cells #[.int .i64 (q : Int)] 3)) (xs := [(q : Int)]) (ys := [(i : Int) + 1]) (base := w.heap.size) (b2 := w.heap.size) rfl (.tmp 52) (.tmp 53) rfl rfl rfl ((one_new w6 (q : Int)).base HB6.out.size) (HO6.out.alloc _) (by have := HB6.out.size; simp; omega) (by simp) ?_; intro V9 w9 ho hk9; have HO9 := Lib.hid ho; have HB9 := Lib.hid (own_below (HB6.out.alloc HB6.out.size _) ((one_new w6 (q : Int)).base HB6.out.size) hk9 (Nat.le_refl _)); clear ho hk9)))
          go_ret
          exact ⟨HB9.out, _, rfl, by rw [HE.out]; exact HO9.out⟩
    | false =>
      have HE : Hid (nxV false (q : Int) i = [] ++ [(q : Int)]) := Lib.hid (by unfold nxV; rw [if_neg (by simp), if_neg (by omega)]; rfl)
      go_enter Tryz.func116, Tryz.ntmps116
      go_wp2_with (first
        | (go_at_call 71; (with_reducible refine (HFL.out w).mono ?_); rintro e w5 ⟨rfl, hb⟩; have HB5 := Lib.hid hb; obtain ⟨hX5, d0, d1, d2, d3, d4, d5⟩ := HCC.out w5 hb; clear hb hX5)
        | (go_at_call 69; (with_reducible refine (HTG.out w5).mono ?_); rintro e w6 ⟨rfl, hb⟩; have HB6 := Lib.hid (HB5.out.trans (hb.mono HB5.out.size)); clear hb)
        | (go_at_call 70; (with_reducible refine (HAT.out w6 HB6.out).mono ?_); rintro e w7 ⟨rfl, hw⟩; subst hw)
        | (at_builtin; (refine wpList_outN (W := w6) (z := (q : Int)) (base := w.heap.size) (xs := []) rfl (.tmp 41) (.tmp 43) rfl rfl rfl (Owns.nil _ _ _ _ _) HB6.out.size (by simp) ?_; intro V8 w8 ho hb8 _; have HO8 := Lib.hid ho; have HB8 := Lib.hid (HB6.out.trans hb8); clear ho hb8)))
      go_ret
      exact ⟨HB8.out, _, rfl, by rw [HE.out]; exact HO8.out⟩
  · have hgv : gv = -1 := by have := HGV.out; rw [if_neg ht] at this; exact this
    subst hgv
    have htI : t < 0 := by omega
    clear HNX HGV HGG HLT ht
    cases fl with
    | true =>
      have HE : Hid (nxV true (-1) i = [] ++ [(i : Int) + 1]) := Lib.hid rfl
      go_enter Tryz.func116, Tryz.ntmps116
      go_wp2_with (first
        | (go_at_call 71; (with_reducible refine (HFL.out w).mono ?_); rintro e w5 ⟨rfl, hb⟩; have HB5 := Lib.hid hb; clear hb)
        | (at_builtin; (refine wpList_outN (W := w5) (z := (i : Int) + 1) (base := w.heap.size) (xs := []) rfl (.tmp 15) (.tmp 18) rfl rfl rfl (Owns.nil _ _ _ _ _) HB5.out.size (by simp) ?_; intro V8 w8 ho hb8 _; have HO8 := Lib.hid ho; have HB8 := Lib.hid (HB5.out.trans hb8); obtain ⟨hX5, d0, d1, d2, d3, d4, d5⟩ := HCC.out w8 HB8.out; clear ho hb8 hX5))
        | (go_at_call 69; (with_reducible refine (HTG.out w8).mono ?_); rintro e w6 ⟨rfl, hb⟩; have HB6 := Lib.hid (HB8.out.trans (hb.mono HB8.out.size)); have HO6 := Lib.hid (HO8.out.below hb (Nat.le_refl _)); clear hb))
      go_ret
      exact ⟨HB6.out, _, rfl, by rw [HE.out]; exact HO6.out⟩
    | false =>
      have HE : Hid (nxV false (-1) i = []) := Lib.hid rfl
      go_enter Tryz.func116, Tryz.ntmps116
      go_wp2_with (first
        | (go_at_call 71; (with_reducible refine (HFL.out w).mono ?_); rintro e w5 ⟨rfl, hb⟩; have HB5 := Lib.hid hb; obtain ⟨hX5, d0, d1, d2, d3, d4, d5⟩ := HCC.out w5 hb; clear hb hX5)
        | (go_at_call 69; (with_reducible refine (HTG.out w5).mono ?_); rintro e w6 ⟨rfl, hb⟩; have HB6 := Lib.hid (HB5.out.trans (hb.mono HB5.out.size)); clear hb))
      go_ret
      exact ⟨HB6.out, _, rfl, by rw [HE.out]; exact Owns.nil _ _ _ _ _⟩
end Go.Proofs.YtfdblmjgpoocpaaGreat

/- (Ref10C) The document's own Next and Reached of layer 10. Contracts; no condition but that the instructions are few. -/
namespace Go.Proofs.YtfdblmjgpoocpaaGreat
open Go.RowKit Go.Shelf
set_option linter.unusedVariables false
set_option linter.unusedSimpArgs false

/-- Lists of numbers that a call makes by append. -/
structure OwnJ (base : Nat) (W : World) (V : Value) (ll : List (List Int)) (Xs : List Value) : Prop where
  own : Owns W base 35 1 AnyCell V ll.length Xs
  len : Xs.length = ll.length
  nums : ∀ i, i < ll.length → OutN base W (Xs.getD i (.slice none 0 0)) (ll.getD i [])
theorem OwnJ.nil (base : Nat) (W : World) : OwnJ base W (.slice none 0 0) [] [] := ⟨Owns.nil _ _ _ _ _, rfl, fun i hi => absurd hi (by simp)⟩
section
variable {base : Nat} {W W' : World} {V : Value} {ll : List (List Int)} {Xs : List Value}
theorem OwnJ.below {B : Nat} (h : OwnJ base W V ll Xs) (hb : Below B W W') (hB : W.heap.size ≤ B) : OwnJ base W' V ll Xs :=
  ⟨h.own.below hb hB, h.len, fun i hi => Owns.below (h.nums i hi) hb hB⟩
end
theorem OwnJ.low {base b' : Nat} {W : World} {V : Value} {ll : List (List Int)} {Xs : List Value} (h : OwnJ base W V ll Xs) (hb : b' ≤ base) : OwnJ b' W V ll Xs := ⟨Owns.base h.own hb, h.len, fun i hi => Owns.base (h.nums i hi) hb⟩
theorem addr_zero_j (b k : Nat) : (⟨b, 0, none⟩ : Addr).add k = ⟨b, k, none⟩ := by unfold Addr.add; split <;> simp_all
theorem one_list (w : World) (X : Value) : ∀ j u, [X][j]? = some u → (w.alloc (.cells #[X] 35)).cell? ((⟨w.heap.size, 0, none⟩ : Addr).add j) = some u := by
  intro j u hu
  rw [addr_zero_j, cell_of_row _ _ _ _ _ _ (heap_alloc_new w _), ← Array.getElem?_toList]
  exact hu
/-- An append of one list, at the operation. -/
theorem wpList_outJ {W : World} {ops : Array Oper} {rest : List Oper} {o : Oper} {a : Act} {Q : Exit → Act → World → Prop} (hgd : o.guard = none) (s x : Operand)
    (ho : o.op = .call { callee := .builtin .append, args := #[s, x], argTypes := #[45, 45] }) {V X : Value} {ll : List (List Int)} {Xs : List Value} {y : List Int} {base : Nat} (hs : a.eval s = V) (hx : a.eval x = .slice (some ⟨W.heap.size, 0, none⟩) 1 1)
    (h : OwnJ base W V ll Xs) (hX : OutN base W X y) (hX1 : X.oneCell' = true) (hb : base ≤ W.heap.size) (hl : ll.length ≤ 1000000)
    (hK : ∀ V' W', OwnJ base W' V' (ll ++ [y]) (Xs ++ [X]) → Below base W W' → wpList Tryz.prog ops Q rest (a.put o.dst V') W') :
    wpList Tryz.prog ops Q (o :: rest) a (W.alloc (.cells #[X] 35)) := by
  obtain ⟨i, hi, h1, h2, h3⟩ := info_parts ints_info
  have ha : Below W.heap.size W (W.alloc (.cells #[X] 35)) := (Below.refl W.heap.size W).alloc (Nat.le_refl _) _
  have hg := Owns.below h.own ha (Nat.le_refl _)
  refine wpList_append_q _ hgd s x 45 ho base 35 i _ 1 24 Tryz.underlying45 hi h1 h2 h3 rfl (by decide) AnyCell (fun _ _ => trivial) V ll.length Xs hs hg ⟨W.heap.size, 0, none⟩ 1 1 [X] hx rfl (one_list W X) (by intro u hu; simp at hu; subst hu; exact hX1) (fun _ _ => trivial) (by unfold maxLen; omega) (by omega) (by simp; omega) ?_
  intro V' W' ho' hg'
  have e : World.grownBy (W.alloc (.cells #[X] 35)) W' V.ownBlock := hg'
  have hblk : ∀ i, i < W.heap.size → some i ≠ V.ownBlock → W'.heap[i]? = W.heap[i]? := fun i hi hn => (e.block i (by simp; omega) hn).trans (ha.block i hi)
  have hsz : W.heap.size ≤ W'.heap.size := Nat.le_trans (by simp) e.size
  have hkeep : ∀ (v : Value) (xs : List Int), OutN base W v xs → OutN base W' v xs := fun v xs hv => by
    refine Owns.of_blocks hv (fun g hg => hblk g (hv.lt hg).2 (fun e' => ?_)) hsz
    obtain ⟨c1, h1⟩ := hv.typed hg
    obtain ⟨c2, h2⟩ := h.own.typed e'.symm
    rw [h1] at h2
    injection h2 with h2
    injection h2 with _ h2 _
    exact absurd h2 (by decide)
  refine hK V' W' ⟨?_, by simp [h.len], fun i hi => ?_⟩ ((ha.mono hb).grown e (by simp; omega) fun j hj => (h.own.lt hj).1)
  · rw [List.length_append]; exact ho'
  · rw [List.length_append] at hi
    simp only [List.length_cons, List.length_nil, Nat.zero_add] at hi
    rw [getD_snoc ll y [] hi, getD_snoc Xs X _ (by rw [h.len]; exact hi), h.len]
    by_cases hlt : i < ll.length
    · rw [if_pos hlt, if_pos hlt]
      exact hkeep _ _ (h.nums i hlt)
    · rw [if_neg hlt, if_neg hlt]
      exact hkeep _ _ hX
theorem nexts_take {l : List InsV} {k : Nat} (hk : k < l.length) : (nextsV l).take (k + 1) = (nextsV l).take k ++ [nextV l k] := by
  have h' : k < (nextsV l).length := by rw [nextsV_length]; exact hk
  rw [List.take_add_one, List.getElem?_eq_getElem h']
  simp [nextsV]
def RNextN (w : World) (l : List InsV) (e : Ending) (w' : World) : Prop :=
  Below w.heap.size w w' ∧ ((check10 l ≠ 0 ∧ e = .returned (.tuple #[.slice none 0 0, .int .i64 (check10 l)])) ∨
    (check10 l = 0 ∧ ∃ V Xs, e = .returned (.tuple #[V, .int .i64 0]) ∧ OwnJ w.heap.size w' V (nextsV l) Xs))
set_option maxRecDepth 100000 in
set_option maxHeartbeats 8000000 in
theorem rNext10_any (A : Option Addr) (n cap : Nat) (l : List InsV) (w : World) (hn : n = l.length) (h : IsCode w w.heap.size (.slice A n cap) l) (hs : n ≤ 1000) :
    Calls Tryz.prog 94 #[.slice A n cap] w (RNextN w l) := by
  have HC := Lib.hid h
  have HN := Lib.hid hn
  have HCK := Lib.hid (rCheck_any A n cap l w hn h hs)
  by_cases h0 : check10 l = 0
  · have hg := good10 h0
    have HG := Lib.hid hg
    have H0 := Lib.hid h0
    have HPC := Lib.hid (fun W hc => rplaces_any A n cap l W hn hc hg.join)
    have HNX := Lib.hid (fun P W i hc hp hi => rnext10_any A n cap P l i W hn hc hp hg hi (by omega))
    have HPL := Lib.hid (placesV_length l 0)
    rw [← hn] at HPL
    rw [h0] at HCK
    clear h hn hg h0
    go_enter Tryz.func94, Tryz.ntmps94
    go_wp2_with (first
      | (go_at_call 46; (with_reducible refine HCK.out.mono ?_); rintro e w1 ⟨rfl, hb⟩; have HB1 := Lib.hid hb; have HC1 := Lib.hid ((HC.out.below hb (Nat.le_refl _) (Nat.le_refl _)).more hb.size); clear hb)
      | (go_at_call 68; (with_reducible refine (HPC.out w1 HC1.out).mono ?_); rintro e w2 ⟨hb, P, rfl, ho⟩; have HB2 := Lib.hid (HB1.out.trans (hb.mono HB1.out.size)); have HP2 := Lib.hid (IsNums.of_owns ho (Nat.le_refl _)); obtain ⟨pA, pc, hpe⟩ := owns_len ho; rw [HPL.out] at hpe; subst hpe; clear hb ho))
    go_loopw [6, 7] (fun out i wr => ∃ (k : Nat) (Xs : List Value), k ≤ n ∧ i = .int .i64 k ∧ Hid (OwnJ w2.heap.size wr out ((nextsV l).take k) Xs ∧ Below w2.heap.size w2 wr)) (fun _ i _ => n - (intOf i).toNat)
    case atStart => exact ⟨0, [], by omega, rfl, OwnJ.nil _ _, Below.refl _ _⟩
    case round =>
      obtain ⟨k, Xs, hk, rfl, HR⟩ := hrel
      obtain ⟨ho, hb⟩ := HR.out
      have HO := Lib.hid ho
      have HB := Lib.hid hb
      have HBW := Lib.hid (HB2.out.trans (hb.mono HB2.out.size))
      obtain ⟨oA, oc, hoe⟩ := owns_len ho.own
      have hlen : ((nextsV l).take k).length = k := by rw [List.length_take, nextsV_length, ← HN.out]; omega
      rw [hlen] at hoe
      subst hoe
      have HLN := Lib.hid hlen
      clear HR ho hb hlen
      by_cases hlt : k < n
      · have HTK := Lib.hid (nexts_take (l := l) (k := k) (by rw [← HN.out]; exact hlt))
        have HNK := Lib.hid (HNX.out (.slice pA n pc) wr k ((HC.out.below HBW.out (Nat.le_refl _) (Nat.le_refl _)).more HBW.out.size) ((HP2.out.below HB.out (Nat.le_refl _)).more HB.out.size) hlt)
        have k0 : (0 : Int) ≤ (k : Int) := by omega
        have k1 : (k : Int) < (n : Int) := by omega
        go_wp2_with (first
          | (go_at_call 116; (with_reducible refine HNK.out.mono ?_); rintro e w5 ⟨hb, X, rfl, hx⟩; have HB5 := Lib.hid (HB.out.trans (hb.mono HB.out.size)); have HW5 := Lib.hid (HBW.out.trans (hb.mono HBW.out.size)); have HX5 := Lib.hid (hx.base HB.out.size); have HO5 := Lib.hid (HO.out.below hb (Nat.le_refl _)); obtain ⟨xA, xc, hxe⟩ := owns_len hx; subst hxe; clear hb hx)
          | (at_builtin; (refine wpList_outJ (W := w5) (y := nextV l k) (base := w2.heap.size) rfl (.tmp 26) (.tmp 28) rfl rfl rfl HO5.out HX5.out rfl HB5.out.size (by rw [HLN.out]; omega) ?_; intro V6 w6 ho hb; have HO6 := Lib.hid ho; have HB6 := Lib.hid (HB5.out.trans hb); obtain ⟨a6, c6, h6⟩ := owns_len ho.own; generalize hq6 : (_ ++ [nextV l k]).length = q6 at h6; subst h6; clear ho hb hq6)))
        go_roundw
        case rel => exact ⟨k + 1, _, by omega, by go_num, by rw [HTK.out]; exact HO6.out, HB6.out⟩
        case measure => simp [intOf]; omega
      · obtain rfl : k = n := by omega
        have hte : (nextsV l).take k = nextsV l := by have := nextsV_length l; rw [HN.out, ← this]; exact List.take_length
        have HTE := Lib.hid hte
        clear hte
        go_wp2
        go_ret2
        refine ⟨HBW.out, .inr ⟨H0.out, _, Xs, rfl, ?_⟩⟩
        rw [← HTE.out]
        exact HO.out.low HB2.out.size
  · have hne : (check10 l != 0) = true := by simpa using h0
    have H0 := Lib.hid h0
    unfold RNextN
    generalize check10 l = z at *
    clear h hn h0
    go_enter Tryz.func94, Tryz.ntmps94
    go_wp2_with (go_at_call 46; (with_reducible refine HCK.out.mono ?_); rintro e w1 ⟨rfl, hb⟩; have HB1 := Lib.hid hb; clear hb)
    go_ret2
    exact ⟨HB1.out, .inl ⟨H0.out, rfl⟩⟩
/-- What Reached has in memory. -/
structure RwAt (w wr : World) (n : Nat) (m : Nat → Bool) : Prop where
  bel : Below w.heap.size w wr
  row : RowAt wr w.heap.size n 4 (boolsV m)
theorem RwAt.set {w wr : World} {n : Nat} {m : Nat → Bool} (h : RwAt w wr n m) (x : Nat) (b : Bool) : RwAt w (wr.setCell ⟨w.heap.size, x, none⟩ (.bool b)) n (fun i => if i = x then b else m i) :=
  ⟨h.bel.setCell (p := ⟨w.heap.size, x, none⟩) (Nat.le_refl _) _, (h.row.set x _).congr fun i hi => by unfold boolsV; by_cases e : i = x <;> simp [e]⟩
theorem RwAt.grow {w wr W : World} {n : Nat} {m : Nat → Bool} (h : RwAt w wr n m) (hb : Below wr.heap.size wr W) : RwAt w W n m := ⟨h.bel.trans (hb.mono h.bel.size), h.row.below hb h.row.lt⟩
def RHead (w : World) (n : Nat) (nx : Nat → List Int) (gk : Nat) (b : Bool) (wr : World) : Prop :=
  ∃ m, RwAt w wr n m ∧ m 0 = true ∧ (∀ i, i < n → m i = true → Rch nx i) ∧ (b = false → Closed n nx m) ∧ (b = true → cntV m n + 1 ≤ gk)
def RReachedN (w : World) (l : List InsV) (n : Nat) (e : Ending) (w' : World) : Prop :=
  Below w.heap.size w w' ∧ ((check10 l ≠ 0 ∧ e = .returned (.tuple #[.slice none 0 0, .int .i64 (check10 l)])) ∨
    (check10 l = 0 ∧ ∃ gb r, e = .returned (.tuple #[.slice (some ⟨gb, 0, none⟩) n n, .int .i64 0]) ∧ w.heap.size ≤ gb ∧ IsReach n (nextV l) r ∧ RowAt w' gb n 4 (boolsV fun i => r.getD i false)))
end Go.Proofs.YtfdblmjgpoocpaaGreat
