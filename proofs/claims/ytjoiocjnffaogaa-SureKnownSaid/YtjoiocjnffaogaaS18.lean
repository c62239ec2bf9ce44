/- Lemmas of Blk10, Math10D, Ref10A, Ref10B, Ref10C, each with its own remark. -/
import Derived.Test.YtjoiocjnffaogaaS17
import Derived.Test.YtjoiocjnffaogaaS16
import Derived.Test.YtjoiocjnffaogaaS15
/- (Blk10) Blocks in a row: what they are in the model, and an append of one. Plain lemmas; no condition but what each names. -/
namespace Go.Proofs.Ytjoiocjnffaogaa
open Go.RowKit
set_option linter.unusedVariables false
set_option linter.unusedSimpArgs false

structure BlkV where
  fr : Int
  to : Int
  nx : List Int
def BlkV.zero : BlkV := ⟨0, 0, []⟩
def blkCell (b : BlkV) (X : Value) (j : Nat) : Value := if j = 0 then .int .i64 b.fr else if j = 1 then .int .i64 b.to else X
def blkList (b : BlkV) (X : Value) : List Value := [.int .i64 b.fr, .int .i64 b.to, X]
def cellsK : List BlkV → List Value → List Value
  | y :: l, X :: Xs => blkList y X ++ cellsK l Xs
  | _, _ => []
theorem cellsK_length : ∀ (l : List BlkV) (Xs : List Value), Xs.length = l.length → (cellsK l Xs).length = l.length * 3
  | [], [], _ => rfl
  | y :: l, X :: Xs, h => by
    simp only [cellsK, List.length_append, cellsK_length l Xs (by simpa using h), blkList, List.length_cons, List.length_nil]
    omega
theorem blkList_at (y : BlkV) (X : Value) {j : Nat} (hj : j < 3) : (blkList y X)[j]? = some (blkCell y X j) := by
  rcases (show j = 0 ∨ j = 1 ∨ j = 2 by omega) with rfl | rfl | rfl <;> rfl
theorem cellsK_at : ∀ (l : List BlkV) (Xs : List Value) {i j : Nat}, Xs.length = l.length → i < l.length → j < 3 → (cellsK l Xs)[i * 3 + j]? = some (blkCell (l.getD i .zero) (Xs.getD i (.slice none 0 0)) j)
  | [], _, i, j, _, hi, _ => absurd hi (by simp)
  | y :: l, [], i, j, h, _, _ => absurd h (by simp)
  | y :: l, X :: Xs, 0, j, _, _, hj => by
    simp only [cellsK]
    rw [List.getElem?_append_left (by simp [blkList]; omega)]
    simpa using blkList_at y X hj
  | y :: l, X :: Xs, i + 1, j, h, hi, hj => by
    simp only [cellsK]
    rw [List.getElem?_append_right (by simp [blkList]; omega)]
    have e : (i + 1) * 3 + j - (blkList y X).length = i * 3 + j := by simp [blkList]; omega
    rw [e, cellsK_at l Xs (by simpa using h) (by simpa using hi) hj]
    rfl
theorem cellsK_append : ∀ (l : List BlkV) (Xs : List Value) (y : BlkV) (X : Value), Xs.length = l.length → cellsK (l ++ [y]) (Xs ++ [X]) = cellsK l Xs ++ blkList y X
  | [], [], y, X, _ => by simp [cellsK]
  | z :: l, Z :: Xs, y, X, h => by
    simp only [List.cons_append, cellsK, cellsK_append l Xs y X (by simpa using h), List.append_assoc]
/-- Blocks to be read. -/
def IsBlks (w : World) (B : Nat) (V : Value) (l : List BlkV) : Prop :=
  l.length ≤ maxLen ∧ ((l = [] ∧ ∃ a cap, V = .slice a 0 cap) ∨
    ∃ b off cap, V = .slice (some ⟨b, off, none⟩) l.length cap ∧ l.length ≤ cap ∧ b < B ∧ ∀ i, i < l.length → ∃ X, IsNums .i64 w B X (l.getD i .zero).nx ∧ ∀ j, j < 3 → w.cell? ⟨b, off + i * 3 + j, none⟩ = some (blkCell (l.getD i .zero) X j))
theorem IsBlks.len {w : World} {B : Nat} {V : Value} {l : List BlkV} (h : IsBlks w B V l) : ∃ a cap, V = .slice a l.length cap := by
  rcases h.2 with ⟨rfl, a, cap, h⟩ | ⟨b, off, cap, h, _⟩
  · exact ⟨a, cap, h⟩
  · exact ⟨_, cap, h⟩
theorem IsBlks.plain {w : World} {B : Nat} {V : Value} {l : List BlkV} (h : IsBlks w B V l) (hn : 0 < l.length) :
    ∃ b off cap, V = .slice (some ⟨b, off, none⟩) l.length cap ∧ l.length ≤ cap ∧ b < B ∧ ∀ i, i < l.length → ∃ X, IsNums .i64 w B X (l.getD i .zero).nx ∧ ∀ j, j < 3 → w.cell? ⟨b, off + i * 3 + j, none⟩ = some (blkCell (l.getD i .zero) X j) := by
  rcases h.2 with ⟨rfl, _⟩ | h
  · simp at hn
  · exact h
theorem IsBlks.below {w w' : World} {B B' : Nat} {V : Value} {l : List BlkV} (h : IsBlks w B V l) (hb : Below B' w w') (hB : B ≤ B') : IsBlks w' B V l := by
  refine ⟨h.1, ?_⟩
  rcases h.2 with h0 | ⟨b, off, cap, h1, h2, h3, h4⟩
  · exact .inl h0
  · refine .inr ⟨b, off, cap, h1, h2, h3, fun i hi => ?_⟩
    obtain ⟨X, hX, hc⟩ := h4 i hi
    exact ⟨X, hX.below hb hB, fun j hj => (hb.cell (p := ⟨b, off + i * 3 + j, none⟩) (Nat.lt_of_lt_of_le h3 hB)).trans (hc j hj)⟩
theorem IsBlks.more {w : World} {B B' : Nat} {V : Value} {l : List BlkV} (h : IsBlks w B V l) (hB : B ≤ B') : IsBlks w B' V l := by
  refine ⟨h.1, ?_⟩
  rcases h.2 with h0 | ⟨b, off, cap, h1, h2, h3, h4⟩
  · exact .inl h0
  · refine .inr ⟨b, off, cap, h1, h2, Nat.lt_of_lt_of_le h3 hB, fun i hi => ?_⟩
    obtain ⟨X, hX, hc⟩ := h4 i hi
    exact ⟨X, hX.more hB, hc⟩
section
variable {base : Nat} {W W' : World} {V : Value} {l : List BlkV} {Xs : List Value}
end
/-- The blocks of code. -/
def blkV (l : List InsV) (j : Nat) : BlkV := ⟨fromV l j, toV l j, behindV l j⟩
def blksV (l : List InsV) : List BlkV := (List.range (leadI l).length).map (blkV l)
theorem blksV_length (l : List InsV) : (blksV l).length = (leadI l).length := by simp [blksV]
theorem blksV_at {l : List InsV} {j : Nat} (h : j < (leadI l).length) : (blksV l).getD j .zero = blkV l j := by simp [blksV, List.getD, h]
theorem blks_take {l : List InsV} {j : Nat} (h : j < (leadI l).length) : (blksV l).take (j + 1) = (blksV l).take j ++ [blkV l j] := by
  have h' : j < (blksV l).length := by rw [blksV_length]; exact h
  rw [List.take_add_one, List.getElem?_eq_getElem h']
  simp [blksV]
end Go.Proofs.Ytjoiocjnffaogaa

/- (Math10D) Blocks as the document makes them, one instruction behind the other. Plain mathematics. -/
namespace Go.Proofs.Ytjoiocjnffaogaa
set_option linter.unusedVariables false
set_option linter.unusedSimpArgs false

def leadP (l : List InsV) (i : Nat) : List Int := ((List.range i).filter (leadB l)).map fun i : Nat => (i : Int)
theorem leadP_yes {l : List InsV} {i : Nat} (h : leadB l i = true) : leadP l (i + 1) = leadP l i ++ [(i : Int)] := by
  unfold leadP
  rw [List.range_succ, List.filter_append, List.map_append]
  simp [h]
theorem leadP_no {l : List InsV} {i : Nat} (h : leadB l i = false) : leadP l (i + 1) = leadP l i := by
  unfold leadP
  rw [List.range_succ, List.filter_append, List.map_append]
  simp [h]
theorem leadP_all (l : List InsV) : leadP l l.length = leadI l := rfl
theorem leadP_pos (l : List InsV) {i : Nat} (h : 0 < i) : 0 < (leadP l i).length := by
  induction i with
  | zero => omega
  | succ i ih =>
    rcases Nat.eq_zero_or_pos i with h0 | h0
    · subst h0
      rw [leadP_yes (lead_iff.2 (.inl rfl))]
      simp
    · cases hb : leadB l i with
      | true => rw [leadP_yes hb, List.length_append]; have := ih h0; omega
      | false => rw [leadP_no hb]; exact ih h0
theorem leadP_len (l : List InsV) (i : Nat) : (leadP l i).length ≤ i := by
  have : ((List.range i).filter (leadB l)).length ≤ (List.range i).length := List.length_filter_le _ _
  simpa [leadP] using this
def blkP (l : List InsV) (i j : Nat) : BlkV := ⟨(leadP l i).getD j 0, if j + 1 < (leadP l i).length then (leadP l i).getD (j + 1) 0 else (i : Int), []⟩
def blksP (l : List InsV) (i : Nat) : List BlkV := (List.range (leadP l i).length).map (blkP l i)
theorem blksP_length (l : List InsV) (i : Nat) : (blksP l i).length = (leadP l i).length := by simp [blksP]
theorem blksP_at {l : List InsV} {i j : Nat} (h : j < (leadP l i).length) : (blksP l i).getD j .zero = blkP l i j := by simp [blksP, List.getD, h]
theorem blksP_yes {l : List InsV} {i : Nat} (h : leadB l i = true) : blksP l (i + 1) = blksP l i ++ [⟨(i : Int), (i : Int) + 1, []⟩] := by
  have e := leadP_yes h
  have hlen : (leadP l (i + 1)).length = (leadP l i).length + 1 := by rw [e]; simp
  unfold blksP
  rw [hlen, List.range_succ, List.map_append]
  congr 1
  · refine List.map_congr_left fun j hj => ?_
    have hj : j < (leadP l i).length := by simpa using hj
    unfold blkP
    rw [hlen, e]
    have e1 : (leadP l i ++ [(i : Int)]).getD j 0 = (leadP l i).getD j 0 := by simp [List.getD, List.getElem?_append_left hj]
    rw [e1, if_pos (by omega)]
    by_cases h1 : j + 1 < (leadP l i).length
    · rw [if_pos h1]
      have e2 : (leadP l i ++ [(i : Int)]).getD (j + 1) 0 = (leadP l i).getD (j + 1) 0 := by simp [List.getD, List.getElem?_append_left h1]
      rw [e2]
    · rw [if_neg h1]
      have : j + 1 = (leadP l i).length := by omega
      have e2 : (leadP l i ++ [(i : Int)]).getD (j + 1) 0 = (i : Int) := by rw [this]; simp [List.getD]
      rw [e2]
  · simp only [List.map_cons, List.map_nil]
    unfold blkP
    rw [hlen, if_neg (by omega), e]
    have e2 : (leadP l i ++ [(i : Int)]).getD (leadP l i).length 0 = (i : Int) := by simp [List.getD]
    rw [e2]
    simp
theorem blksP_no {l : List InsV} {i m : Nat} (h : leadB l i = false) (hm : (leadP l i).length = m + 1) : blksP l (i + 1) = (blksP l i).set m ⟨((blksP l i).getD m .zero).fr, (i : Int) + 1, ((blksP l i).getD m .zero).nx⟩ := by
  have e := leadP_no h
  rw [blksP_at (by omega)]
  apply List.ext_getElem
  · simp [blksP_length, e]
  intro j h1 h2
  have hj : j < (leadP l i).length := by rw [blksP_length, e] at h1; exact h1
  rw [List.getElem_set]
  have g1 : (blksP l (i + 1))[j] = blkP l (i + 1) j := by simp [blksP]
  rw [g1]
  by_cases hjm : m = j
  · subst hjm
    rw [if_pos rfl]
    unfold blkP
    rw [e, hm, if_neg (by omega), if_neg (by omega)]
    simp
  · rw [if_neg hjm]
    have g2 : (blksP l i)[j]'(by rw [blksP_length]; exact hj) = blkP l i j := by simp [blksP]
    rw [g2]
    unfold blkP
    rw [e, if_pos (by omega), if_pos (by omega)]
/-- The blocks when what comes behind is known of those ahead of i, and as much as xs of i. -/
def blkQ (l : List InsV) (i : Nat) (xs : List Int) (j : Nat) : BlkV := ⟨fromV l j, toV l j, if j < i then behindV l j else if j = i then xs else []⟩
def blksQ (l : List InsV) (i : Nat) (xs : List Int) : List BlkV := (List.range (leadI l).length).map (blkQ l i xs)
theorem blksQ_length (l : List InsV) (i : Nat) (xs : List Int) : (blksQ l i xs).length = (leadI l).length := by simp [blksQ]
theorem blksQ_at {l : List InsV} {i j : Nat} {xs : List Int} (h : j < (leadI l).length) : (blksQ l i xs).getD j .zero = blkQ l i xs j := by simp [blksQ, List.getD, h]
theorem blksQ_fr (l : List InsV) (i : Nat) (xs : List Int) : (blksQ l i xs).map BlkV.fr = leadI l := by
  apply List.ext_getElem
  · simp [blksQ_length]
  intro j h1 h2
  simp [blksQ, blkQ, fromV, List.getD, List.getElem?_eq_getElem h2]
theorem blksQ_first {l : List InsV} (hl : 0 < l.length) : blksP l l.length = blksQ l 0 [] := by
  unfold blksP blksQ
  rw [leadP_all]
  refine List.map_congr_left fun j hj => ?_
  have hj : j < (leadI l).length := by simpa using hj
  unfold blkP blkQ
  rw [leadP_all]
  congr 1
  · by_cases h1 : j + 1 < (leadI l).length
    · rw [if_pos h1, to_from hl h1]
      rfl
    · rw [if_neg h1]
      have : j = (leadI l).length - 1 := by omega
      rw [this, to_last hl]
  · by_cases h0 : j = 0 <;> simp [h0]
theorem blksQ_set {l : List InsV} {i : Nat} {xs ys : List Int} (hi : i < (leadI l).length) : blksQ l i ys = (blksQ l i xs).set i ⟨((blksQ l i xs).getD i .zero).fr, ((blksQ l i xs).getD i .zero).to, ys⟩ := by
  rw [blksQ_at hi]
  apply List.ext_getElem
  · simp [blksQ_length]
  intro j h1 h2
  have hj : j < (leadI l).length := by rw [blksQ_length] at h1; exact h1
  rw [List.getElem_set]
  have g : ∀ zs, (blksQ l i zs)[j]'(by rw [blksQ_length]; exact hj) = blkQ l i zs j := fun zs => by simp [blksQ]
  rw [g, g]
  by_cases e : i = j
  · subst e
    rw [if_pos rfl]
    unfold blkQ
    simp
  · rw [if_neg e]
    unfold blkQ
    simp [show ¬ j = i from fun h => e h.symm]
theorem blksQ_next {l : List InsV} {i : Nat} : blksQ l i (behindV l i) = blksQ l (i + 1) [] := by
  unfold blksQ
  refine List.map_congr_left fun j hj => ?_
  unfold blkQ
  congr 1
  rcases Nat.lt_trichotomy j i with h | h | h
  · rw [if_pos h, if_pos (by omega)]
  · subst h
    rw [if_neg (by omega), if_pos rfl, if_pos (by omega)]
  · rw [if_neg (by omega), if_neg (by omega), if_neg (by omega)]
    split <;> rfl
theorem blksQ_last {l : List InsV} : blksQ l (leadI l).length [] = blksV l := by
  unfold blksQ blksV
  refine List.map_congr_left fun j hj => ?_
  have hj : j < (leadI l).length := by simpa using hj
  unfold blkQ blkV
  rw [if_pos hj]
theorem at_lead {l : List InsV} {x : Int} (h : x ∈ leadI l) : atV (leadI l) x = idxV l x := by
  obtain ⟨j, h1, hj, he⟩ := idx_from h
  rw [h1]
  have hb := atV_lb (leadI l) x
  by_cases h0 : atV (leadI l) x < 0
  · exact absurd he (atV_none h0 j hj)
  · obtain ⟨k, hk⟩ : ∃ k : Nat, atV (leadI l) x = k := ⟨_, (Int.toNat_of_nonneg (by omega)).symm⟩
    have hs := atV_some hk
    rw [hk]
    congr 1
    rcases Nat.lt_trichotomy k j with h3 | h3 | h3
    · have := from_rise (l := l) h3 hj
      unfold fromV at this he
      omega
    · exact h3
    · have := from_rise (l := l) h3 hs.1
      unfold fromV at this he
      omega
/-- Is an instruction a leader, as the document asks it? -/
def ledB (l : List InsV) (i : Nat) : Bool :=
  decide (i = 0) || decide (0 ≤ tgtV (l.getD (i - 1) .zero)) || !flsV (l.getD (i - 1) .zero) || (List.range l.length).any fun k => decide (tgtV (l.getD k .zero) = (placesV l 0).getD i 0)
theorem led_lead {l : List InsV} (h : Good10 l) {i : Nat} (hi : i < l.length) : ledB l i = leadB l i := by
  rw [Bool.eq_iff_iff, lead_iff]
  unfold ledB
  simp only [Bool.or_eq_true, decide_eq_true_eq, Bool.not_eq_true', List.any_eq_true, List.mem_range]
  constructor
  · rintro (((h0 | h1) | h1) | ⟨k, hk, h1⟩)
    · exact .inl h0
    · rcases Nat.eq_zero_or_pos i with h0 | h0
      · exact .inl h0
      · refine .inr ⟨i - 1, by omega, .inr ⟨.inl ?_, by omega⟩⟩
        have := h.neg (n := i - 1) (by omega)
        omega
    · rcases Nat.eq_zero_or_pos i with h0 | h0
      · exact .inl h0
      · exact .inr ⟨i - 1, by omega, .inr ⟨.inr h1, by omega⟩⟩
    · exact .inr ⟨k, hk, .inl ((h.tgt hk hi).1 h1)⟩
  · rintro (h0 | ⟨n, hn, h1 | ⟨h1 | h1, rfl⟩⟩)
    · exact .inl (.inl (.inl h0))
    · exact .inr ⟨n, hn, (h.tgt hn hi).2 h1⟩
    · have := h.neg (n := n) hn
      refine .inl (.inl (.inr ?_))
      rw [Nat.add_sub_cancel]
      omega
    · refine .inl (.inr ?_)
      rw [Nat.add_sub_cancel]
      exact h1
end Go.Proofs.Ytjoiocjnffaogaa

/- (Ref10A) The document's own places, at and Check of layer 10. Contracts; no condition but that the instructions are few. -/
namespace Go.Proofs.Ytjoiocjnffaogaa
open Go.RowKit Go.Shelf
set_option linter.unusedVariables false
set_option linter.unusedSimpArgs false

theorem at_first : ∀ {ps : List Int} {t : Int} {k : Nat}, k < ps.length → ps.getD k 0 = t → (∀ j, j < k → ps.getD j 0 ≠ t) → atV ps t = (k : Int)
  | [], _, _, h, _, _ => absurd h (by simp)
  | p :: ps, t, 0, _, h, _ => by
    simp at h
    simp [atV, h]
  | p :: ps, t, k + 1, hk, h, hn => by
    have h0 := hn 0 (by omega)
    simp at h0
    have ih := at_first (ps := ps) (t := t) (k := k) (by simpa using hk) (by simpa using h) (fun j hj => by simpa using hn (j + 1) (by omega))
    simp only [atV, if_neg h0, ih]
    rw [if_neg (by omega)]
    omega
theorem at_never {ps : List Int} {t : Int} (h : ∀ j, j < ps.length → ps.getD j 0 ≠ t) : atV ps t = -1 := by
  have hb := atV_lb ps t
  rcases Int.lt_or_le (atV ps t) 0 with h0 | h0
  · omega
  · obtain ⟨k, hk⟩ : ∃ k : Nat, atV ps t = k := ⟨_, (Int.toNat_of_nonneg h0).symm⟩
    have hs := atV_some hk
    exact absurd hs.2 (h k hs.1)
/-- What is read of an instruction. -/
def InsR (W : World) (b o : Nat) (op a b1 c n1 : Int) (X : Value) (args : List Int) : Prop :=
  IsNums .i64 W W.heap.size X args ∧ W.cell? ⟨b, o, none⟩ = some (.int .i64 op) ∧ W.cell? ⟨b, o + 1, none⟩ = some (.int .i64 a) ∧ W.cell? ⟨b, o + 2, none⟩ = some (.int .i64 b1) ∧
    W.cell? ⟨b, o + 3, none⟩ = some (.int .i64 c) ∧ W.cell? ⟨b, o + 4, none⟩ = some (.int .i64 n1) ∧ W.cell? ⟨b, o + 5, none⟩ = some X
/-- An instruction of a row, as it is read later on. -/
theorem code_cells {w : World} {A : Option Addr} {n cap k : Nat} {l : List InsV} (h : IsCode w w.heap.size (.slice A n cap) l) (hn : n = l.length) (hk : k < n) :
    ∃ b off op a b1 c n1 args YA Yc, A = some ⟨b, off, none⟩ ∧ l.getD k .zero = ⟨op, a, b1, c, n1, args⟩ ∧ InI n1 ∧ ∀ W, Below w.heap.size w W → InsR W b (off + k * 6) op a b1 c n1 (.slice YA args.length Yc) args := by
  have hkl : k < l.length := by omega
  obtain ⟨b, off, cap', hV, _, hbB, hcl⟩ := h.plain (by omega)
  obtain ⟨X, hX, hc⟩ := hcl k hkl
  have hin := (code_getD h hkl).n
  obtain ⟨⟨op, a, b1, c, n1, args⟩, hy⟩ : ∃ y, y = l.getD k .zero := ⟨_, rfl⟩
  rw [← hy] at hX hc hin
  obtain ⟨YA, Yc, hYe⟩ := hX.len
  subst hYe
  refine ⟨b, off, op, a, b1, c, n1, args, YA, Yc, ?_, hy.symm, hin, fun W hb => ?_⟩
  · injection hV
  · have hc' : ∀ j, j < 6 → W.cell? ⟨b, off + k * 6 + j, none⟩ = some (insCell ⟨op, a, b1, c, n1, args⟩ (.slice YA args.length Yc) j) := fun j hj => (hb.cell (p := ⟨b, off + k * 6 + j, none⟩) hbB).trans (hc j hj)
    exact ⟨(hX.below hb (Nat.le_refl _)).more hb.size, hc' 0 (by omega), hc' 1 (by omega), hc' 2 (by omega), hc' 3 (by omega), hc' 4 (by omega), hc' 5 (by omega)⟩
theorem places_take {l : List InsV} {k : Nat} (hk : k < l.length) : (placesV l 0).take (k + 1) = (placesV l 0).take k ++ [((allB (l.take k)).length : Int)] := by
  have hk' : k < (placesV l 0).length := by rw [placesV_length]; exact hk
  rw [List.take_add_one, List.getElem?_eq_getElem hk']
  have e := placesV_at l 0 hk
  simp only [List.getD, List.getElem?_eq_getElem hk', Option.getD_some, Nat.zero_add] at e
  rw [e]
  rfl
theorem take_len10 {l : List InsV} {k : Nat} (hk : k < l.length) : (allB (l.take (k + 1))).length = (allB (l.take k)).length + (l.getD k .zero).bytes.length := by
  rw [(all_at hk).2, List.length_append]
theorem take_le10 (l : List InsV) (k : Nat) : (allB (l.take k)).length ≤ (allB l).length := by
  have : allB l = allB (l.take k) ++ allB (l.drop k) := by
    unfold allB
    rw [← List.flatMap_append, List.take_append_drop]
  rw [this, List.length_append]
  omega
end Go.Proofs.Ytjoiocjnffaogaa

/- (Ref10B) The document's own Check and next of layer 10. Contracts; no condition but that the instructions are few. -/
namespace Go.Proofs.Ytjoiocjnffaogaa
open Go.RowKit Go.Shelf
set_option linter.unusedVariables false
set_option linter.unusedSimpArgs false

theorem any_take {f : InsV → Bool} {l : List InsV} {k : Nat} (hk : k < l.length) (h0 : (l.take k).any f = false) (h1 : f (l.getD k .zero) = false) : (l.take (k + 1)).any f = false := by
  rw [code_take l hk, List.any_append, h0]
  simp only [List.any_cons, List.any_nil, h1, Bool.or_false]
theorem any_hit {f : InsV → Bool} {l : List InsV} {k : Nat} (hk : k < l.length) (h1 : f (l.getD k .zero) = true) : l.any f = true := by
  rw [List.any_eq_true]
  exact ⟨_, by simp [List.getD, List.getElem?_eq_getElem hk], h1⟩
/-- An append of numbers to numbers, at the operation. -/
theorem wpList_outT {W : World} {ops : Array Oper} {rest : List Oper} {o : Oper} {a : Act} {Q : Exit → Act → World → Prop} (hgd : o.guard = none) (s x : Operand)
    (ho : o.op = .call { callee := .builtin .append, args := #[s, x], argTypes := #[22, 22] }) {V X : Value} {xs ys : List Int} {base b2 : Nat} (hs : a.eval s = V) (hx : a.eval x = X) (h : OutN base W V xs) (hX : OutN b2 W X ys)
    (hb : base ≤ W.heap.size) (hl : xs.length + ys.length ≤ 1000000)
    (hK : ∀ V' W', OutN base W' V' (xs ++ ys) → But (OwnB V) W W' → wpList Try.prog ops Q rest (a.put o.dst V') W') :
    wpList Try.prog ops Q (o :: rest) a W :=
  wpList_plain hgd fun _ hk => by
    obtain ⟨V', W', hr, ho', hb'⟩ := run_append_two (ty := o.type) h hX hb hl
    unfold Oper.wp execOp
    simp only [ho, resolve, invoke, builtin, Sem.run_bind, Sem.run_pure, Result.andThen_ok, List.map_toArray, List.map_cons, List.map_nil, hs, hx, hr]
    exact hk _ _ (hK V' W' ho' hb')
theorem one_new (w : World) (z : Int) : OutN w.heap.size (w.alloc (.cells #[.int .i64 z] 3)) (.slice (some ⟨w.heap.size, 0, none⟩) 1 1) [z] :=
  OutN.of_block (cap := 1) (ys := [z]) (Nat.le_refl _) (heap_alloc_new w _) (by simp) (by simp [maxLen]) rfl rfl (fun u hu => by simp at hu; subst hu; exact ⟨_, rfl⟩)
def NextL (w : World) (l : List InsV) (i : Nat) (e : Ending) (w' : World) : Prop := Below w.heap.size w w' ∧ ∃ X, e = .returned X ∧ OutN w.heap.size w' X (nextV l i)
end Go.Proofs.Ytjoiocjnffaogaa

/- (Ref10C) The document's own Next and Reached of layer 10. Contracts; no condition but that the instructions are few. -/
namespace Go.Proofs.Ytjoiocjnffaogaa
open Go.RowKit Go.Shelf
set_option linter.unusedVariables false
set_option linter.unusedSimpArgs false

/-- Lists of numbers that a call makes by append. -/
structure OwnJ (base : Nat) (W : World) (V : Value) (ll : List (List Int)) (Xs : List Value) : Prop where
  own : Owns W base 22 1 AnyCell V ll.length Xs
  len : Xs.length = ll.length
  nums : ∀ i, i < ll.length → OutN base W (Xs.getD i (.slice none 0 0)) (ll.getD i [])
theorem OwnJ.nil (base : Nat) (W : World) : OwnJ base W (.slice none 0 0) [] [] := ⟨Owns.nil _ _ _ _ _, rfl, fun i hi => absurd hi (by simp)⟩
section
variable {base : Nat} {W W' : World} {V : Value} {ll : List (List Int)} {Xs : List Value}
theorem OwnJ.below {B : Nat} (h : OwnJ base W V ll Xs) (hb : Below B W W') (hB : W.heap.size ≤ B) : OwnJ base W' V ll Xs :=
  ⟨h.own.below hb hB, h.len, fun i hi => Owns.below (h.nums i hi) hb hB⟩
end
theorem OwnJ.low {base b' : Nat} {W : World} {V : Value} {ll : List (List Int)} {Xs : List Value} (h : OwnJ base W V ll Xs) (hb : b' ≤ base) : OwnJ b' W V ll Xs := ⟨Owns.base h.own hb, h.len, fun i hi => Owns.base (h.nums i hi) hb⟩
theorem addr_zero_j (b k : Nat) : (⟨b, 0, none⟩ : Addr).add k = ⟨b, k, none⟩ := by unfold Addr.add; split <;> simp_all
theorem one_list (w : World) (X : Value) : ∀ j u, [X][j]? = some u → (w.alloc (.cells #[X] 22)).cell? ((⟨w.heap.size, 0, none⟩ : Addr).add j) = some u := by
  intro j u hu
  rw [addr_zero_j, cell_of_row _ _ _ _ _ _ (heap_alloc_new w _), ← Array.getElem?_toList]
  exact hu
/-- An append of one list, at the operation. -/
theorem wpList_outJ {W : World} {ops : Array Oper} {rest : List Oper} {o : Oper} {a : Act} {Q : Exit → Act → World → Prop} (hgd : o.guard = none) (s x : Operand)
    (ho : o.op = .call { callee := .builtin .append, args := #[s, x], argTypes := #[36, 36] }) {V X : Value} {ll : List (List Int)} {Xs : List Value} {y : List Int} {base : Nat} (hs : a.eval s = V) (hx : a.eval x = .slice (some ⟨W.heap.size, 0, none⟩) 1 1)
    (h : OwnJ base W V ll Xs) (hX : OutN base W X y) (hX1 : X.oneCell' = true) (hb : base ≤ W.heap.size) (hl : ll.length ≤ 1000000)
    (hK : ∀ V' W', OwnJ base W' V' (ll ++ [y]) (Xs ++ [X]) → Below base W W' → wpList Try.prog ops Q rest (a.put o.dst V') W') :
    wpList Try.prog ops Q (o :: rest) a (W.alloc (.cells #[X] 22)) := by
  obtain ⟨i, hi, h1, h2, h3⟩ := info_parts ints_info
  have ha : Below W.heap.size W (W.alloc (.cells #[X] 22)) := (Below.refl W.heap.size W).alloc (Nat.le_refl _) _
  have hg := Owns.below h.own ha (Nat.le_refl _)
  refine wpList_append_q _ hgd s x 36 ho base 22 i _ 1 24 Try.underlying36 hi h1 h2 h3 rfl (by decide) AnyCell (fun _ _ => trivial) V ll.length Xs hs hg ⟨W.heap.size, 0, none⟩ 1 1 [X] hx rfl (one_list W X) (by intro u hu; simp at hu; subst hu; exact hX1) (fun _ _ => trivial) (by unfold maxLen; omega) (by omega) (by simp; omega) ?_
  intro V' W' ho' hg'
  have e : World.grownBy (W.alloc (.cells #[X] 22)) W' V.ownBlock := hg'
  have hblk : ∀ i, i < W.heap.size → some i ≠ V.ownBlock → W'.heap[i]? = W.heap[i]? := fun i hi hn => (e.block i (by simp; omega) hn).trans (ha.block i hi)
  have hsz : W.heap.size ≤ W'.heap.size := Nat.le_trans (by simp) e.size
  have hkeep : ∀ (v : Value) (xs : List Int), OutN base W v xs → OutN base W' v xs := fun v xs hv => by
    refine Owns.of_blocks hv (fun g hg => hblk g (hv.lt hg).2 (fun e' => ?_)) hsz
    obtain ⟨c1, h1⟩ := hv.typed hg
    obtain ⟨c2, h2⟩ := h.own.typed e'.symm
    rw [h1] at h2
    injection h2 with h2
    injection h2 with _ h2 _
    exact absurd h2 (by decide)
  refine hK V' W' ⟨?_, by simp [h.len], fun i hi => ?_⟩ ((ha.mono hb).grown e (by simp; omega) fun j hj => (h.own.lt hj).1)
  · rw [List.length_append]; exact ho'
  · rw [List.length_append] at hi
    simp only [List.length_cons, List.length_nil, Nat.zero_add] at hi
    rw [getD_snoc ll y [] hi, getD_snoc Xs X _ (by rw [h.len]; exact hi), h.len]
    by_cases hlt : i < ll.length
    · rw [if_pos hlt, if_pos hlt]
      exact hkeep _ _ (h.nums i hlt)
    · rw [if_neg hlt, if_neg hlt]
      exact hkeep _ _ hX
theorem nexts_take {l : List InsV} {k : Nat} (hk : k < l.length) : (nextsV l).take (k + 1) = (nextsV l).take k ++ [nextV l k] := by
  have h' : k < (nextsV l).length := by rw [nextsV_length]; exact hk
  rw [List.take_add_one, List.getElem?_eq_getElem h']
  simp [nextsV]
def RNextN (w : World) (l : List InsV) (e : Ending) (w' : World) : Prop :=
  Below w.heap.size w w' ∧ ((check10 l ≠ 0 ∧ e = .returned (.tuple #[.slice none 0 0, .int .i64 (check10 l)])) ∨
    (check10 l = 0 ∧ ∃ V Xs, e = .returned (.tuple #[V, .int .i64 0]) ∧ OwnJ w.heap.size w' V (nextsV l) Xs))
/-- What Reached has in memory. -/
structure RwAt (w wr : World) (n : Nat) (m : Nat → Bool) : Prop where
  bel : Below w.heap.size w wr
  row : RowAt wr w.heap.size n 4 (boolsV m)
theorem RwAt.set {w wr : World} {n : Nat} {m : Nat → Bool} (h : RwAt w wr n m) (x : Nat) (b : Bool) : RwAt w (wr.setCell ⟨w.heap.size, x, none⟩ (.bool b)) n (fun i => if i = x then b else m i) :=
  ⟨h.bel.setCell (p := ⟨w.heap.size, x, none⟩) (Nat.le_refl _) _, (h.row.set x _).congr fun i hi => by unfold boolsV; by_cases e : i = x <;> simp [e]⟩
theorem RwAt.grow {w wr W : World} {n : Nat} {m : Nat → Bool} (h : RwAt w wr n m) (hb : Below wr.heap.size wr W) : RwAt w W n m := ⟨h.bel.trans (hb.mono h.bel.size), h.row.below hb h.row.lt⟩
def RHead (w : World) (n : Nat) (nx : Nat → List Int) (gk : Nat) (b : Bool) (wr : World) : Prop :=
  ∃ m, RwAt w wr n m ∧ m 0 = true ∧ (∀ i, i < n → m i = true → Rch nx i) ∧ (b = false → Closed n nx m) ∧ (b = true → cntV m n + 1 ≤ gk)
def RReachedN (w : World) (l : List InsV) (n : Nat) (e : Ending) (w' : World) : Prop :=
  Below w.heap.size w w' ∧ ((check10 l ≠ 0 ∧ e = .returned (.tuple #[.slice none 0 0, .int .i64 (check10 l)])) ∨
    (check10 l = 0 ∧ ∃ gb r, e = .returned (.tuple #[.slice (some ⟨gb, 0, none⟩) n n, .int .i64 0]) ∧ w.heap.size ≤ gb ∧ IsReach n (nextV l) r ∧ RowAt w' gb n 4 (boolsV fun i => r.getD i false)))
end Go.Proofs.Ytjoiocjnffaogaa
