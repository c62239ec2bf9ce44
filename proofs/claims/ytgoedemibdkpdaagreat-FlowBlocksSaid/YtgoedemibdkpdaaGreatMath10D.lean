/- Blocks as the document makes them, one instruction behind the other. Plain mathematics. -/
import Derived.Test.YtgoedemibdkpdaaGreatBlk10
namespace Go.Proofs.YtgoedemibdkpdaaGreat
set_option linter.unusedVariables false
set_option linter.unusedSimpArgs false

def leadP (l : List InsV) (i : Nat) : List Int := ((List.range i).filter (leadB l)).map fun i : Nat => (i : Int)
theorem leadP_yes {l : List InsV} {i : Nat} (h : leadB l i = true) : leadP l (i + 1) = leadP l i ++ [(i : Int)] := by
  unfold leadP
  rw [List.range_succ, List.filter_append, List.map_append]
  simp [h]
theorem leadP_no {l : List InsV} {i : Nat} (h : leadB l i = false) : leadP l (i + 1) = leadP l i := by
  unfold leadP
  rw [List.range_succ, List.filter_append, List.map_append]
  simp [h]
theorem leadP_all (l : List InsV) : leadP l l.length = leadI l := rfl
theorem leadP_pos (l : List InsV) {i : Nat} (h : 0 < i) : 0 < (leadP l i).length := by
  induction i with
  | zero => omega
  | succ i ih =>
    rcases Nat.eq_zero_or_pos i with h0 | h0
    · subst h0
      rw [leadP_yes (lead_iff.2 (.inl rfl))]
      simp
    · cases hb : leadB l i with
      | true => rw [leadP_yes hb, List.length_append]; have := ih h0; omega
      | false => rw [leadP_no hb]; exact ih h0
theorem leadP_len (l : List InsV) (i : Nat) : (leadP l i).length ≤ i := by
  have : ((List.range i).filter (leadB l)).length ≤ (List.range i).length := List.length_filter_le _ _
  simpa [leadP] using this
def blkP (l : List InsV) (i j : Nat) : BlkV := ⟨(leadP l i).getD j 0, if j + 1 < (leadP l i).length then (leadP l i).getD (j + 1) 0 else (i : Int), []⟩
def blksP (l : List InsV) (i : Nat) : List BlkV := (List.range (leadP l i).length).map (blkP l i)
theorem blksP_length (l : List InsV) (i : Nat) : (blksP l i).length = (leadP l i).length := by simp [blksP]
theorem blksP_at {l : List InsV} {i j : Nat} (h : j < (leadP l i).length) : (blksP l i).getD j .zero = blkP l i j := by simp [blksP, List.getD, h]
theorem blksP_yes {l : List InsV} {i : Nat} (h : leadB l i = true) : blksP l (i + 1) = blksP l i ++ [⟨(i : Int), (i : Int) + 1, []⟩] := by
  have e := leadP_yes h
  have hlen : (leadP l (i + 1)).length = (leadP l i).length + 1 := by rw [e]; simp
  unfold blksP
  rw [hlen, List.range_succ, List.map_append]
  congr 1
  · refine List.map_congr_left fun j hj => ?_
    have hj : j < (leadP l i).length := by simpa using hj
    unfold blkP
    rw [hlen, e]
    have e1 : (leadP l i ++ [(i : Int)]).getD j 0 = (leadP l i).getD j 0 := by simp [List.getD, List.getElem?_append_left hj]
    rw [e1, if_pos (by omega)]
    by_cases h1 : j + 1 < (leadP l i).length
    · rw [if_pos h1]
      have e2 : (leadP l i ++ [(i : Int)]).getD (j + 1) 0 = (leadP l i).getD (j + 1) 0 := by simp [List.getD, List.getElem?_append_left h1]
      rw [e2]
    · rw [if_neg h1]
      have : j + 1 = (leadP l i).length := by omega
      have e2 : (leadP l i ++ [(i : Int)]).getD (j + 1) 0 = (i : Int) := by rw [this]; simp [List.getD]
      rw [e2]
  · simp only [List.map_cons, List.map_nil]
    unfold blkP
    rw [hlen, if_neg (by omega), e]
    have e2 : (leadP l i ++ [(i : Int)]).getD (leadP l i).length 0 = (i : Int) := by simp [List.getD]
    rw [e2]
    simp
theorem blksP_no {l : List InsV} {i m : Nat} (h : leadB l i = false) (hm : (leadP l i).length = m + 1) : blksP l (i + 1) = (blksP l i).set m ⟨((blksP l i).getD m .zero).fr, (i : Int) + 1, ((blksP l i).getD m .zero).nx⟩ := by
  have e := leadP_no h
  rw [blksP_at (by omega)]
  apply List.ext_getElem
  · simp [blksP_length, e]
  intro j h1 h2
  have hj : j < (leadP l i).length := by rw [blksP_length, e] at h1; exact h1
  rw [List.getElem_set]
  have g1 : (blksP l (i + 1))[j] = blkP l (i + 1) j := by simp [blksP]
  rw [g1]
  by_cases hjm : m = j
  · subst hjm
    rw [if_pos rfl]
    unfold blkP
    rw [e, hm, if_neg (by omega), if_neg (by omega)]
    simp
  · rw [if_neg hjm]
    have g2 : (blksP l i)[j]'(by rw [blksP_length]; exact hj) = blkP l i j := by simp [blksP]
    rw [g2]
    unfold blkP
    rw [e, if_pos (by omega), if_pos (by omega)]
/-- The blocks when what comes behind is known of those ahead of i, and as much as xs of i. -/
def blkQ (l : List InsV) (i : Nat) (xs : List Int) (j : Nat) : BlkV := ⟨fromV l j, toV l j, if j < i then behindV l j else if j = i then xs else []⟩
def blksQ (l : List InsV) (i : Nat) (xs : List Int) : List BlkV := (List.range (leadI l).length).map (blkQ l i xs)
theorem blksQ_length (l : List InsV) (i : Nat) (xs : List Int) : (blksQ l i xs).length = (leadI l).length := by simp [blksQ]
theorem blksQ_at {l : List InsV} {i j : Nat} {xs : List Int} (h : j < (leadI l).length) : (blksQ l i xs).getD j .zero = blkQ l i xs j := by simp [blksQ, List.getD, h]
theorem blksQ_fr (l : List InsV) (i : Nat) (xs : List Int) : (blksQ l i xs).map BlkV.fr = leadI l := by
  apply List.ext_getElem
  · simp [blksQ_length]
  intro j h1 h2
  simp [blksQ, blkQ, fromV, List.getD, List.getElem?_eq_getElem h2]
theorem blksQ_first {l : List InsV} (hl : 0 < l.length) : blksP l l.length = blksQ l 0 [] := by
  unfold blksP blksQ
  rw [leadP_all]
  refine List.map_congr_left fun j hj => ?_
  have hj : j < (leadI l).length := by simpa using hj
  unfold blkP blkQ
  rw [leadP_all]
  congr 1
  · by_cases h1 : j + 1 < (leadI l).length
    · rw [if_pos h1, to_from hl h1]
      rfl
    · rw [if_neg h1]
      have : j = (leadI l).length - 1 := by omega
      rw [this, to_last hl]
  · by_cases h0 : j = 0 <;> simp [h0]
theorem blksQ_set {l : List InsV} {i : Nat} {xs ys : List Int} (hi : i < (leadI l).length) : blksQ l i ys = (blksQ l i xs).set i ⟨((blksQ l i xs).getD i .zero).fr, ((blksQ l i xs).getD i .zero).to, ys⟩ := by
  rw [blksQ_at hi]
  apply List.ext_getElem
  · simp [blksQ_length]
  intro j h1 h2
  have hj : j < (leadI l).length := by rw [blksQ_length] at h1; exact h1
  rw [List.getElem_set]
  have g : ∀ zs, (blksQ l i zs)[j]'(by rw [blksQ_length]; exact hj) = blkQ l i zs j := fun zs => by simp [blksQ]
  rw [g, g]
  by_cases e : i = j
  · subst e
    rw [if_pos rfl]
    unfold blkQ
    simp
  · rw [if_neg e]
    unfold blkQ
    simp [show ¬ j = i from fun h => e h.symm]
theorem blksQ_next {l : List InsV} {i : Nat} : blksQ l i (behindV l i) = blksQ l (i + 1) [] := by
  unfold blksQ
  refine List.map_congr_left fun j hj => ?_
  unfold blkQ
  congr 1
  rcases Nat.lt_trichotomy j i with h | h | h
  · rw [if_pos h, if_pos (by omega)]
  · subst h
    rw [if_neg (by omega), if_pos rfl, if_pos (by omega)]
  · rw [if_neg (by omega), if_neg (by omega), if_neg (by omega)]
    split <;> rfl
theorem blksQ_last {l : List InsV} : blksQ l (leadI l).length [] = blksV l := by
  unfold blksQ blksV
  refine List.map_congr_left fun j hj => ?_
  have hj : j < (leadI l).length := by simpa using hj
  unfold blkQ blkV
  rw [if_pos hj]
theorem at_lead {l : List InsV} {x : Int} (h : x ∈ leadI l) : atV (leadI l) x = idxV l x := by
  obtain ⟨j, h1, hj, he⟩ := idx_from h
  rw [h1]
  have hb := atV_lb (leadI l) x
  by_cases h0 : atV (leadI l) x < 0
  · exact absurd he (atV_none h0 j hj)
  · obtain ⟨k, hk⟩ : ∃ k : Nat, atV (leadI l) x = k := ⟨_, (Int.toNat_of_nonneg (by omega)).symm⟩
    have hs := atV_some hk
    rw [hk]
    congr 1
    rcases Nat.lt_trichotomy k j with h3 | h3 | h3
    · have := from_rise (l := l) h3 hj
      unfold fromV at this he
      omega
    · exact h3
    · have := from_rise (l := l) h3 hs.1
      unfold fromV at this he
      omega
/-- Is an instruction a leader, as the document asks it? -/
def ledB (l : List InsV) (i : Nat) : Bool :=
  decide (i = 0) || decide (0 ≤ tgtV (l.getD (i - 1) .zero)) || !flsV (l.getD (i - 1) .zero) || (List.range l.length).any fun k => decide (tgtV (l.getD k .zero) = (placesV l 0).getD i 0)
theorem led_lead {l : List InsV} (h : Good10 l) {i : Nat} (hi : i < l.length) : ledB l i = leadB l i := by
  rw [Bool.eq_iff_iff, lead_iff]
  unfold ledB
  simp only [Bool.or_eq_true, decide_eq_true_eq, Bool.not_eq_true', List.any_eq_true, List.mem_range]
  constructor
  · rintro (((h0 | h1) | h1) | ⟨k, hk, h1⟩)
    · exact .inl h0
    · rcases Nat.eq_zero_or_pos i with h0 | h0
      · exact .inl h0
      · refine .inr ⟨i - 1, by omega, .inr ⟨.inl ?_, by omega⟩⟩
        have := h.neg (n := i - 1) (by omega)
        omega
    · rcases Nat.eq_zero_or_pos i with h0 | h0
      · exact .inl h0
      · exact .inr ⟨i - 1, by omega, .inr ⟨.inr h1, by omega⟩⟩
    · exact .inr ⟨k, hk, .inl ((h.tgt hk hi).1 h1)⟩
  · rintro (h0 | ⟨n, hn, h1 | ⟨h1 | h1, rfl⟩⟩)
    · exact .inl (.inl (.inl h0))
    · exact .inr ⟨n, hn, (h.tgt hn hi).2 h1⟩
    · have := h.neg (n := n) hn
      refine .inl (.inl (.inr ?_))
      rw [Nat.add_sub_cancel]
      omega
    · refine .inl (.inr ?_)
      rw [Nat.add_sub_cancel]
      exact h1
end Go.Proofs.YtgoedemibdkpdaaGreat
