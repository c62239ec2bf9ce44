/- Leaders and blocks; what is sorted and compacted. Plain mathematics. -/
import Derived.Test.YtgoedemibdkpdaaGreatMath10
namespace Go.Proofs.YtgoedemibdkpdaaGreat
set_option linter.unusedVariables false
set_option linter.unusedSimpArgs false

def sortV (zs : List Int) : List Int := zs.mergeSort fun x y => decide (x ≤ y)
theorem sort_perm (zs : List Int) : (sortV zs).Perm zs := List.mergeSort_perm zs _
theorem sort_length (zs : List Int) : (sortV zs).length = zs.length := (sort_perm zs).length_eq
theorem sort_rise (zs : List Int) : (sortV zs).Pairwise (· ≤ ·) := by
  have h := List.pairwise_mergeSort (le := fun (x y : Int) => decide (x ≤ y)) (fun a b c h1 h2 => by simp at *; omega) (fun a b => by simp; omega) zs
  exact h.imp (fun h => by simpa using h)
theorem up_to {d : Array Int} (h : ∀ i j, i ≤ j → j < d.size → d[i]! ≤ d[j]!) : ∀ m, m ≤ d.size → (Lib.compactUpTo d m).Pairwise (· < ·) ∧ ∀ x, x ∈ Lib.compactUpTo d m ↔ ∃ j, j < m ∧ d[j]! = x
  | 0, _ => by simp [Lib.compactUpTo]
  | m + 1, hm => by
    obtain ⟨h1, h2⟩ := up_to h m (by omega)
    rw [Lib.compactUpTo_succ]
    by_cases hk : Lib.keeps d m = true
    · rw [if_pos hk]
      have hk' : m = 0 ∨ d[m]! ≠ d[m - 1]! := by simpa [Lib.keeps] using hk
      refine ⟨List.pairwise_append.2 ⟨h1, by simp, fun a ha b hb => ?_⟩, fun x => ?_⟩
      · obtain ⟨j, hj, rfl⟩ := (h2 a).1 ha
        simp only [List.mem_singleton] at hb
        subst hb
        rcases hk' with h0 | h0
        · omega
        · have := h j (m - 1) (by omega) (by omega)
          have := h (m - 1) m (by omega) (by omega)
          omega
      · rw [List.mem_append, h2, List.mem_singleton]
        constructor
        · rintro (⟨j, hj, rfl⟩ | rfl)
          · exact ⟨j, by omega, rfl⟩
          · exact ⟨m, by omega, rfl⟩
        · rintro ⟨j, hj, rfl⟩
          rcases Nat.lt_or_ge j m with h3 | h3
          · exact .inl ⟨j, h3, rfl⟩
          · have : j = m := by omega
            subst this
            exact .inr rfl
    · rw [if_neg hk]
      have hk' : ¬ (m = 0 ∨ d[m]! ≠ d[m - 1]!) := by simpa [Lib.keeps] using hk
      have hm0 : m ≠ 0 := fun e => hk' (.inl e)
      have he : d[m]! = d[m - 1]! := Classical.byContradiction fun e => hk' (.inr e)
      refine ⟨by simpa using h1, fun x => ?_⟩
      rw [List.append_nil, h2]
      constructor
      · rintro ⟨j, hj, rfl⟩
        exact ⟨j, by omega, rfl⟩
      · rintro ⟨j, hj, rfl⟩
        rcases Nat.lt_or_ge j m with h3 | h3
        · exact ⟨j, h3, rfl⟩
        · have : j = m := by omega
          subst this
          exact ⟨j - 1, by omega, he.symm⟩
theorem compact_rise {zs : List Int} (h : zs.Pairwise (· ≤ ·)) : (Lib.compact zs).Pairwise (· < ·) ∧ ∀ x, x ∈ Lib.compact zs ↔ x ∈ zs := by
  have h' : ∀ i j, i ≤ j → j < zs.toArray.size → zs.toArray[i]! ≤ zs.toArray[j]! := by
    intro i j hij hj
    have hj' : j < zs.length := by simpa using hj
    rw [getElem!_pos zs.toArray i (by simp; omega), getElem!_pos zs.toArray j hj]
    simp only [List.getElem_toArray]
    rcases Nat.lt_or_ge i j with h1 | h1
    · exact List.pairwise_iff_getElem.1 h i j (by omega) hj' h1
    · have : i = j := by omega
      subst this
      exact Int.le_refl _
  obtain ⟨h1, h2⟩ := up_to h' zs.length (by simp)
  refine ⟨h1, fun x => (h2 x).trans ?_⟩
  constructor
  · rintro ⟨j, hj, rfl⟩
    rw [getElem!_pos zs.toArray j (by simpa using hj)]
    simp
  · intro hx
    obtain ⟨j, hj, rfl⟩ := List.getElem_of_mem hx
    exact ⟨j, hj, by rw [getElem!_pos zs.toArray j (by simpa using hj)]; simp⟩
/-- Two lists that rise and have the same members are the same. -/
theorem rise_uniq : ∀ {xs ys : List Int}, xs.Pairwise (· < ·) → ys.Pairwise (· < ·) → (∀ x, x ∈ xs ↔ x ∈ ys) → xs = ys
  | [], [], _, _, _ => rfl
  | [], y :: ys, _, _, h => absurd ((h y).2 (by simp)) (by simp)
  | x :: xs, [], _, _, h => absurd ((h x).1 (by simp)) (by simp)
  | x :: xs, y :: ys, hx, hy, h => by
    rw [List.pairwise_cons] at hx hy
    have e : x = y := by
      have h1 := (h x).1 (by simp)
      have h2 := (h y).2 (by simp)
      simp only [List.mem_cons] at h1 h2
      rcases h1 with h1 | h1
      · exact h1
      · rcases h2 with h2 | h2
        · exact h2.symm
        · have := hx.1 _ h2
          have := hy.1 _ h1
          omega
    subst e
    rw [rise_uniq hx.2 hy.2 fun z => ?_]
    have h1 := h z
    simp only [List.mem_cons] at h1
    constructor
    · intro hz
      rcases h1.1 (.inr hz) with rfl | h2
      · have := hx.1 _ hz; omega
      · exact h2
    · intro hz
      rcases h1.2 (.inr hz) with rfl | h2
      · have := hy.1 _ hz; omega
      · exact h2
def tidyV (zs : List Int) : List Int := Lib.compact (sortV zs)
theorem tidy_rise (zs : List Int) : (tidyV zs).Pairwise (· < ·) := (compact_rise (sort_rise zs)).1
theorem tidy_mem (zs : List Int) (x : Int) : x ∈ tidyV zs ↔ x ∈ zs := by
  rw [tidyV, (compact_rise (sort_rise zs)).2, (sort_perm zs).mem_iff]
theorem compact_length (zs : List Int) : (Lib.compact zs).length ≤ zs.length := by
  have h : ∀ (d : Array Int) m, (Lib.compactUpTo d m).length ≤ m := by
    intro d m
    induction m with
    | zero => simp [Lib.compactUpTo]
    | succ m ih =>
      rw [Lib.compactUpTo_succ, List.length_append]
      split <;> simp <;> omega
  exact h _ _
def rawN (f : Bool) (g : Int) (n : Nat) : List Int := (if f then [(n : Int) + 1] else []) ++ (if 0 ≤ g then [g] else [])
theorem tidy_next (f : Bool) (g : Int) (n : Nat) : tidyV (rawN f g n) = nxV f g n := by
  refine rise_uniq (tidy_rise _) (nxV_rise f g n) fun x => ?_
  rw [tidy_mem, nxV_mem]
  unfold rawN
  rw [List.mem_append]
  cases f <;> (by_cases h : 0 ≤ g <;> simp [h])

/-- Is an instruction a leader? -/
def leadB (l : List InsV) (i : Nat) : Bool :=
  decide (i = 0) || (List.range l.length).any fun n => decide (goalV (placesV l 0) (l.getD n .zero) = (i : Int)) || ((decide (0 ≤ goalV (placesV l 0) (l.getD n .zero)) || !flsV (l.getD n .zero)) && decide (i = n + 1))
theorem lead_iff {l : List InsV} {i : Nat} : leadB l i = true ↔ i = 0 ∨ ∃ n, n < l.length ∧ (goalV (placesV l 0) (l.getD n .zero) = (i : Int) ∨ ((0 ≤ goalV (placesV l 0) (l.getD n .zero) ∨ flsV (l.getD n .zero) = false) ∧ i = n + 1)) := by
  simp [leadB]
def leadersV (l : List InsV) : List Nat := (List.range l.length).filter (leadB l)
def leadI (l : List InsV) : List Int := (leadersV l).map fun i : Nat => (i : Int)
theorem leaders_rise (l : List InsV) : (leadersV l).Pairwise (· < ·) := (List.pairwise_lt_range (n := l.length)).filter _
theorem leadI_rise (l : List InsV) : (leadI l).Pairwise (· < ·) := by
  unfold leadI
  rw [List.pairwise_map]
  exact (leaders_rise l).imp fun h => by omega
theorem leaders_mem {l : List InsV} {i : Nat} : i ∈ leadersV l ↔ i < l.length ∧ leadB l i = true := by simp [leadersV]
theorem leadI_mem {l : List InsV} {x : Int} : x ∈ leadI l ↔ ∃ i : Nat, x = i ∧ i < l.length ∧ leadB l i = true := by
  unfold leadI
  rw [List.mem_map]
  constructor
  · rintro ⟨i, hi, rfl⟩
    exact ⟨i, rfl, leaders_mem.1 hi⟩
  · rintro ⟨i, rfl, hi⟩
    exact ⟨i, leaders_mem.2 hi, rfl⟩
def rawL1 (l : List InsV) (n : Nat) : List Int :=
  (if 0 ≤ goalV (placesV l 0) (l.getD n .zero) then [goalV (placesV l 0) (l.getD n .zero)] else []) ++
  (if (0 ≤ goalV (placesV l 0) (l.getD n .zero) ∨ flsV (l.getD n .zero) = false) ∧ n + 1 < l.length then [(n : Int) + 1] else [])
def rawL (l : List InsV) (k : Nat) : List Int := 0 :: (List.range k).flatMap (rawL1 l)
theorem rawL_succ (l : List InsV) (k : Nat) : rawL l (k + 1) = rawL l k ++ rawL1 l k := by
  simp [rawL, List.range_succ, List.flatMap_append]
theorem rawL1_len (l : List InsV) (n : Nat) : (rawL1 l n).length ≤ 2 := by
  unfold rawL1
  rw [List.length_append]
  split <;> split <;> simp
theorem rawL_len (l : List InsV) (k : Nat) : (rawL l k).length ≤ 1 + 2 * k := by
  induction k with
  | zero => simp [rawL]
  | succ k ih =>
    rw [rawL_succ, List.length_append]
    have := rawL1_len l k
    omega
theorem tidy_leaders {l : List InsV} (hl : 0 < l.length) : tidyV (rawL l l.length) = leadI l := by
  refine rise_uniq (tidy_rise _) (leadI_rise l) fun x => ?_
  rw [tidy_mem, leadI_mem]
  unfold rawL
  rw [List.mem_cons, List.mem_flatMap]
  constructor
  · rintro (rfl | ⟨n, hn, hx⟩)
    · exact ⟨0, rfl, hl, lead_iff.2 (.inl rfl)⟩
    · have hn : n < l.length := by simpa using hn
      unfold rawL1 at hx
      rcases List.mem_append.1 hx with hx | hx
      · split at hx
        · simp only [List.mem_singleton] at hx
          subst hx
          rename_i h0
          have h1 := goal_lt (l := l) (n := n)
          refine ⟨(goalV (placesV l 0) (l.getD n .zero)).toNat, by omega, by omega, lead_iff.2 (.inr ⟨n, hn, .inl (by omega)⟩)⟩
        · simp at hx
      · split at hx
        · simp only [List.mem_singleton] at hx
          subst hx
          rename_i h0
          exact ⟨n + 1, by omega, h0.2, lead_iff.2 (.inr ⟨n, hn, .inr ⟨h0.1, rfl⟩⟩)⟩
        · simp at hx
  · rintro ⟨i, rfl, hi, hlead⟩
    rcases lead_iff.1 hlead with rfl | ⟨n, hn, h | ⟨h, rfl⟩⟩
    · exact .inl rfl
    · refine .inr ⟨n, by simpa using hn, ?_⟩
      unfold rawL1
      rw [if_pos (show 0 ≤ goalV (placesV l 0) (l.getD n .zero) by omega), h]
      simp
    · refine .inr ⟨n, by simpa using hn, ?_⟩
      unfold rawL1
      rw [if_pos (show (0 ≤ goalV (placesV l 0) (l.getD n .zero) ∨ flsV (l.getD n .zero) = false) ∧ n + 1 < l.length from ⟨h, hi⟩)]
      simp
/-- Where the blocks end. -/
def endsV (l : List InsV) : List Int := (leadI l).drop 1 ++ [(l.length : Int)]
def idxV (l : List InsV) (x : Int) : Int := ((leadI l).countP (· < x) : Nat)
def fromV (l : List InsV) (j : Nat) : Int := (leadI l).getD j 0
def toV (l : List InsV) (j : Nat) : Int := (endsV l).getD j 0
def behindV (l : List InsV) (j : Nat) : List Int := (nextV l ((toV l j).toNat - 1)).map (idxV l)
theorem leadI_length (l : List InsV) : (leadI l).length ≤ l.length := by
  have : (leadersV l).length ≤ (List.range l.length).length := List.length_filter_le _ _
  simpa [leadI] using this
theorem leadI_cons {l : List InsV} (hl : 0 < l.length) : ∃ r, leadI l = 0 :: r := by
  obtain ⟨n, hn⟩ : ∃ n, l.length = n + 1 := ⟨l.length - 1, by omega⟩
  unfold leadI leadersV
  rw [hn, List.range_succ_eq_map, List.filter_cons_of_pos (lead_iff.2 (.inl rfl))]
  exact ⟨_, rfl⟩
theorem ends_length {l : List InsV} (hl : 0 < l.length) : (endsV l).length = (leadI l).length := by
  obtain ⟨r, hr⟩ := leadI_cons hl
  simp [endsV, hr]
theorem to_last {l : List InsV} (hl : 0 < l.length) : toV l ((leadI l).length - 1) = l.length := by
  obtain ⟨r, hr⟩ := leadI_cons hl
  simp [toV, endsV, hr, List.getD]
theorem to_from {l : List InsV} (hl : 0 < l.length) {j : Nat} (hj : j + 1 < (leadI l).length) : toV l j = fromV l (j + 1) := by
  obtain ⟨r, hr⟩ := leadI_cons hl
  rw [hr] at hj
  simp only [List.length_cons] at hj
  unfold toV fromV endsV
  rw [hr]
  simp only [List.drop_succ_cons, List.drop_zero, List.getD, List.getElem?_cons_succ]
  rw [List.getElem?_append_left (by omega)]
theorem from_zero {l : List InsV} (hl : 0 < l.length) : fromV l 0 = 0 := by
  obtain ⟨r, hr⟩ := leadI_cons hl
  simp [fromV, hr]
theorem from_mem {l : List InsV} {j : Nat} (hj : j < (leadI l).length) : ∃ i : Nat, fromV l j = i ∧ i < l.length ∧ leadB l i = true := by
  have : fromV l j ∈ leadI l := by
    unfold fromV
    simp [List.getD, List.getElem?_eq_getElem hj]
  exact leadI_mem.1 this
theorem from_rise {l : List InsV} {i j : Nat} (hij : i < j) (hj : j < (leadI l).length) : fromV l i < fromV l j := by
  have := List.pairwise_iff_getElem.1 (leadI_rise l) i j (by omega) hj hij
  simpa [fromV, List.getD, List.getElem?_eq_getElem hj, List.getElem?_eq_getElem (show i < (leadI l).length by omega)] using this
theorem to_bd {l : List InsV} (hl : 0 < l.length) {j : Nat} (hj : j < (leadI l).length) : fromV l j < toV l j ∧ toV l j ≤ l.length ∧ 0 ≤ fromV l j := by
  obtain ⟨i, h1, h2, _⟩ := from_mem hj
  rcases Nat.lt_or_ge (j + 1) (leadI l).length with h | h
  · rw [to_from hl h]
    obtain ⟨i', h1', h2', _⟩ := from_mem h
    have := from_rise (l := l) (show j < j + 1 by omega) h
    omega
  · have : j = (leadI l).length - 1 := by omega
    have e := to_last hl
    rw [← this] at e
    omega
/-- A leader's number among the leaders. -/
theorem count_rise : ∀ {xs : List Int} {j : Nat}, xs.Pairwise (· < ·) → j < xs.length → xs.countP (· < xs.getD j 0) = j
  | [], j, _, hj => absurd hj (by simp)
  | x :: xs, 0, h, _ => by
    rw [List.pairwise_cons] at h
    have h0 : xs.countP (· < x) = 0 := by
      rw [List.countP_eq_zero]
      intro y hy
      have := h.1 y hy
      simp; omega
    simpa [List.countP_cons] using h0
  | x :: xs, j + 1, h, hj => by
    rw [List.pairwise_cons] at h
    have hj' : j < xs.length := by simpa using hj
    have h1 := count_rise h.2 hj'
    have hx : x < xs.getD j 0 := h.1 _ (by simp [List.getD, List.getElem?_eq_getElem hj'])
    rw [List.getD_cons_succ, List.countP_cons, h1, if_pos (decide_eq_true hx)]
theorem idx_from {l : List InsV} {x : Int} (h : x ∈ leadI l) : ∃ j : Nat, idxV l x = j ∧ j < (leadI l).length ∧ fromV l j = x := by
  obtain ⟨j, hj, rfl⟩ := List.getElem_of_mem h
  have e : (leadI l).getD j 0 = (leadI l)[j] := by simp [List.getD, List.getElem?_eq_getElem hj]
  refine ⟨j, ?_, hj, e⟩
  have := count_rise (leadI_rise l) hj
  rw [e] at this
  unfold idxV
  rw [this]
/-- Within a block just the next one comes behind. -/
theorem block_in {l : List InsV} (h : Good10 l) {j k : Nat} (hj : j < (leadI l).length) (h1 : fromV l j ≤ k) (h2 : (k : Int) + 1 < toV l j) : nextV l k = [(k : Int) + 1] := by
  have hb := to_bd h.pos hj
  have hk : k + 1 < l.length := by omega
  have hnot : leadB l (k + 1) ≠ true := by
    intro hc
    have hm : ((k : Int) + 1) ∈ leadI l := leadI_mem.2 ⟨k + 1, by omega, hk, hc⟩
    obtain ⟨i, _, hi, he⟩ := idx_from hm
    rcases Nat.lt_or_ge j i with h3 | h3
    · rcases Nat.lt_or_ge (j + 1) i with h4 | h4
      · have := from_rise (l := l) h4 hi
        have := to_from h.pos (show j + 1 < (leadI l).length by omega)
        omega
      · have : i = j + 1 := by omega
        subst this
        have := to_from h.pos hi
        omega
    · rcases Nat.lt_or_ge i j with h4 | h4
      · have := from_rise (l := l) h4 hj
        omega
      · have : i = j := by omega
        subst this
        omega
  have hn : ¬ (0 ≤ goalV (placesV l 0) (l.getD k .zero) ∨ flsV (l.getD k .zero) = false) := fun hc => hnot (lead_iff.2 (.inr ⟨k, by omega, .inr ⟨hc, rfl⟩⟩))
  have hf : flsV (l.getD k .zero) = true := by
    cases hff : flsV (l.getD k .zero) with
    | true => rfl
    | false => exact absurd (.inr hff) hn
  unfold nextV nxV
  rw [hf, if_pos rfl, if_pos (by omega)]
/-- Only leaders come behind a block's last one. -/
theorem block_last {l : List InsV} (h : Good10 l) {j : Nat} (hj : j < (leadI l).length) : ∀ x ∈ nextV l ((toV l j).toNat - 1), x ∈ leadI l := by
  intro x hx
  have hb := to_bd h.pos hj
  rw [leadI_mem]
  rcases nxV_mem.1 hx with ⟨hf, rfl⟩ | ⟨h0, rfl⟩
  · have hfl := h.fall (n := (toV l j).toNat - 1) (by omega) hf
    have hj1 : j + 1 < (leadI l).length := by
      rcases Nat.lt_or_ge (j + 1) (leadI l).length with h3 | h3
      · exact h3
      · have : j = (leadI l).length - 1 := by omega
        have e := to_last h.pos
        rw [← this] at e
        omega
    obtain ⟨i, h1, h2, h3⟩ := from_mem hj1
    rw [← to_from h.pos hj1] at h1
    exact ⟨i, by omega, h2, h3⟩
  · have := goal_lt (l := l) (n := (toV l j).toNat - 1)
    exact ⟨(goalV (placesV l 0) (l.getD ((toV l j).toNat - 1) .zero)).toNat, by omega, by omega, lead_iff.2 (.inr ⟨(toV l j).toNat - 1, by omega, .inl (by omega)⟩)⟩
end Go.Proofs.YtgoedemibdkpdaaGreat
