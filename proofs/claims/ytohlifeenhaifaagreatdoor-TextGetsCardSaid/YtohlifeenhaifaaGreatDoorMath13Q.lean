/- Of a text and of what is read: bytes, places, what is put again. Plain mathematics. -/
import Derived.Test.YtohlifeenhaifaaGreatDoorS27
namespace Go.Proofs.YtohlifeenhaifaaGreatDoor
set_option linter.unusedVariables false
set_option linter.unusedSimpArgs false

def InB (l : List Int) : Prop := ∀ c ∈ l, 0 ≤ c ∧ c < 256
theorem InB.app {a b : List Int} (ha : InB a) (hb : InB b) : InB (a ++ b) := fun c hc => by
  rcases List.mem_append.1 hc with h | h
  · exact ha c h
  · exact hb c h
theorem InB.cons {x : Int} {b : List Int} (hx : 0 ≤ x ∧ x < 256) (hb : InB b) : InB (x :: b) := fun c hc => by
  rcases List.mem_cons.1 hc with rfl | h
  · exact hx
  · exact hb c h
theorem num_in (x : Int) : InB (numL x) := by
  have hd : ∀ n : Nat, InB (digL n) := fun n c hc => by
    have h := (dig_facts n).2.1 c hc
    unfold isDig at h
    have := of_decide_eq_true h
    omega
  unfold numL
  split
  · exact InB.cons (by omega) (hd _)
  · exact hd _
theorem join_in : ∀ (l : List (List Int)), (∀ w ∈ l, InB w) → InB (joinW l)
  | [], _ => fun c hc => by simp [joinW] at hc
  | [w], h => by
    have := h w (List.mem_cons_self ..)
    simpa [joinW] using this
  | w :: v :: ls, h => by
    have h1 := h w (List.mem_cons_self ..)
    have h2 := join_in (v :: ls) (fun u hu => h u (List.mem_cons_of_mem _ hu))
    simp only [joinW]
    exact h1.app (InB.cons (by omega) h2)
theorem nums_in (l : List Int) : ∀ w ∈ l.map numL, InB w := fun w hw => by
  obtain ⟨x, _, rfl⟩ := List.mem_map.1 hw
  exact num_in x
theorem insLn_in (y : InsV) : InB (insLn y) := by
  unfold insLn insW
  refine InB.cons (by omega) (InB.cons (by omega) (join_in _ fun w hw => ?_))
  rcases List.mem_cons.1 hw with rfl | hw
  · exact letters_bd _
  · exact nums_in _ w hw
theorem textM_in (m : ModV) : InB (textM m) := by
  intro c hc
  unfold textM textOf at hc
  obtain ⟨l, hl, hc⟩ := List.mem_flatMap.1 hc
  have hin : InB l := by
    unfold linesM at hl
    rcases List.mem_append.1 hl with hl | hl
    · obtain ⟨d, _, rfl⟩ := List.mem_map.1 hl
      refine join_in _ fun w hw => ?_
      rcases List.mem_cons.1 hw with rfl | hw
      · unfold InB bytesW; decide
      · exact nums_in _ w hw
    · obtain ⟨f, _, hl⟩ := List.mem_flatMap.1 hl
      unfold funLn at hl
      rcases List.mem_cons.1 hl with rfl | hl
      · refine join_in _ fun w hw => ?_
        simp only [List.mem_cons, List.mem_nil_iff, or_false] at hw
        rcases hw with rfl | rfl | rfl | rfl
        · unfold InB funcW; decide
        · exact num_in _
        · exact num_in _
        · exact num_in _
      · obtain ⟨y, _, rfl⟩ := List.mem_map.1 hl
        exact insLn_in y
  rcases List.mem_append.1 hc with h | h
  · exact hin c h
  · simp at h; omega
theorem letters_text (m : ModV) : lettersOf (strOfNums (textM m)) = textM m := letters_str (textM_in m)
/-- Where a line is wrong lies in the text. -/
theorem run_at : ∀ (ls : List (List Int)) (m : ModV) (at' : Nat), (runL m at' ls).2.1 ≠ 0 → (runL m at' ls).2.2 + 1 ≤ at' + wideW ls
  | [], m, at', h => by simp [runL] at h
  | l :: ls, m, at', h => by
    rw [wideW_cons]
    simp only [runL] at h ⊢
    split at h
    · rename_i h1
      rw [if_pos h1]
      have := run_at ls _ _ h
      omega
    · rename_i h1
      rw [if_neg h1]
      split at h
      · rename_i h2
        rw [if_pos h2]
        have := run_at ls _ _ h
        omega
      · rename_i h2
        rw [if_neg h2]
        show at' + 1 ≤ _
        omega
theorem got13_bad {s : List Int} {er at' : Int} {md : ModV} (hs : s.length ≤ 400000) (h : got13 s = ⟨er, at', md⟩) (he : er ≠ 0) : md = ⟨[], []⟩ ∧ 0 ≤ at' ∧ at' ≤ s.length := by
  unfold got13 getM13 at h
  rw [if_neg (by omega)] at h
  have hr := run_at (linesOf s) ⟨[], []⟩ 0
  rw [lines_wide] at hr
  split at h
  · rename_i h1
    have h2 := hr h1
    simp only [MGot.mk.injEq] at h
    obtain ⟨_, rfl, rfl⟩ := h
    exact ⟨rfl, by omega, by omega⟩
  · split at h
    · simp only [MGot.mk.injEq] at h
      obtain ⟨_, rfl, rfl⟩ := h
      exact ⟨rfl, by simp, by simp⟩
    · simp only [MGot.mk.injEq] at h
      exact absurd h.1.symm he
theorem got13_good {s : List Int} {at' : Int} {md : ModV} (hs : s.length ≤ 400000) (h : got13 s = ⟨0, at', md⟩) : md.err = 0 ∧ getM13 s = (md, 0, 0) := by
  unfold got13 at h
  simp only [MGot.mk.injEq] at h
  obtain ⟨h1, h2, rfl⟩ := h
  unfold getM13 at h1 ⊢
  rw [if_neg (by omega)] at h1 ⊢
  split at h1
  · rename_i h3
    exact absurd h1 h3
  · rename_i h3
    rw [if_neg h3]
    split at h1
    · rename_i h4
      exact absurd h1 h4
    · rename_i h4
      rw [if_neg h4]
      exact ⟨by simpa using h4, rfl⟩
theorem again_few {s : List Int} {x : ModV} (hs : s.length ≤ 50000) (h : getM13 s = (x, 0, 0)) (hx : x.err = 0) : (textM x).length ≤ 400000 := by
  unfold getM13 at h
  rw [if_neg (by omega)] at h
  generalize hr : runL ⟨[], []⟩ 0 (linesOf s) = r at h
  obtain ⟨m', e, a2⟩ := r
  simp only at h
  by_cases he : e ≠ 0
  · rw [if_pos he] at h
    simp only [Prod.mk.injEq] at h
    exact absurd h.2.1 he
  · rw [if_neg he] at h
    have he' : e = 0 := by omega
    subst he'
    by_cases hm : m'.err ≠ 0
    · rw [if_pos hm] at h
      simp only [Prod.mk.injEq] at h
      exact absurd h.2.1 hm
    · rw [if_neg hm] at h
      simp only [Prod.mk.injEq, and_true] at h
      subst h
      obtain ⟨g1, g2⟩ := run_good _ _ _ _ _ hr ⟨by simp, by simp⟩
      rw [lines_wide] at g2
      have h0 : costM ⟨[], []⟩ = 0 := rfl
      have := text_cost m'
      omega
/-- What is read of a text that was put of what was read. -/
theorem got13_again {s : List Int} {at' : Int} {md : ModV} (hs : s.length ≤ 50000) (h : got13 s = ⟨0, at', md⟩) : got13 (textM md) = ⟨0, 0, md⟩ ∧ (textM md).length ≤ 400000 ∧ md.err = 0 := by
  obtain ⟨h1, h2⟩ := got13_good (by omega) h
  refine ⟨?_, again_few hs h2 h1, h1⟩
  unfold got13
  rw [get_again hs h2 h1]
  rfl
theorem got13_text {m : ModV} (he : m.err = 0) (hd : ∀ x ∈ m.data, 0 ≤ x ∧ x < 256) (hf : ∀ f ∈ m.funcs, Fun13 f) (hl : (textM m).length ≤ 400000) : got13 (textM m) = ⟨0, 0, m⟩ := by
  unfold got13
  rw [get_text he hd hf hl]
  rfl
end Go.Proofs.YtohlifeenhaifaaGreatDoor
