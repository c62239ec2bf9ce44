/- What bytes are split into is joined as these bytes; cut anywhere but at a place, they are not split: plain mathematics, and a choice. -/
import Derived.Test.YtobbjphpngckgaaLaws07D
namespace Go.Proofs.Ytobbjphpngckgaa
open Go.RowKit Go.Shelf
set_option linter.unusedVariables false
set_option linter.unusedSimpArgs false

theorem split_ok {b : List Int} (hb : ∀ x ∈ b, 0 ≤ x ∧ x < 256) : ∀ (f at_ : Nat) (l : List InsV) (ps : List Int), at_ ≤ b.length → b.length + 1 ≤ f + at_ → (splitF b f at_ l ps).err = 0 →
    ∃ m, splitF b f at_ l ps = ⟨0, 0, l ++ m, ps ++ placesV m at_⟩ ∧ firstE m = 0 ∧ b.drop at_ = allB m
  | 0, at_, l, ps, h1, h2, h => by omega
  | f + 1, at_, l, ps, h1, h2, h => by
    by_cases hlt : at_ < b.length
    · by_cases he : (getI b at_).err = 0
      · obtain ⟨g1, g2, g3, g4, g5⟩ := put_get hb h1 he
        rw [split_step hlt he] at h ⊢
        obtain ⟨m, hm, h0, hd⟩ := split_ok hb f _ _ _ g5 (by omega) h
        refine ⟨(getI b at_).y :: m, ?_, ?_, ?_⟩
        · have hlen : at_ + (getI b at_).y.bytes.length = (getI b at_).next := by
            rw [g3, part_len (by omega)]
            omega
          rw [hm]
          simp only [placesV, hlen, List.append_assoc, List.cons_append, List.nil_append]
        · simp only [firstE, if_pos g2]
          exact h0
        · rw [allB_cons, ← hd, g3]
          have := take_parts (b := b) (p := at_) (p1 := (getI b at_).next) (p2 := b.length) (by omega) g5
          have e1 : (b.drop (getI b at_).next).take (b.length - (getI b at_).next) = b.drop (getI b at_).next := List.take_of_length_le (by simp)
          have e2 : (b.drop at_).take (b.length - at_) = b.drop at_ := List.take_of_length_le (by simp)
          rw [e1, e2] at this
          exact this.symm
      · rw [split_stop hlt he] at h
        exact absurd h he
    · obtain rfl : at_ = b.length := by omega
      rw [split_end]
      exact ⟨[], by simp [placesV], rfl, by simp [allB]⟩
theorem split_err {b : List Int} (hb : ∀ x ∈ b, 0 ≤ x ∧ x < 256) : ∀ (f at_ : Nat) (l : List InsV) (ps : List Int), at_ ≤ b.length → (splitF b f at_ l ps).err ≠ 0 → 0 ≤ (splitF b f at_ l ps).at_ ∧ (splitF b f at_ l ps).at_ ≤ b.length
  | 0, at_, l, ps, h1, h => by simp [splitF] at h
  | f + 1, at_, l, ps, h1, h => by
    by_cases hlt : at_ < b.length
    · by_cases he : (getI b at_).err = 0
      · obtain ⟨g1, g2, g3, g4, g5⟩ := put_get hb h1 he
        rw [split_step hlt he] at h ⊢
        exact split_err hb f _ _ _ g5 h
      · rw [split_stop hlt he] at h ⊢
        show 0 ≤ (getI b at_).at_ ∧ (getI b at_).at_ ≤ b.length
        rw [getI_err he]
        split <;> omega
    · obtain rfl : at_ = b.length := by omega
      rw [split_end] at h
      exact absurd rfl h
theorem splitV_ok {b : List Int} (hb : ∀ x ∈ b, 0 ≤ x ∧ x < 256) (h : (splitV b).err = 0) : splitV b = ⟨0, 0, (splitV b).l, placesV (splitV b).l 0⟩ ∧ firstE (splitV b).l = 0 ∧ allB (splitV b).l = b := by
  by_cases hl : 4096 < b.length
  · have : splitV b = ⟨3, 4096, [], []⟩ := by unfold splitV; rw [if_pos hl]
    rw [this] at h
    simp at h
  · have e : splitV b = splitF b (b.length + 1) 0 [] [] := by unfold splitV; rw [if_neg hl]
    rw [e] at h ⊢
    obtain ⟨m, hm, h0, hd⟩ := split_ok hb _ 0 [] [] (Nat.zero_le _) (by omega) h
    rw [hm]
    exact ⟨by simp, by simpa using h0, by simpa using hd.symm⟩
theorem splitV_err {b : List Int} (hb : ∀ x ∈ b, 0 ≤ x ∧ x < 256) (hl : b.length ≤ 4096) (h : (splitV b).err ≠ 0) : 0 ≤ (splitV b).at_ ∧ (splitV b).at_ ≤ b.length := by
  have e : splitV b = splitF b (b.length + 1) 0 [] [] := by unfold splitV; rw [if_neg (by omega)]
  rw [e] at h ⊢
  exact split_err hb _ 0 [] [] (Nat.zero_le _) h
theorem join_ok {l : List InsV} (h0 : firstE l = 0) (hl : (allB l).length ≤ 4096) : joinE l = 0 := by
  unfold joinE
  rw [if_pos h0, if_neg (by omega)]
theorem first_take : ∀ (l : List InsV) (i : Nat), firstE l = 0 → firstE (l.take i) = 0
  | [], i, _ => by simp [firstE]
  | y :: l, 0, _ => by simp [firstE]
  | y :: l, i + 1, h => by
    simp only [List.take_succ_cons, firstE] at h ⊢
    by_cases hy : y.chk = 0
    · rw [if_pos hy] at h ⊢
      exact first_take l i h
    · rw [if_neg hy] at h
      exact absurd h hy
/-- Bytes that begin others: so do the instructions. -/
theorem begin_all : ∀ (m l : List InsV) (rest : List Int), firstE m = 0 → firstE l = 0 → allB l = allB m ++ rest → m = l.take m.length
  | [], l, rest, _, _, _ => by simp
  | y :: m, [], rest, _, _, h => by
    have := congrArg List.length h
    have := bytes_pos y
    simp [allB] at *
    omega
  | y :: m, x :: l, rest, hm, hl, h => by
    have hy : y.chk = 0 := first_at (y :: m) (i := 0) (by simp) hm
    have hx : x.chk = 0 := first_at (x :: l) (i := 0) (by simp) hl
    have hm' : firstE m = 0 := by simpa only [firstE, if_pos hy] using hm
    have hl' : firstE l = 0 := by simpa only [firstE, if_pos hx] using hl
    rw [allB_cons, allB_cons, List.append_assoc] at h
    have g1 := get_put hx (b := x.bytes ++ allB l) (post := allB l) (k := 0) (by simp)
    have g2 := get_put hy (b := x.bytes ++ allB l) (post := allB m ++ rest) (k := 0) (by simpa using h)
    rw [g1] at g2
    injection g2 with _ _ g2 _
    subst g2
    have h3 := List.append_cancel_left h
    have := begin_all m l rest hm' hl' h3
    simp only [List.length_cons, List.take_succ_cons]
    rw [← this]
theorem all_take (l : List InsV) (i : Nat) : allB l = allB (l.take i) ++ allB (l.drop i) := by
  conv => lhs; rw [← List.take_append_drop i l]
  unfold allB
  exact List.flatMap_append
/-- Is the cut at a place, or at the end? -/
def wholeV (n : Nat) (ps : List Int) (c : Int) : Bool := decide (c = n) || ps.any (fun p => p == c)
theorem places_any {l : List InsV} {c : Int} : (placesV l 0).any (fun p => p == c) = true ↔ ∃ i, i < l.length ∧ c = ((allB (l.take i)).length : Nat) := by
  rw [List.any_eq_true]
  constructor
  · rintro ⟨p, hp, he⟩
    obtain ⟨i, hi, rfl⟩ := List.getElem_of_mem hp
    rw [placesV_length] at hi
    have := placesV_at l 0 hi
    simp only [List.getD, List.getElem?_eq_getElem (show i < (placesV l 0).length by rw [placesV_length]; exact hi), Option.getD_some, Nat.zero_add] at this
    exact ⟨i, hi, by rw [← this]; exact (beq_iff_eq.1 he).symm⟩
  · rintro ⟨i, hi, rfl⟩
    have hi' : i < (placesV l 0).length := by rw [placesV_length]; exact hi
    refine ⟨(placesV l 0)[i], List.getElem_mem hi', ?_⟩
    have := placesV_at l 0 hi
    simp only [List.getD, List.getElem?_eq_getElem hi', Option.getD_some, Nat.zero_add] at this
    rw [this]
    simp
/-- Cut at a place, bytes are split into the instructions ahead. -/
theorem cut_whole {l : List InsV} {b : List Int} (h0 : firstE l = 0) (hb : allB l = b) (hl : b.length ≤ 4096) {c : Nat} (hc : c ≤ b.length) :
    (wholeV b.length (placesV l 0) c = true → ∃ i, splitV (b.take c) = ⟨0, 0, l.take i, placesV (l.take i) 0⟩ ∧ i ≤ l.length) := by
  intro h
  unfold wholeV at h
  rw [Bool.or_eq_true, decide_eq_true_iff, places_any] at h
  have : ∃ i, i ≤ l.length ∧ c = (allB (l.take i)).length := by
    rcases h with h | ⟨i, hi, h⟩
    · exact ⟨l.length, Nat.le_refl _, by rw [List.take_length, hb]; omega⟩
    · exact ⟨i, by omega, by omega⟩
  obtain ⟨i, hi, he⟩ := this
  refine ⟨i, ?_, hi⟩
  have e : b.take c = allB (l.take i) := by
    rw [← hb, all_take l i, he, List.take_left]
  rw [e]
  exact split_join (join_ok (first_take l i h0) (by rw [← he]; omega))
theorem cut_not {l : List InsV} {b : List Int} (hbd : ∀ x ∈ b, 0 ≤ x ∧ x < 256) (h0 : firstE l = 0) (hb : allB l = b) (hl : b.length ≤ 4096) {c : Nat} (hc : c ≤ b.length) (h : wholeV b.length (placesV l 0) c = false) : (splitV (b.take c)).err ≠ 0 := by
  intro he
  obtain ⟨h1, h2, h3⟩ := splitV_ok (b := b.take c) (fun x hx => hbd x (List.mem_of_mem_take hx)) he
  have hm := begin_all _ l (b.drop c) h2 h0 (by rw [h3, hb, List.take_append_drop])
  generalize (splitV (b.take c)).l = m at *
  have hcl : c = (allB (l.take m.length)).length := by rw [← hm, h3, List.length_take]; omega
  unfold wholeV at h
  rw [Bool.or_eq_false_iff] at h
  have hn := of_decide_eq_false h.1
  by_cases hml : m.length < l.length
  · have := places_any.2 ⟨m.length, hml, by rw [← hcl]⟩
    rw [h.2] at this
    cases this
  · rw [List.take_of_length_le (by omega), hb] at hcl
    omega
def pickV (x n : Int) : Int := (x.tmod n + n).tmod n
theorem pick_bd {x n : Int} (hn : 0 < n) : 0 ≤ pickV x n ∧ pickV x n < n := by
  unfold pickV
  have h1 : -n < x.tmod n := by
    have := Int.lt_tmod_of_pos x hn
    omega
  have h2 : 0 ≤ x.tmod n + n := by omega
  rw [Int.tmod_eq_emod_of_nonneg h2]
  exact ⟨Int.emod_nonneg _ (by omega), Int.emod_lt_of_pos _ hn⟩
theorem pick_any (x n : Int) (w : World) (hn : 0 < n) (hn' : n ≤ 1000000) (hx : -9223372036854775808 ≤ x) (hx' : x < 9223372036854775808) :
    Calls Try.prog 33 #[.int .i64 x, .int .i64 n] w fun e w' => e = .returned (.int .i64 (pickV x n)) ∧ w = w' := by
  have h1 : -n < x.tmod n := by
    have := Int.lt_tmod_of_pos x hn
    omega
  have h2 : x.tmod n < n := Int.tmod_lt_of_pos x hn
  have e : wrap64 (x.tmod n + n) = x.tmod n + n := by
    generalize x.tmod n = y at h1 h2
    unfold wrap64
    omega
  have E := Lib.hid e
  have n0 : (n == 0) = false := by simpa using (by omega : ¬ n = 0)
  clear e h1 h2
  go_enter Try.func33, Try.ntmps33
  go_wp2
  go_ret
  exact ⟨ret_int (by rw [E.out]; rfl), rfl⟩

end Go.Proofs.Ytobbjphpngckgaa
