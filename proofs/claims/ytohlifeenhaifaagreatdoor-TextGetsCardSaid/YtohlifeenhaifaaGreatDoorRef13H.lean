/- The document's own Get: where a text's lines stand. Plain mathematics. -/
import Derived.Test.YtohlifeenhaifaaGreatDoorRef13G
namespace Go.Proofs.YtohlifeenhaifaaGreatDoor
open Go.RowKit Go.Shelf
set_option linter.unusedVariables false
set_option linter.unusedSimpArgs false

theorem lines_end13 : ∀ (u : List Int), (∀ c ∈ u, c ≠ 10) → linesOf u = [u]
  | [], _ => rfl
  | c :: u, h => by
    have h1 := lines_end13 u (fun d hd => h d (List.mem_cons_of_mem _ hd))
    simp only [linesOf]
    rw [if_neg (h c (List.mem_cons_self ..)), h1]
theorem letters_cut (s : ByteArray) (a e : Nat) : lettersOf (s.extract a e) = ((lettersOf s).drop a).take (e - a) := by
  unfold lettersOf
  rw [ByteArray.data_extract, Array.toList_extract, List.extract_eq_take_drop, List.map_take, List.map_drop]
theorem letters_len13 (s : ByteArray) : (lettersOf s).length = s.size := by unfold lettersOf; simp
/-- The lines that are still to come. -/
def restL (l : List Int) (n a : Nat) : List (List Int) := if a ≤ n then linesOf (l.drop a) else []
theorem cut_mem (s : ByteArray) {a e : Nat} (he : e ≤ s.size) (hp : ∀ j (hj : j < e), a ≤ j → ((s[j]'(by omega)).toNat : Int) ≠ 10) : ∀ c ∈ lettersOf (s.extract a e), c ≠ 10 := by
  intro c hc
  rw [letters_cut] at hc
  obtain ⟨j, hj, rfl⟩ := List.getElem_of_mem hc
  have hl := letters_len13 s
  rw [List.length_take, List.length_drop] at hj
  rw [List.getElem_take, List.getElem_drop]
  have hje : a + j < e := by omega
  have h2 := hp (a + j) hje (by omega)
  have h3 := letters_drop s (k := a + j) (by omega)
  rw [List.drop_eq_getElem_cons (by omega)] at h3
  injection h3 with h3 _
  rw [h3]
  exact h2
theorem rest_line (s : ByteArray) {a e : Nat} (hae : a ≤ e) (he : e ≤ s.size) (hp : ∀ j (hj : j < e), a ≤ j → ((s[j]'(by omega)).toNat : Int) ≠ 10) (hend : ∀ h : e < s.size, (s[e].toNat : Int) = 10) :
    restL (lettersOf s) s.size a = lettersOf (s.extract a e) :: restL (lettersOf s) s.size (e + 1) := by
  have hm := cut_mem s he hp
  have hsplit : (lettersOf s).drop a = lettersOf (s.extract a e) ++ (lettersOf s).drop e := by
    rw [letters_cut]
    conv => lhs; rw [← List.take_append_drop (e - a) ((lettersOf s).drop a), List.drop_drop]
    rw [show a + (e - a) = e by omega]
  unfold restL
  rw [if_pos (show a ≤ s.size by omega), hsplit]
  by_cases h : e < s.size
  · rw [if_pos (show e + 1 ≤ s.size by omega), letters_drop s h, hend h, lines_line _ _ hm]
  · have hl := letters_len13 s
    rw [if_neg (show ¬ e + 1 ≤ s.size by omega), List.drop_eq_nil_of_le (show (lettersOf s).length ≤ e by omega), List.append_nil, lines_end13 _ hm]
theorem rest_done (s : ByteArray) {a : Nat} (h : s.size ≤ a) (m : ModV) (p : Nat) : runL m p (restL (lettersOf s) s.size a) = (m, 0, 0) := by
  unfold restL
  split
  · have hl := letters_len13 s
    rw [List.drop_eq_nil_of_le (by omega)]
    show (if wordsL [] = [] then runL m (p + ([] : List Int).length + 1) [] else _) = _
    rw [if_pos (show wordsL [] = [] from rfl)]
    rfl
  · rfl
end Go.Proofs.YtohlifeenhaifaaGreatDoor
