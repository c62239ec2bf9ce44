/- The document's own registers of one letter, Writes and Reads of layer 6. Contracts; no condition but that the argument is an instruction in memory. -/
import Derived.Test.YtjoiocjnffaogaaMath11
import Derived.Test.YtjoiocjnffaogaaS18
namespace Go.Proofs.Ytjoiocjnffaogaa
open Go.RowKit
set_option linter.unusedVariables false
set_option linter.unusedSimpArgs false

/-- A letter is found among one. -/
theorem has_one {S s : ByteArray} {q : Int} {k : Nat} (hS : lettersOf S = [q]) (h : k < s.size) : hasV S (s.extract k (k + 1)) = if (s[k].toNat : Int) = q then 1 else 0 := by
  have e : lettersOf (s.extract k (k + 1)) = [(s[k].toNat : Int)] := by
    have hl : (s.extract k (k + 1)).size = 1 := by simp; omega
    apply List.ext_getElem
    · simp [letters_len, hl]
    · intro i h1 h2
      have hi : i = 0 := by simp [letters_len, hl] at h1; omega
      subst hi
      rw [letters_at _ (by omega), ByteArray.getElem_extract]
      simp
  unfold hasV hasL
  rw [e, hS]
  by_cases hq : (s[k].toNat : Int) = q
  · rw [if_pos hq]; simp [hq]
  · rw [if_neg hq]; simp [hq]
def RegQ (w : World) (xs : List Int) (e : Ending) (w' : World) : Prop := Below w.heap.size w w' ∧ ∃ V, e = .returned V ∧ OutN w.heap.size w' V xs
end Go.Proofs.Ytjoiocjnffaogaa
