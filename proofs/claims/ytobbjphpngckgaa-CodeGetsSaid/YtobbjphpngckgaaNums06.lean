/- Slices of numbers: what they are in the model. Plain lemmas; no condition but what each names. -/
import Derived.WalkKit
import Derived.ProofKit
import Derived.Test.YtobbjphpngckgaaBut
import Derived.Test.YtobbjphpngckgaaChecked
namespace Go.Proofs.Ytobbjphpngckgaa
open Go.RowKit
set_option linter.unusedVariables false

/-- A slice of numbers of a kind: nil, or it leads to the numbers xs. -/
def IsNums (K : IntKind) (w : World) (B : Nat) (X : Value) (xs : List Int) : Prop :=
  xs.length ≤ maxLen ∧ ((X = .slice none 0 0 ∧ xs = []) ∨
    ∃ ad cap, X = .slice (some ad) xs.length cap ∧ xs.length ≤ cap ∧ (0 < xs.length → ad.block < B) ∧ ∀ i, i < xs.length → w.cell? (ad.add i) = some (.int K (xs.getD i 0)))
theorem add_block (ad : Addr) (i : Nat) : (ad.add i).block = ad.block := by unfold Addr.add; split <;> rfl
theorem IsNums.of_block {K : IntKind} {w w' : World} {B : Nat} {X : Value} {xs : List Int} (h : IsNums K w B X xs) (hb : ∀ b, b < B → w'.heap[b]? = w.heap[b]?) : IsNums K w' B X xs := by
  refine ⟨h.1, ?_⟩
  rcases h.2 with h0 | ⟨ad, cap, h1, h2, h3, h4⟩
  · exact .inl h0
  · refine .inr ⟨ad, cap, h1, h2, h3, fun i hi => ?_⟩
    rw [World.cell?_of_block (hb (ad.add i).block (by rw [add_block]; exact h3 (by omega)))]
    exact h4 i hi
theorem IsNums.below {K : IntKind} {w w' : World} {B B' : Nat} {X : Value} {xs : List Int} (h : IsNums K w B X xs) (hb : Below B' w w') (hB : B ≤ B') : IsNums K w' B X xs :=
  h.of_block fun b h => hb.block b (Nat.lt_of_lt_of_le h hB)
theorem IsNums.but {K : IntKind} {w w' : World} {B : Nat} {R : Nat → Prop} {X : Value} {xs : List Int} (h : IsNums K w B X xs) (hb : But R w w') (hB : B ≤ w.heap.size) (hr : ∀ k, k < B → ¬ R k) : IsNums K w' B X xs :=
  h.of_block fun b h => hb.block b (by omega) (hr b h)
theorem IsNums.more {K : IntKind} {w : World} {B B' : Nat} {X : Value} {xs : List Int} (h : IsNums K w B X xs) (hB : B ≤ B') : IsNums K w B' X xs := by
  refine ⟨h.1, ?_⟩
  rcases h.2 with h0 | ⟨ad, cap, h1, h2, h3, h4⟩
  · exact .inl h0
  · exact .inr ⟨ad, cap, h1, h2, fun hn => Nat.lt_of_lt_of_le (h3 hn) hB, h4⟩
theorem IsNums.len {K : IntKind} {w : World} {B : Nat} {X : Value} {xs : List Int} (h : IsNums K w B X xs) : ∃ A cap, X = .slice A xs.length cap := by
  rcases h.2 with ⟨h0, rfl⟩ | ⟨ad, cap, h1, _⟩
  · exact ⟨none, 0, h0⟩
  · exact ⟨_, cap, h1⟩
theorem IsNums.plain {K : IntKind} {w : World} {B : Nat} {X : Value} {xs : List Int} (h : IsNums K w B X xs) (hn : 0 < xs.length) :
    ∃ b off cap, X = .slice (some ⟨b, off, none⟩) xs.length cap ∧ xs.length ≤ cap ∧ b < B ∧ ∀ i, i < xs.length → w.cell? ⟨b, off + i, none⟩ = some (.int K (xs.getD i 0)) := by
  rcases h.2 with ⟨_, rfl⟩ | ⟨⟨b, off, spot⟩, cap, h1, h2, h3, h4⟩
  · simp at hn
  · have hspot : spot = none := by simpa [Addr.add] using World.cell?_spot (h4 0 hn)
    subst hspot
    refine ⟨b, off, cap, h1, h2, h3 hn, fun i hi => ?_⟩
    have := h4 i hi
    by_cases h0 : i = 0
    · subst h0
      simpa [Addr.add] using this
    · simpa [Addr.add, h0] using this
theorem IsNums.of_owns {K : IntKind} {w : World} {base B : Nat} {e : TypeId} {Q : Value → Prop} {v : Value} {n : Nat} {xs : List Int} (h : Owns w base e 1 Q v n (xs.map (Value.int K))) (hB : w.heap.size ≤ B) : IsNums K w B v xs := by
  have hn : xs.length = n := by simpa using h.1.1
  subst hn
  rcases h.1.2 with ⟨rfl, h0⟩ | ⟨g, cap, cur, rfl, h1, h2, h3, h4, h5, h6⟩
  · have : xs = [] := List.eq_nil_of_length_eq_zero h0
    subst this
    exact ⟨by simp, .inl ⟨rfl, rfl⟩⟩
  · refine ⟨by omega, .inr ⟨⟨g, 0, none⟩, cap, rfl, h3, fun _ => ?_, fun i hi => ?_⟩⟩
    · have := (h.lt (g := g) (by simp [Value.ownBlock])).2
      show g < B
      omega
    · exact h.1.cells (g := g) rfl i _ (by simp [List.getElem?_eq_getElem hi, List.getD])
def IsNum (K : IntKind) (u : Value) : Prop := ∃ n : Int, u = .int K n
theorem num_cells (K : IntKind) (xs : List Int) : ∀ u ∈ xs.map (Value.int K), IsNum K u := by
  intro u hu
  obtain ⟨x, hx, rfl⟩ := List.mem_map.1 hu
  exact ⟨x, rfl⟩
theorem zero_num (K : IntKind) : ∀ u ∈ (Value.int K 0).cells.toList, IsNum K u := by
  intro u hu
  simp [Value.cells] at hu
  subst hu
  exact ⟨0, rfl⟩
theorem int_info : (Try.prog.info? 3).map (fun i => (i.zero, i.size, i.bytes)) = some (some (.int .i64 0), 1, 8) := by kernel_rfl
theorem IsNums.of_row {K : IntKind} {w : World} {b B cap : Nat} {xs : List Int} {t : TypeId} (h : w.heap[b]? = some (.cells (xs.map (Value.int K)).toArray t (0, 0))) (hB : b < B) (hm : xs.length ≤ maxLen) (hc : xs.length ≤ cap) : IsNums K w B (.slice (some ⟨b, 0, none⟩) xs.length cap) xs := by
  refine ⟨hm, .inr ⟨_, cap, rfl, hc, fun _ => hB, fun i hi => ?_⟩⟩
  have e : (⟨b, 0, none⟩ : Addr).add i = ⟨b, i, none⟩ := by unfold Addr.add; split <;> simp_all
  rw [e]
  simp [World.cell?, h, List.getElem?_eq_getElem hi, List.getD]
end Go.Proofs.Ytobbjphpngckgaa
