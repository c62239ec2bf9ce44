/- Lemmas of Mod08F, Mod08G, each with its own remark. -/
import Derived.Test.YtfdblmjgpoocpaaGreatS10
import Derived.Test.YtfdblmjgpoocpaaGreatS09
import Derived.BigQuiet
import Derived.Deep.QuietTactic
import Derived.Deep.RegionHeld3
/- (Mod08F) The landed module.Put and Same: a module's bytes; whether two modules are equal. Contracts; no condition but that what is handed in lies in memory. -/
namespace Go.Proofs.YtfdblmjgpoocpaaGreat
open Go.RowKit Go.Shelf
set_option linter.unusedVariables false
set_option linter.unusedSimpArgs false

theorem ferr_ok {f : FunV} (h : f.err = 0) : framedV f.params f.regs f.area = true ∧ joinE f.code = 0 ∧ firstC f.regs f.area f.code = 0 := by
  unfold FunV.err at h
  by_cases h1 : framedV f.params f.regs f.area = true
  · rw [if_pos h1] at h
    by_cases h2 : joinE f.code = 0
    · rw [if_pos h2] at h; exact ⟨h1, h2, h⟩
    · rw [if_neg h2] at h; exact absurd h h2
  · rw [if_neg h1] at h; exact absurd h (by decide)
theorem firstF_ok : ∀ {l : List FunV}, firstF l = 0 → ∀ f ∈ l, f.err = 0
  | [], _ => by simp
  | g :: l, h => by
    intro f hf
    simp only [firstF] at h
    by_cases hg : g.err = 0
    · rw [if_pos hg] at h
      rcases List.mem_cons.1 hf with rfl | hf
      · exact hg
      · exact firstF_ok h f hf
    · rw [if_neg hg] at h; exact absurd h hg
theorem merr_ok {data : List Int} {fs : List FunV} (h : (ModV.mk data fs).err = 0) : data.length ≤ 8192 ∧ 1 ≤ fs.length ∧ fs.length ≤ 64 ∧ ∀ f ∈ fs, f.err = 0 := by
  by_cases hd : 8192 < data.length
  · rw [merr_data hd] at h; exact absurd h (by decide)
  · cases hs : someV fs.length
    · rw [merr_some hd hs] at h; exact absurd h (by decide)
    · rw [merr_funs hd hs] at h
      have := of_decide_eq_true hs
      exact ⟨by omega, by omega, by omega, firstF_ok h⟩
theorem few_of {fs : List FunV} (h : ∀ f ∈ fs, f.err = 0) : FewF fs := fun f hf => (first_all (ferr_ok (h f hf)).2.1).2
theorem list_same {α : Type} (d : α) {l m : List α} {k : Nat} (hl : l.length = m.length) (hk : l.length ≤ k) (h : ∀ i, i < k → l.getD i d = m.getD i d) : l = m := by
  refine List.ext_getElem hl fun i h1 h2 => ?_
  have := h i (by omega)
  simpa [List.getD, List.getElem?_eq_getElem h1, List.getElem?_eq_getElem h2] using this
def sameFun (f g : FunV) : Bool := decide (f.params = g.params ∧ f.regs = g.regs ∧ f.area = g.area) && sameCV f.code g.code
theorem sameFun_iff (f g : FunV) : sameFun f g = true ↔ f = g := by
  unfold sameFun
  rw [Bool.and_eq_true, decide_eq_true_iff, sameCV_iff]
  constructor
  · rintro ⟨⟨h1, h2, h3⟩, h4⟩
    cases f
    cases g
    simp_all
  · rintro rfl
    exact ⟨⟨rfl, rfl, rfl⟩, rfl⟩
def sameFL : List FunV → List FunV → Bool
  | [], [] => true
  | x :: l, y :: k => sameFun x y && sameFL l k
  | _, _ => false
theorem sameFL_iff : ∀ (l k : List FunV), sameFL l k = true ↔ l = k
  | [], [] => by simp [sameFL]
  | [], y :: k => by simp [sameFL]
  | x :: l, [] => by simp [sameFL]
  | x :: l, y :: k => by simp [sameFL, sameFun_iff, sameFL_iff l k]
end Go.Proofs.YtfdblmjgpoocpaaGreat

/- (Mod08G) The landed module.Same: whether two modules are equal. Contract; no condition but that they lie in memory and have at most 100,000 functions. -/
namespace Go.Proofs.YtfdblmjgpoocpaaGreat
open Go.RowKit Go.Shelf
set_option linter.unusedVariables false
set_option linter.unusedSimpArgs false

def sameM (m k : ModV) : Bool := (m.data == k.data) && sameFL m.funcs k.funcs
theorem sameM_iff (m k : ModV) : sameM m k = true ↔ m = k := by
  unfold sameM
  rw [Bool.and_eq_true, beq_iff_eq, sameFL_iff]
  constructor
  · rintro ⟨h1, h2⟩
    cases m
    cases k
    simp_all
  · rintro rfl
    exact ⟨rfl, rfl⟩
theorem sameM_refl (m : ModV) : sameM m m = true := (sameM_iff m m).2 rfl
/-- Two modules' boxes. -/
structure TwoM (w W : World) (D F D' F' : Value) : Prop where
  one : W.heap[w.heap.size]? = some (.cells #[D, F] 25 (0, 0))
  two : W.heap[w.heap.size + 1]? = some (.cells #[D', F'] 25 (0, 0))
  bel : Below w.heap.size w W
theorem TwoM.grow {w W W' : World} {D F D' F' : Value} (h : TwoM w W D F D' F') (hb : Below W.heap.size W W') : TwoM w W' D F D' F' :=
  ⟨box_below h.one hb, box_below h.two hb, h.bel.trans (hb.mono h.bel.size)⟩
theorem TwoM.drew {w W : World} {D F D' F' : Value} (h : TwoM w W D F D' F') : TwoM w W.drew D F D' F' := ⟨h.one, h.two, h.bel.drew⟩
theorem twoM_new (w : World) (D F D' F' : Value) : TwoM w ((w.alloc (.cells #[D, F] 25)).alloc (.cells #[D', F'] 25)) D F D' F' := by
  refine ⟨?_, ?_, ((Below.refl _ w).alloc (Nat.le_refl _) _).alloc (by simp) _⟩
  · rw [Below.heap_alloc _ _ _ (by simp)]
    exact heap_alloc_new _ _
  · have := heap_alloc_new (w.alloc (.cells #[D, F] 25)) (.cells #[D', F'] 25)
    rw [World.size_alloc] at this
    exact this
theorem TwoM.cells {w W : World} {D F D' F' : Value} (h : TwoM w W D F D' F') : W.cell? ⟨w.heap.size, 0, none⟩ = some D ∧ W.cell? ⟨w.heap.size, 1, none⟩ = some F ∧ W.cell? ⟨w.heap.size + 1, 0, none⟩ = some D' ∧ W.cell? ⟨w.heap.size + 1, 1, none⟩ = some F' :=
  ⟨(cells2 h.one).1, (cells2 h.one).2, (cells2 h.two).1, (cells2 h.two).2⟩
theorem IsBytes.drewN {w : World} {X : Value} {xs : List Int} (h : IsBytes w w.heap.size X xs) (n : Nat) : IsBytes (w.drewN n) w.heap.size X xs := h.below (below_drewN (Below.refl _ w) n) (Nat.le_refl _)
end Go.Proofs.YtfdblmjgpoocpaaGreat
