import Derived.Test.YtkfdgpgildanbaaGreatS08
import Derived.StillTailTactics
import Derived.BigQuiet
import Derived.Deep.QuietTactic
import Derived.Test.YtkfdgpgildanbaaGreatS05
import Derived.Deep.Slices
namespace Go.Proofs.YtkfdgpgildanbaaGreat
open Go.RowKit Go.Shelf
set_option linter.unusedVariables false
set_option linter.unusedSimpArgs false
def sameY (x y : InsV) : Bool := sameV x.op x.a x.b x.c x.n x.args y.op y.a y.b y.c y.n y.args
theorem sameY_iff (x y : InsV) : sameY x y = true ↔ x = y := by
  unfold sameY sameV
  rw [decide_eq_true_iff]
  constructor
  · rintro ⟨h1, h2, h3, h4, h5, h6⟩
    cases x
    cases y
    simp_all
  · rintro rfl
    exact ⟨rfl, rfl, rfl, rfl, rfl, rfl⟩
def sameCV : List InsV → List InsV → Bool
  | [], [] => true
  | x :: l, y :: k => sameY x y && sameCV l k
  | _, _ => false
theorem sameCV_iff : ∀ (l k : List InsV), sameCV l k = true ↔ l = k
  | [], [] => by simp [sameCV]
  | [], y :: k => by simp [sameCV]
  | x :: l, [] => by simp [sameCV]
  | x :: l, y :: k => by simp [sameCV, sameY_iff, sameCV_iff l k]
theorem sameCV_false {l k : List InsV} (h : l ≠ k) : sameCV l k = false := by
  cases hh : sameCV l k
  · rfl
  · exact absurd ((sameCV_iff l k).1 hh) h
theorem take_same {l m : List InsV} {k : Nat} (hl : l.length = m.length) (hk : l.length ≤ k) (h : ∀ i, i < k → l.getD i .zero = m.getD i .zero) : l = m := by
  refine List.ext_getElem hl fun i h1 h2 => ?_
  have := h i (by omega)
  simpa [List.getD, List.getElem?_eq_getElem h1, List.getElem?_eq_getElem h2] using this
end Go.Proofs.YtkfdgpgildanbaaGreat
namespace Go.Proofs.YtkfdgpgildanbaaGreat
open Go.RowKit Go.Shelf
set_option linter.unusedVariables false
set_option linter.unusedSimpArgs false
structure TwoB (w W : World) (x y : InsV) (X1 X2 : Value) : Prop where
  one : W.heap[w.heap.size]? = some (.cells (insCells x.op x.a x.b x.c x.n X1) 115 (0, 0))
  two : W.heap[w.heap.size + 1]? = some (.cells (insCells y.op y.a y.b y.c y.n X2) 115 (0, 0))
  bel : Below w.heap.size w W
theorem TwoB.grow {w W W' : World} {x y : InsV} {X1 X2 : Value} (h : TwoB w W x y X1 X2) (hb : Below W.heap.size W W') : TwoB w W' x y X1 X2 :=
  ⟨(hb.block _ (heap_lt h.one)).trans h.one, (hb.block _ (heap_lt h.two)).trans h.two, h.bel.trans (hb.mono h.bel.size)⟩
end Go.Proofs.YtkfdgpgildanbaaGreat
namespace Go.Proofs.YtkfdgpgildanbaaGreat
open Go.RowKit Go.Shelf
set_option linter.unusedVariables false
set_option linter.unusedSimpArgs false
end Go.Proofs.YtkfdgpgildanbaaGreat
namespace Go.Proofs.YtkfdgpgildanbaaGreat
open Go.RowKit Go.Shelf
set_option linter.unusedVariables false
set_option linter.unusedSimpArgs false
end Go.Proofs.YtkfdgpgildanbaaGreat
namespace Go.Proofs.YtkfdgpgildanbaaGreat
open Go.RowKit Go.ChangeShapes Go.WideShapes
set_option linter.unusedVariables false
theorem list_of7 {α : Type} {n : Nat} (d : α) {Q : Nat → α → Prop} (h : ∀ i, i < n → ∃ A, Q i A) : ∃ l : List α, l.length = n ∧ ∀ i, i < n → Q i (l.getD i d) := by
  induction n with
  | zero => exact ⟨[], rfl, fun i hi => by omega⟩
  | succ n ih =>
    obtain ⟨l, hl, hq⟩ := ih (fun i hi => h i (by omega))
    obtain ⟨A, hA⟩ := h n (by omega)
    refine ⟨l ++ [A], by simp [hl], fun i hi => ?_⟩
    by_cases e : i < n
    · have : (l ++ [A]).getD i d = l.getD i d := by simp [List.getD, List.getElem?_append_left (by omega : i < l.length)]
      rw [this]
      exact hq i e
    · obtain rfl : i = n := by omega
      have : (l ++ [A]).getD i d = A := by simp [List.getD, ← hl]
      rw [this]
      exact hA
theorem add_twice7 (a : Addr) (h : a.spot = none) (i j : Nat) : (a.add i).add j = ⟨a.block, a.off + i + j, none⟩ := by
  obtain ⟨b, o, s⟩ := a
  simp only at h
  subst h
  unfold Addr.add
  split <;> split <;> simp_all [Nat.add_assoc]
section
variable {H : Type} {enc : TypeId × Value → H} {w : World}
set_option maxRecDepth 100000 in
theorem open_code {fuel : Nat} {V : Value} {x : DataW H × List MemPlace} (h : DataW.trod enc Tryz.prog w 0 (fun _ => true) true fuel 110 [V] = some x) : ∃ l, IsCode w w.heap.size V l := by
  have hC : Tryz.prog.cellsOf 115 = 6 := by kernel_rfl
  rcases Go.Deep.open_slice Tryz.underlying110 h with ⟨hcs, _⟩ | ⟨a, len, cap, m, n, D, Pl, hcs, _, hl, hm, hmm, _, hi⟩
  · injection hcs with hcs _
    subst hcs
    exact ⟨[], by simp, by simp, .inl ⟨rfl, none, 0, rfl⟩⟩
  · injection hcs with hcs _
    subst hcs
    obtain rfl : m = cap := by simpa using hmm
    by_cases h0 : len = 0
    · subst h0
      exact ⟨[], by simp, by simp, .inl ⟨rfl, some a, m, rfl⟩⟩
    have hs : a.spot = none := by
      obtain ⟨cs', hc, ht⟩ := hi 0 (by omega)
      obtain ⟨_, hlen, hcell⟩ := World.cells?_some hc
      rw [hC] at hcell hlen
      have h1 := hcell 0 (by omega)
      have e : a.add (0 * 6) = a := by simp [Addr.add]
      rw [e] at h1
      have e2 : a.add 0 = a := by simp [Addr.add]
      rw [e2, List.getElem?_eq_getElem (by omega)] at h1
      exact World.cell?_spot h1
    have hb : a.block < w.heap.size := by
      obtain ⟨cs', hc, ht⟩ := hi 0 (by omega)
      obtain ⟨_, hlen, hcell⟩ := World.cells?_some hc
      rw [hC] at hcell hlen
      have h1 := hcell 0 (by omega)
      rw [List.getElem?_eq_getElem (by omega), add_twice7 a hs] at h1
      exact block_lt_of_cell (a := ⟨a.block, _, none⟩) h1
    have hq : ∀ i, i < len → ∃ y : InsV, InsB y ∧ ∃ X, IsNums .i64 w w.heap.size X y.args ∧ ∀ j, j < 6 → w.cell? ⟨a.block, a.off + i * 6 + j, none⟩ = some (insCell y X j) := by
      intro i hil
      obtain ⟨cs', hc, ht⟩ := hi i (by omega)
      obtain ⟨op, a1, b1, c1, n1, X, args, rfl, hX, hin⟩ := open_ins ht
      obtain ⟨_, hlen, hcell⟩ := World.cells?_some hc
      refine ⟨⟨op, a1, b1, c1, n1, args⟩, ⟨hin.op, hin.a, hin.b, hin.c, hin.n⟩, X, hX, fun j hj => ?_⟩
      have h1 := hcell j (by rw [hC]; exact hj)
      rw [hC, add_twice7 a hs] at h1
      rw [h1]
      exact insList_at ⟨op, a1, b1, c1, n1, args⟩ X hj
    obtain ⟨l, hll, hlq⟩ := list_of7 .zero hq
    refine ⟨l, by omega, fun y hy => ?_, .inr ⟨a.block, a.off, m, ?_, by omega, hb, fun i hi => (hlq i (by omega)).2⟩⟩
    · obtain ⟨i, hi, rfl⟩ := List.getElem_of_mem hy
      have := (hlq i (by omega)).1
      simpa [List.getD, List.getElem?_eq_getElem hi] using this
    · rw [hll]
      obtain ⟨b, o, s⟩ := a
      simp only at hs
      subst hs
      rfl
end
end Go.Proofs.YtkfdgpgildanbaaGreat
