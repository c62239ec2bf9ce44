/- The landed settled: masks that are visited again till no path takes any more away. Contract; no condition but that what follows is in rows, and what is written in words. -/
import Derived.Test.YtjoiocjnffaogaaGreatHeap11E
import Derived.Test.YtjoiocjnffaogaaGreatPre11
import Derived.Test.YtjoiocjnffaogaaGreatWrt11
import Derived.BigQuiet
import Derived.Deep.QuietTactic
import Derived.Deep.LoopGhost
namespace Go.Proofs.YtjoiocjnffaogaaGreat
open Go.RowKit Go.Shelf
set_option linter.unusedVariables false
set_option linter.unusedSimpArgs false

theorem common11 (a b : Nat) (ha : a < 18446744073709551616) (hb : b < 18446744073709551616) (w : World) : Calls Tryz.prog 32 #[.int .u64 a, .int .u64 b] w fun e w' => e = .returned (.int .u64 ((a &&& b : Nat) : Int)) ∧ w = w' := by
  have h := u64_and_nat a b ha hb
  generalize (a &&& b) = c at *
  clear ha hb
  go_enter Tryz.func32, Tryz.ntmps32
  go_wp2
  go_ret
  exact ⟨rfl, rfl⟩
theorem and_ne {a b : Nat} (ha : a < 18446744073709551616) (hb : b < 18446744073709551616) (h : (a &&& b) ≠ a) : ∃ r, r < 64 ∧ a.testBit r = true ∧ b.testBit r = false := by
  refine Classical.byContradiction fun hc => h (mask_ext (Nat.lt_of_le_of_lt Nat.and_le_left ha) ha fun r hr => ?_)
  rw [Nat.testBit_and]
  cases h1 : a.testBit r with
  | false => rfl
  | true =>
    cases h2 : b.testBit r with
    | true => rfl
    | false => exact absurd ⟨r, hr, h1, h2⟩ hc
theorem and_eq {a b : Nat} (h : (a &&& b) = a) {r : Nat} (hr : a.testBit r = true) : b.testBit r = true := by
  have := congrArg (fun x => x.testBit r) h
  simp only [Nat.testBit_and, hr, Bool.true_and] at this
  exact this
/-- What settled has in memory. -/
structure SetAt (w w2 wr : World) (mb pb B qb wb n : Nat) (m : Nat → Nat) (V : Value) (Q : List Int) : Prop where
  bel : Below w.heap.size w wr
  row : RowAt wr mb n 30 (wordsU m)
  pre : ∀ b, pb ≤ b → b < B → wr.heap[b]? = w2.heap[b]?
  q : QAt B wr qb wb n V (wf Q) Q
  lo : w.heap.size ≤ mb ∧ mb < pb ∧ pb ≤ B
section
variable {w w2 wr W : World} {mb pb B qb wb n : Nat} {m : Nat → Nat} {V V' : Value} {Q Q' : List Int}
theorem SetAt.queue (h : SetAt w w2 wr mb pb B qb wb n m V Q) (hq : QAt B W qb wb n V' (wf Q') Q') (hb : Below B wr W) : SetAt w w2 W mb pb B qb wb n m V' Q' :=
  ⟨h.bel.trans (hb.mono (by have := h.lo; omega)), h.row.below hb (by have := h.lo; omega), fun b h1 h2 => (hb.block b h2).trans (h.pre b h1 h2), hq, h.lo⟩
theorem SetAt.put (h : SetAt w w2 wr mb pb B qb wb n m V Q) (i v : Nat) : SetAt w w2 (wr.setCell ⟨mb, i, none⟩ (.int .u64 ((v : Nat) : Int))) mb pb B qb wb n (putM m i v) V Q := by
  have hs := (But.refl (OneBlock mb) wr).setCell (p := ⟨mb, i, none⟩) (.inl rfl) (.int .u64 ((v : Nat) : Int))
  have hne : ∀ b, mb < b → (wr.setCell ⟨mb, i, none⟩ (.int .u64 ((v : Nat) : Int))).heap[b]? = wr.heap[b]? := fun b hb => Below.heap_setCell _ _ _ _ (by show b ≠ mb; omega)
  have hlo := h.lo
  refine ⟨h.bel.setCell (p := ⟨mb, i, none⟩) hlo.1 _, (h.row.set i _).congr fun k hk => ?_, fun b h1 h2 => (hne b (by omega)).trans (h.pre b h1 h2), h.q.of_blocks (fun k h1 _ => hne k (by omega)) (by simp [World.setCell]), hlo⟩
  unfold wordsU putM
  by_cases e : k = i <;> simp [e]
theorem SetAt.drewN (h : SetAt w w2 wr mb pb B qb wb n m V Q) (k : Nat) : SetAt w w2 (wr.drewN k) mb pb B qb wb n m V Q :=
  ⟨below_drewN h.bel k, h.row.heap rfl, h.pre, h.q.drewN k, h.lo⟩
theorem SetAt.size (h : SetAt w w2 wr mb pb B qb wb n m V Q) : w.heap.size ≤ wr.heap.size := h.bel.size
end
/-- While the masks of those that one follows are gone through. -/
structure MaskAt (p : Nat) (wx : Nat → Int) (m : Nat → Nat) (z : Nat) (L : List Int) (j v : Nat) : Prop where
  wd : v < 18446744073709551616
  bit : ∀ r, r < 64 → (v.testBit r = true ↔ (z = 0 → r < p) ∧ ∀ k, k < j → (m (L.getD k 0).toNat ||| wmV (wx (L.getD k 0).toNat)).testBit r = true)
theorem MaskAt.start {p : Nat} {wx : Nat → Int} {m : Nat → Nat} {z : Nat} {L : List Int} (hp : p ≤ 8) : MaskAt p wx m z L 0 (if z = 0 then 2 ^ p - 1 else 18446744073709551615) := by
  have h8 : 2 ^ p ≤ 2 ^ 8 := Nat.pow_le_pow_right (by decide) hp
  refine ⟨by split <;> omega, fun r hr => ?_⟩
  by_cases hz : z = 0
  · rw [if_pos hz, Nat.testBit_two_pow_sub_one]
    simp [hz]
  · rw [if_neg hz]
    simp [hz, all_bits hr]
theorem MaskAt.next {p : Nat} {wx : Nat → Int} {m : Nat → Nat} {z j v a : Nat} {L : List Int} (h : MaskAt p wx m z L j v) (ha : L.getD j 0 = (a : Int)) : MaskAt p wx m z L (j + 1) (v &&& (m a ||| wmV (wx a))) := by
  refine ⟨Nat.lt_of_le_of_lt Nat.and_le_left h.wd, fun r hr => ?_⟩
  rw [Nat.testBit_and, Bool.and_eq_true, h.bit r hr]
  constructor
  · rintro ⟨⟨h1, h2⟩, h3⟩
    refine ⟨h1, fun k hk => ?_⟩
    by_cases e : k = j
    · subst e; rw [ha, Int.toNat_natCast]; exact h3
    · exact h2 k (by omega)
  · rintro ⟨h1, h2⟩
    refine ⟨⟨h1, fun k hk => h2 k (by omega)⟩, ?_⟩
    have := h2 j (by omega)
    rwa [ha, Int.toNat_natCast] at this
theorem MaskAt.done {n p : Nat} {nx : Nat → List Int} {wx : Nat → Int} {m : Nat → Nat} {z v : Nat} {L : List Int} (h : MaskAt p wx m z L L.length v) (hm : ∀ a : Int, a ∈ L ↔ ∃ b, b < n ∧ a = (b : Int) ∧ (z : Int) ∈ nx b) : ∀ r, r < 64 → (v.testBit r = true ↔ FB n p nx wx m z r) := by
  intro r hr
  rw [h.bit r hr]
  constructor
  · rintro ⟨h1, h2⟩
    refine ⟨h1, fun a ha hz => ?_⟩
    obtain ⟨k, hk⟩ := List.getElem?_of_mem ((hm a).2 ⟨a, ha, rfl, hz⟩)
    have hl := (List.getElem?_eq_some_iff.1 hk).1
    have := h2 k hl
    rw [show L.getD k 0 = (a : Int) by simp [List.getD, hk], Int.toNat_natCast] at this
    exact this
  · rintro ⟨h1, h2⟩
    refine ⟨h1, fun k hk => ?_⟩
    have hmem : L.getD k 0 ∈ L := by rw [List.getD, List.getElem?_eq_getElem hk]; exact List.getElem_mem hk
    obtain ⟨b, hb, he, hz⟩ := (hm _).1 hmem
    rw [he, Int.toNat_natCast]
    exact h2 b hb hz
theorem repeat_row {w w1 : World} {n : Nat} (h : RepAt w w1 n n (.int .u64 18446744073709551615)) : RowAt w1 w.heap.size n 30 (wordsU fun _ => 18446744073709551615) :=
  ⟨_, h.row, by simp [repL_len (Nat.le_refl n)], fun i hi => by unfold repL wordsU; simp [hi]⟩
def SettledDone (w : World) (n p : Nat) (nx : Nat → List Int) (wx : Nat → Int) (e : Ending) (w' : World) : Prop :=
  ∃ mb m, e = .returned (.slice (some ⟨mb, 0, none⟩) n n) ∧ w.heap.size ≤ mb ∧ RowAt w' mb n 30 (wordsU m) ∧ Below w.heap.size w w' ∧ Fix n p nx wx m []
end Go.Proofs.YtjoiocjnffaogaaGreat
