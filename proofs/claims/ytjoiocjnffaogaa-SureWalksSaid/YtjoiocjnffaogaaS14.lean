/- Lemmas of RefPG07, Ref07A, Ref07B, Ref07J, Kit07B, each with its own remark. -/
import Derived.Test.YtjoiocjnffaogaaS01
import Derived.Test.YtjoiocjnffaogaaS08
import Derived.Test.YtjoiocjnffaogaaS05
import Derived.Deep.RegionHeld3
import Derived.Test.YtjoiocjnffaogaaS09
/- (RefPG07) The document's own Put and Get of words: contracts for all numbers, sizes and slices of bytes. -/
namespace Go.Proofs.Ytjoiocjnffaogaa
open Go.RowKit
set_option linter.unusedVariables false

theorem byteV_down (a : Int) (k : Nat) : a / 256 ^ k / 256 = a / 256 ^ (k + 1) := by
  rw [Int.pow_succ, Int.ediv_mul_of_nonneg (by have : (0 : Int) < 256 ^ k := Int.pow_pos (by omega); omega)]
theorem down_bd {a : Int} (ha : 0 ≤ a) (k : Nat) : 0 ≤ a / 256 ^ k ∧ a / 256 ^ k ≤ a := ediv_bd ha (Int.pow_pos (by omega))
end Go.Proofs.Ytjoiocjnffaogaa

/- (Ref07A) The document's own width, register, field, fault of layer 7. Contracts; no condition but that a register's number is one of three. -/
namespace Go.Proofs.Ytjoiocjnffaogaa
open Go.RowKit Go.Shelf
set_option linter.unusedVariables false
set_option linter.unusedSimpArgs false

def rwidthV (q : Int) : Nat := if q = 108 then 0 else widthV q
def FaultDone (w : World) (z k : Int) (e : Ending) (w' : World) : Prop := e = .returned (.tuple #[.agg (insCells 0 0 0 0 0 (.slice none 0 0)), .int .i64 0, .agg #[.int .i64 z, .int .i64 k]]) ∧ Below w.heap.size w w'
/-- A byte that is laid in a new row. -/
theorem outB_one {w W : World} {x : Int} (h : Below w.heap.size w W) (hx : 0 ≤ x ∧ x < 256) : OutB w (W.alloc (.cells #[.int .u8 x] 5)) (.slice (some ⟨W.heap.size, 0, none⟩) 1 1) [x] := by
  refine ⟨⟨⟨by simp, .inr ⟨W.heap.size, 1, _, rfl, h.size, heap_alloc_new W _, Nat.le_refl _, by unfold maxLen; decide, rfl, rfl⟩⟩, fun g cur t fr hg hc => ?_⟩, h.alloc h.size _⟩
  simp [Value.ownBlock] at hg
  subst hg
  rw [heap_alloc_new] at hc
  injection hc with hc
  injection hc with hc _ _
  subst hc
  intro u hu
  simp at hu
  subst hu
  exact ⟨x, hx.1, hx.2, rfl⟩
/-- A byte more, at the operation. -/
theorem wpList_outB1 {w W : World} {ops : Array Oper} {rest : List Oper} {o : Oper} {a : Act} {Q : Exit → Act → World → Prop} (hgd : o.guard = none) (s x : Operand)
    (ho : o.op = .call { callee := .builtin .append, args := #[s, x], argTypes := #[68, 68] }) {V : Value} {xs : List Int} {z : Int} {g : Nat} (hs : a.eval s = V) (hx : a.eval x = .slice (some ⟨g, 0, none⟩) 1 1) (hg : g = W.heap.size) (h : OutB w W V xs)
    (hz : 0 ≤ z ∧ z < 256) (hl : xs.length + 1 ≤ 1000000)
    (hK : ∀ V' W', OutB w W' V' (xs ++ [z]) → (∀ i, i < W.heap.size → some i ≠ V.ownBlock → W'.heap[i]? = W.heap[i]?) → wpList Try.prog ops Q rest (a.put o.dst V') W') :
    wpList Try.prog ops Q (o :: rest) a (W.alloc (.cells #[.int .u8 z] 5)) := by
  subst hg
  have ha : Below W.heap.size W (W.alloc (.cells #[.int .u8 z] 5)) := (Below.refl W.heap.size W).alloc (Nat.le_refl _) _
  have h1 := outB_one (Below.refl W.heap.size W) hz
  refine wpList_outB hgd s x ho hs hx (h.grow ha) (ys := [z]) h1.own (by intro y hy; simp at hy; subst hy; exact hz) (by simp) (by simpa using hl) ?_
  intro V' W' ho' hb'
  exact hK V' W' ho' (fun i hi hn => (hb' i (by simp; omega) hn).trans (ha.block i hi))
end Go.Proofs.Ytjoiocjnffaogaa

/- (Ref07B) The document's own Put and Length of layer 7. Contracts; no condition but that the argument is an instruction in memory. -/
namespace Go.Proofs.Ytjoiocjnffaogaa
open Go.RowKit Go.Shelf
set_option linter.unusedVariables false
set_option linter.unusedSimpArgs false

/-- What the document's own Put knows between two letters. -/
structure RpAt (w wr : World) (op a b c n : Int) (X : Value) (V : Value) (xs : List Int) : Prop where
  box : wr.heap[w.heap.size]? = some (.cells (insCells op a b c n X) 24 (0, 0))
  out : OutB w wr V xs
section
variable {w wr w1 : World} {op a b c n : Int} {X V V' : Value} {xs xs' : List Int}
theorem RpAt.call (h : RpAt w wr op a b c n X V xs) (hb : Below wr.heap.size wr w1) : RpAt w w1 op a b c n X V xs := ⟨(hb.block _ (heap_lt h.box)).trans h.box, h.out.grow hb⟩
theorem RpAt.app (h : RpAt w wr op a b c n X V xs) (ho : OutB w w1 V' xs') (hb : ∀ i, i < wr.heap.size → some i ≠ V.ownBlock → w1.heap[i]? = wr.heap[i]?) : RpAt w w1 op a b c n X V' xs' :=
  ⟨(hb _ (heap_lt h.box) (h.out.own.not_own h.box (fun cur e => by injection e with _ e _; exact absurd e (by decide)))).trans h.box, ho⟩
theorem RpAt.drew (h : RpAt w wr op a b c n X V xs) : RpAt w wr.drew op a b c n X V xs := ⟨h.box, h.out.drew⟩
end
end Go.Proofs.Ytjoiocjnffaogaa

/- (Ref07J) The document's own Join of layer 7. Contract; no condition but that the instructions are few. -/
namespace Go.Proofs.Ytjoiocjnffaogaa
open Go.RowKit Go.Shelf
set_option linter.unusedVariables false
set_option linter.unusedSimpArgs false

end Go.Proofs.Ytjoiocjnffaogaa

/- (Kit07B) Copies of instructions. Contract; no condition but that they are few, of few arguments each. -/
namespace Go.Proofs.Ytjoiocjnffaogaa
open Go.RowKit Go.Shelf
set_option linter.unusedVariables false
set_option linter.unusedSimpArgs false

end Go.Proofs.Ytjoiocjnffaogaa
