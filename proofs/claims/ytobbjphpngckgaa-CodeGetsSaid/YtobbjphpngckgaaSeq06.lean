/- What the body of a loop over an iterator keeps of memory: all cells, but those of one box of the loop's own and of the slice in it. Plain lemmas over any program; no condition but what each names. -/
import Derived.RangeFuncNested
import Derived.RangeFuncBound
import Derived.RangeFuncBox
import Derived.RangeFuncCalls
import Derived.RangeFuncLeaves
import Derived.Shelf.RegionOpen
import Derived.WalkKit
import Derived.OwnWalkIn
import Derived.TacticsInMore
import Derived.LoopNIn
import Derived.LoopIn
import Derived.Lib.OthersKept
import Derived.Test.YtobbjphpngckgaaBut
namespace Go.Proofs.Ytobbjphpngckgaa
open Go.RowKit
set_option linter.unusedVariables false

/-- The blocks that the body may write: the box Ro, and what the slice in it leads to. -/
def InReach (Ro : Nat) (w : World) (b : Nat) : Prop := b = Ro ∨ ∃ o s len cap, w.cell? ⟨Ro, 0, none⟩ = some (.slice (some ⟨b, o, s⟩) len cap)
theorem inReach_same {Ro b : Nat} {A B : World} (h : B.cell? ⟨Ro, 0, none⟩ = A.cell? ⟨Ro, 0, none⟩) (hb : InReach Ro B b) : InReach Ro A b := by
  rcases hb with hb | ⟨o, s, len, cap, hc⟩
  · exact .inl hb
  · exact .inr ⟨o, s, len, cap, by rw [← h]; exact hc⟩
theorem inReach_num {Ro b : Nat} {A : World} {v : Value} (h : A.cell? ⟨Ro, 0, none⟩ = some v) (hv : ∀ a len cap, v ≠ .slice (some a) len cap) (hb : b ≠ Ro) : ¬ InReach Ro A b := by
  rintro (h1 | ⟨o, s, len, cap, hc⟩)
  · exact hb h1
  · rw [h] at hc
    exact hv _ _ _ (Option.some.inj hc)
structure KeepC (Ro : Nat) (A B : World) : Prop where
  size : A.heap.size ≤ B.heap.size
  cells : ∀ (b : Nat) (o : Obj), A.heap[b]? = some o → o.isCells = true → ¬ InReach Ro A b → B.heap[b]? = some o ∧ ¬ InReach Ro B b
  bound : (∀ b, InReach Ro A b → b < A.heap.size) → ∀ b, InReach Ro B b → b < B.heap.size
theorem KeepC.refl (Ro : Nat) (A : World) : KeepC Ro A A := ⟨Nat.le_refl _, fun _ _ h _ hn => ⟨h, hn⟩, fun h => h⟩
theorem KeepC.trans {Ro : Nat} {A B C : World} (h : KeepC Ro A B) (k : KeepC Ro B C) : KeepC Ro A C :=
  ⟨Nat.le_trans h.size k.size, fun b o ho hc hn => have q := h.cells b o ho hc hn; k.cells b o q.1 hc q.2, fun hb => k.bound (h.bound hb)⟩
theorem KeepC.below {Ro : Nat} {A B : World} (h : Below A.heap.size A B) (hR : Ro < A.heap.size) : KeepC Ro A B :=
  ⟨h.size, fun b o ho _ hn => ⟨(h.block b (heap_lt ho)).trans ho, fun hb => hn (inReach_same (h.cell (p := ⟨Ro, 0, none⟩) hR) hb)⟩,
   fun hA b hb => Nat.lt_of_lt_of_le (hA b (inReach_same (h.cell (p := ⟨Ro, 0, none⟩) hR) hb)) h.size⟩
theorem KeepC.turn {Ro : Nat} {A B : World} {row : Option Nat} (h : A.grownBy B row) (hR : Ro < A.heap.size) (hr : some Ro ≠ row) (hw : ∀ r, row = some r → ∃ o : Obj, A.heap[r]? = some o ∧ o.isCells = false) : KeepC Ro A B :=
  ⟨h.size, fun b o ho hc hn => ⟨(h.block b (heap_lt ho) (fun e => by
      obtain ⟨o', ho', hc'⟩ := hw b e.symm
      rw [ho] at ho'; cases ho'; rw [hc] at hc'; cases hc')).trans ho, fun hb => hn (inReach_same (World.cell?_of_block (w := A) (h.block Ro hR hr)) hb)⟩,
   fun hA b hb => Nat.lt_of_lt_of_le (hA b (inReach_same (World.cell?_of_block (w := A) (h.block Ro hR hr)) hb)) h.size⟩
theorem KeepC.cell {Ro : Nat} {A B : World} (h : KeepC Ro A B) {p : Addr} {v : Value} (hv : A.cell? p = some v) (hn : ¬ InReach Ro A p.block) : B.cell? p = some v := by
  obtain ⟨x, hx, hc⟩ := cells_of_cell hv
  have q := h.cells p.block x hx hc hn
  rw [World.cell?_of_block (w := A) (show B.heap[p.block]? = A.heap[p.block]? by rw [q.1]; exact hx.symm)]
  exact hv
theorem KeepC.free {Ro : Nat} {A B : World} (h : KeepC Ro A B) {p : Addr} {v : Value} (hv : A.cell? p = some v) (hn : ¬ InReach Ro A p.block) : ¬ InReach Ro B p.block := by
  obtain ⟨x, hx, hc⟩ := cells_of_cell hv
  exact (h.cells p.block x hx hc hn).2
def KpO (Ro : Nat) (A B : World) : Prop := KeepC Ro A B ∧ KeepsWalks A B
theorem kpO_t {Ro : Nat} {A B C : World} (h : KpO Ro A B) (k : KpO Ro B C) : KpO Ro A C := ⟨h.1.trans k.1, h.2.trans k.2⟩
theorem kpO_b {Ro : Nat} {w : World} (hR : Ro < w.heap.size) (W : World) (l : Nat) (o o' : Obj) (hl : w.heap.size ≤ l) (h : W.heap[l]? = some o) (hc : o.isCells = false) (hw : o.isWalk = false) : KpO Ro W (W.putObj l o') := by
  have hlt := heap_lt h
  exact ⟨KeepC.turn (grownBy_putObj' W l o') (by omega) (by simp; omega) (fun r e => by cases e; exact ⟨o, h, hc⟩), KeepsWalks.putObj _ h hw⟩
theorem kpO_refl (Ro : Nat) (A : World) : KpO Ro A A := ⟨KeepC.refl _ _, KeepsWalks.refl _⟩
theorem grown_of_below {A B : World} (h : Below A.heap.size A B) : A.grownBy B none := ⟨h.os, h.tape, h.output, h.size, fun k hk _ => h.block k hk⟩
theorem grown_iterAt (W : World) (k : Nat) (s : ByteArray) (p : Nat) : W.grownBy (W.iterAt k s p) (some k) :=
  ⟨rfl, rfl, rfl, by rw [Lib.iterAt_size]; exact Nat.le_refl _, fun j _ hj => Lib.iterAt_other W k j s p (fun e => hj (by rw [e]))⟩
/-- A value that leads nowhere. -/
def NoAddr (v : Value) : Prop := ∀ a len cap, v ≠ .slice (some a) len cap
end Go.Proofs.Ytobbjphpngckgaa
