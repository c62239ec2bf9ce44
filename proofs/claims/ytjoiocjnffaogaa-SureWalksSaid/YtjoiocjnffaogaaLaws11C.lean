/- SureTells: which registers are sure, as the document's own text has it. Contract; the condition is what is named of the landed Masks and Unset (Sure11). -/
import Derived.Test.YtjoiocjnffaogaaLaws11B
namespace Go.Proofs.Ytjoiocjnffaogaa
open Go.RowKit
set_option linter.unusedVariables false
set_option linter.unusedSimpArgs false

def UnsT (l : List InsV) (p i r z : Int) : Prop :=
  (badP p ∧ i = 0 ∧ r = 0 ∧ z = 2) ∨ (¬ badP p ∧ check10 l ≠ 0 ∧ i = 0 ∧ r = 0 ∧ z = check10 l) ∨ (¬ badP p ∧ check10 l = 0 ∧ z = 0 ∧ UnsIs l p.toNat i r)
theorem UnsT.uniq {l : List InsV} {p i r z j s y : Int} (h : UnsT l p i r z) (k : UnsT l p j s y) : i = j ∧ r = s ∧ z = y := by
  rcases h with ⟨hb, rfl, rfl, rfl⟩ | ⟨hb, hc, rfl, rfl, rfl⟩ | ⟨hb, hc, rfl, hu⟩
  · rcases k with ⟨_, rfl, rfl, rfl⟩ | ⟨kb, _⟩ | ⟨kb, _⟩
    · exact ⟨rfl, rfl, rfl⟩
    · exact absurd hb kb
    · exact absurd hb kb
  · rcases k with ⟨kb, _⟩ | ⟨_, _, rfl, rfl, rfl⟩ | ⟨_, kc, _⟩
    · exact absurd kb hb
    · exact ⟨rfl, rfl, rfl⟩
    · exact absurd kc hc
  · rcases k with ⟨kb, _⟩ | ⟨_, kc, _⟩ | ⟨_, _, rfl, ku⟩
    · exact absurd kb hb
    · exact absurd hc kc
    · have := hu.uniq ku
      exact ⟨this.1, this.2, rfl⟩
def UnsU (w : World) (l : List InsV) (p : Int) (e : Ending) (w' : World) : Prop := ∃ i r z, e = .returned (.tuple #[.int .i64 i, .int .i64 r, .int .i64 z]) ∧ UnsT l p i r z ∧ Below w.heap.size w w'
theorem unset_uni {w w' : World} {l : List InsV} {p : Int} {e : Ending} (h : UnsetN w l p e w') : UnsU w l p e w' := by
  obtain ⟨hb, h⟩ := h
  rcases h with ⟨h1, rfl⟩ | ⟨h1, h2, rfl⟩ | ⟨h1, h2, i, r, rfl, hu⟩
  · exact ⟨0, 0, 2, rfl, .inl ⟨h1, rfl, rfl, rfl⟩, hb⟩
  · exact ⟨0, 0, _, rfl, .inr (.inl ⟨h1, h2, rfl, rfl, rfl⟩), hb⟩
  · exact ⟨i, r, 0, rfl, .inr (.inr ⟨h1, h2, rfl, hu⟩), hb⟩
theorem masks_err {l : List InsV} {p : Int} {n : Nat} (h : ¬ (¬ badP p ∧ check10 l = 0)) : ∃ z : Int, z ≠ 0 ∧ ∀ w e w', MasksN w l p n e w' → e = .returned (.tuple #[.slice none 0 0, .int .i64 z]) ∧ Below w.heap.size w w' := by
  by_cases hb : badP p
  · exact ⟨2, by decide, fun w e w' hh => ⟨(hh.2.resolve_right (fun h => by rcases h with h | h <;> exact h.1 hb)).2, hh.1⟩⟩
  · have h0 : check10 l ≠ 0 := fun e => h ⟨hb, e⟩
    exact ⟨check10 l, h0, fun w e w' hh => ⟨((hh.2.resolve_left (fun h => hb h.1)).resolve_right (fun h => h0 h.2.1)).2.2, hh.1⟩⟩
theorem masks_fine {l : List InsV} {p : Int} {n : Nat} (h : ¬ badP p ∧ check10 l = 0) {w w' : World} {e : Ending} (hh : MasksN w l p n e w') :
    Below w.heap.size w w' ∧ ∃ gb, e = .returned (.tuple #[.slice (some ⟨gb, 0, none⟩) n n, .int .i64 0]) ∧ w.heap.size ≤ gb ∧ RowAt w' gb n 33 (wordsU (maskV l p.toNat)) :=
  ⟨hh.1, ((hh.2.resolve_left (fun k => h.1 k.1)).resolve_left (fun k => k.2.1 h.2)).2.2⟩
/-- What SureTells has in memory. -/
structure TlAt (w wr : World) (ga gb n k : Nat) (f : Nat → Nat) : Prop where
  bel : Below w.heap.size w wr
  a : RowAt wr ga n 33 (wordsU fun i => if i < k then 77 else f i)
  b : RowAt wr gb n 33 (wordsU f)
theorem TlAt.step {w wr : World} {ga gb n k : Nat} {f : Nat → Nat} (h : TlAt w wr ga gb n k f) (hg : w.heap.size ≤ ga) (hne : ga ≠ gb) : TlAt w (wr.setCell ⟨ga, k, none⟩ (.int .u64 77)) ga gb n (k + 1) f :=
  ⟨h.bel.setCell (p := ⟨ga, k, none⟩) hg _, (h.a.set k _).congr fun i hi => by
    unfold wordsU
    by_cases e : i = k
    · subst e; rw [if_pos rfl]; dsimp only; rw [if_pos (by omega)]; rfl
    · rw [if_neg e]
      dsimp only
      by_cases e2 : i < k
      · rw [if_pos e2, if_pos (by omega)]
      · rw [if_neg e2, if_neg (by omega)], h.b.but ((But.refl (OneBlock ga) wr).setCell (p := ⟨ga, k, none⟩) (.inl rfl) _) (fun e => hne (by have : gb = ga := e; exact this.symm))⟩
theorem TlAt.drewN {w wr : World} {ga gb n k : Nat} {f : Nat → Nat} (h : TlAt w wr ga gb n k f) (q : Nat) : TlAt w (wr.drewN q) ga gb n k f := ⟨below_drewN h.bel q, h.a.heap rfl, h.b.heap rfl⟩
end Go.Proofs.Ytjoiocjnffaogaa
