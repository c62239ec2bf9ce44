import Derived.Test.YtkfdgpgildanbaaGreatSp15V
namespace Go.Proofs.YtkfdgpgildanbaaGreat
open Go.RowKit Go.Shelf
set_option linter.unusedVariables false
set_option linter.unusedSimpArgs false
theorem actS_keep (S : SpV) (A : ActS) : (S.actS A).m = S.m ∧ (S.actS A).size = S.size ∧ (S.actS A).done.length ≤ S.done.length + 1 := by
  unfold SpV.actS
  (repeat' split) <;> simp only [SpV.setS, SpV.goS, SpV.burnS, SpV.callS, SpV.retS, SpV.stopS, SpV.getbS, SpV.putbS, SpV.memS, SpV.backS] <;> (repeat' split) <;> simp
theorem act_at15 {w : World} {LA : Option Addr} {lc ln : Nat} {l : List ActS} (h : IsActS w w.heap.size (.slice LA ln lc) l) (hn : ln = l.length) {i : Nat} (hi : i < ln) :
    ∃ b off, LA = some ⟨b, off, none⟩ ∧ ln ≤ lc ∧ b < w.heap.size ∧ ∃ K R N B V X n c xs E C, l.getD i .zero = ⟨K, R, N, B, V, .slice X n c, xs, E, C⟩ ∧ (l.getD i .zero).ok w w.heap.size ∧
      ∀ W, Below w.heap.size w W → W.cell? ⟨b, off + i * 8, none⟩ = some (.int .i64 K) ∧ W.cell? ⟨b, off + i * 8 + 1, none⟩ = some (.int .i64 R) ∧ W.cell? ⟨b, off + i * 8 + 2, none⟩ = some (.int .i64 N) ∧ W.cell? ⟨b, off + i * 8 + 3, none⟩ = some (.int .i64 B) ∧ W.cell? ⟨b, off + i * 8 + 4, none⟩ = some (.int .u64 V) ∧ W.cell? ⟨b, off + i * 8 + 5, none⟩ = some (.slice X n c) ∧ W.cell? ⟨b, off + i * 8 + 6, none⟩ = some (.int .i64 E) ∧ W.cell? ⟨b, off + i * 8 + 7, none⟩ = some (.int .i64 C) := by
  have hil : i < l.length := by omega
  rcases h.2.2 with ⟨h0, _⟩ | ⟨b, off, cap, h1, h2, h3, h4⟩
  · rw [h0] at hil; cases hil
  · injection h1 with h1 h1' h1''
    subst h1 h1''
    have hok : (l.getD i .zero).ok w w.heap.size := h.2.1 _ (by rw [show l.getD i .zero = l[i] by simp [List.getD, List.getElem?_eq_getElem hil]]; exact List.getElem_mem hil)
    have hc := h4 i hil
    generalize hA : l.getD i .zero = A at *
    obtain ⟨K, R, N, B, V, X, xs, E, C⟩ := A
    obtain ⟨XA, c, hx⟩ := hok.b.len
    simp only at hx
    subst hx
    refine ⟨b, off, rfl, by omega, h3, K, R, N, B, V, XA, _, c, xs, E, C, rfl, hok, fun W hb => ?_⟩
    have hw : ∀ j, j < 8 → W.cell? ⟨b, off + i * 8 + j, none⟩ = some (ActS.cell ⟨K, R, N, B, V, .slice XA xs.length c, xs, E, C⟩ j) := fun j hj => by
      rw [hb.cell (p := ⟨b, off + i * 8 + j, none⟩) h3]
      exact hc j hj
    exact ⟨hw 0 (by decide), hw 1 (by decide), hw 2 (by decide), hw 3 (by decide), hw 4 (by decide), hw 5 (by decide), hw 6 (by decide), hw 7 (by decide)⟩
end Go.Proofs.YtkfdgpgildanbaaGreat
