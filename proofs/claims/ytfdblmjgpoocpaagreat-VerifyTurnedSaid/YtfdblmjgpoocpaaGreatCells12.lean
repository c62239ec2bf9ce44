/- A copy of a module in which the number of one instruction is set. Plain lemmas; no condition but what each names. -/
import Derived.Test.YtfdblmjgpoocpaaGreatKit08C
import Derived.Test.YtfdblmjgpoocpaaGreatS20
namespace Go.Proofs.YtfdblmjgpoocpaaGreat
open Go.RowKit Go.Shelf
set_option linter.unusedVariables false
set_option linter.unusedSimpArgs false

theorem cellsC_with : ∀ (l : List InsV) (Xs : List Value) {i : Nat} (N : Int), Xs.length = l.length → i < l.length → cellsC (l.set i ((l.getD i .zero).with N)) Xs = (cellsC l Xs).set (i * 6 + 4) (.int .i64 N)
  | [], _, i, _, _, hi => absurd hi (by simp)
  | y :: l, [], _, _, h, _ => absurd h (by simp)
  | y :: l, X :: Xs, 0, N, h, _ => by simp [cellsC, insList, InsV.with]
  | y :: l, X :: Xs, i + 1, N, h, hi => by
    have ih := cellsC_with l Xs (i := i) N (by simpa using h) (by simpa using hi)
    simp only [List.set_cons_succ, cellsC, List.getD_cons_succ]
    rw [ih, List.set_append_right _ _ (by simp [insList]; omega)]
    congr 2
    simp [insList]; omega
theorem set_take12 {α : Type} : ∀ (xs : List α) (m p : Nat) (u : α), (xs.set p u).take m = (xs.take m).set p u
  | [], m, p, u => by simp
  | x :: xs, 0, p, u => by simp
  | x :: xs, m + 1, 0, u => by simp
  | x :: xs, m + 1, p + 1, u => by
    simp only [List.set_cons_succ, List.take_succ_cons]
    rw [set_take12 xs m p u]
/-- A cell of a row of the call's own is set. -/
theorem Owns.set12 {w : World} {base : Nat} {e : TypeId} {size : Nat} {n cap g p : Nat} {xs : List Value} (h : Owns w base e size AnyCell (.slice (some ⟨g, 0, none⟩) n cap) n xs) (u : Value) :
    Owns (w.setCell ⟨g, p, none⟩ u) base e size AnyCell (.slice (some ⟨g, 0, none⟩) n cap) n (xs.set p u) := by
  refine ⟨⟨by rw [List.length_set]; exact h.1.1, ?_⟩, fun _ _ _ _ _ _ _ _ => trivial⟩
  rcases h.1.2 with ⟨h0, _⟩ | ⟨g', cap', cur, he, h1, h2, h3, h4, h5, h6⟩
  · cases h0
  · simp only [Value.slice.injEq, Option.some.injEq, Addr.mk.injEq, and_true, true_and] at he
    obtain ⟨rfl, rfl⟩ := he
    refine .inr ⟨g, cap, cur.setIfInBounds p u, rfl, h1, heap_setCell_same w g p cur _ u h2, h3, h4, by simpa using h5, ?_⟩
    rw [Array.toList_setIfInBounds, set_take12, h6]
theorem with_getD (l : List InsV) {i : Nat} (hi : i < l.length) (N : Int) (j : Nat) : (l.set i ((l.getD i .zero).with N)).getD j .zero = if i = j then (l.getD i .zero).with N else l.getD j .zero := by
  rw [set_getD]
  by_cases e : i = j
  · subst e; rw [if_pos ⟨rfl, hi⟩, if_pos rfl]
  · rw [if_neg (fun h => e h.1), if_neg e]
theorem OwnC.turn {bs g n cap i : Nat} {W : World} {l : List InsV} {Xs : List Value} {N : Int} (h : OwnC bs W (.slice (some ⟨g, 0, none⟩) n cap) l Xs) (hn : n = l.length) (hi : i < l.length) (hN : InI N) :
    OwnC bs (W.setCell ⟨g, i * 6 + 4, none⟩ (.int .i64 N)) (.slice (some ⟨g, 0, none⟩) n cap) (l.set i ((l.getD i .zero).with N)) Xs := by
  have ho := h.own
  rw [← hn] at ho
  have hs := (But.refl (OneBlock g) W).setCell (p := ⟨g, i * 6 + 4, none⟩) (.inl rfl) (.int .i64 N)
  obtain ⟨c2, h2⟩ := ho.typed (g := g) (by simp [Value.ownBlock])
  refine ⟨?_, by rw [List.length_set]; exact h.len, fun y hy => ?_, fun j hj => ?_⟩
  · rw [List.length_set, ← hn, cellsC_with l Xs N h.len hi]
    exact ho.set12 _
  · rcases List.mem_or_eq_of_mem_set hy with h1 | h1
    · exact h.inn _ h1
    · subst h1
      have := h.inn (l.getD i .zero) (by rw [List.getD, List.getElem?_eq_getElem hi]; exact List.getElem_mem hi)
      exact ⟨this.1, this.2, this.3, this.4, hN⟩
  · rw [List.length_set] at hj
    have hx := h.nums j hj
    have hk := hx.but hs (fun g' hg' e => by
      obtain ⟨c1, h1⟩ := hx.typed hg'
      have e' : g' = g := e
      subst e'
      exact absurd (other_type h1 h2) (by decide))
    rw [with_getD l hi]
    split
    · rename_i e; subst e; exact hk
    · exact hk
/-- What setting one number in a copy leaves. -/
theorem turned_mem {W : World} {V : Value} {fs : List FunV} {Cs : List Value} {k i : Nat} (ho : OwnF 41 0 W V fs Cs) (ha : Apart8 Cs) (hk : k < fs.length) (hi : i < (fs.getD k .zero).code.length) (hl : fs.length ≤ 1000) :
    ∃ g cap, Cs.getD k (.slice none 0 0) = .slice (some ⟨g, 0, none⟩) (fs.getD k .zero).code.length cap ∧ (∃ cs, W.heap[g]? = some (.cells cs 37 (0, 0))) ∧ W.cell? ⟨g, i * 6, none⟩ = some (.int .i64 ((fs.getD k .zero).code.getD i .zero).op) ∧
      W.cell? ⟨g, i * 6 + 4, none⟩ = some (.int .i64 ((fs.getD k .zero).code.getD i .zero).n) ∧
      ∀ N, InI N → IsFuns (W.setCell ⟨g, i * 6 + 4, none⟩ (.int .i64 N)) (W.setCell ⟨g, i * 6 + 4, none⟩ (.int .i64 N)).heap.size V (fs.set k ((fs.getD k .zero).turn i N)) := by
  rcases ho.codes k hk with ⟨B, hB, _, hc⟩ | ⟨bs, Xs, hc, hcl⟩
  · obtain ⟨b, off, cap, _, _, hb, _⟩ := hc.plain (by omega)
    omega
  obtain ⟨g, cap, cur, hCe, h1, h2, h3, h4, h5, h6⟩ := hc.own.1.2.resolve_left (fun h => by have := h.2; omega)
  have hce : ∀ j, j < 6 → W.cell? ⟨g, i * 6 + j, none⟩ = some (insCell ((fs.getD k .zero).code.getD i .zero) (Xs.getD i (.slice none 0 0)) j) := fun j hj => by
    have := hc.own.1.cells (g := g) (by rw [hCe]; rfl) (i * 6 + j) _ (cellsC_at _ Xs hc.len hi hj)
    rw [← this]
    congr 1
    unfold Addr.add
    split <;> simp_all
  refine ⟨g, cap, hCe, ⟨_, h2⟩, hce 0 (by omega), hce 4 (by omega), fun N hN => ?_⟩
  have hs := (But.refl (OneBlock g) W).setCell (p := ⟨g, i * 6 + 4, none⟩) (.inl rfl) (.int .i64 N)
  have hF := ho.funs (by omega)
  obtain ⟨g2, cap2, cur2, hVe, v1, v2, v3, v4, v5, v6⟩ := ho.own.1.2.resolve_left (fun h => by have := h.2; omega)
  have hgg : g2 ≠ g := fun e => by subst e; exact absurd (other_type v2 h2) (by decide)
  have hci : (W.setCell ⟨g, i * 6 + 4, none⟩ (.int .i64 N)).heap.size ≤ (W.setCell ⟨g, i * 6 + 4, none⟩ (.int .i64 N)).heap.size := Nat.le_refl _
  have hlk : ∀ j, (fs.set k ((fs.getD k .zero).turn i N)).getD j .zero = if k = j then (fs.getD k .zero).turn i N else fs.getD j .zero := fun j => by
    rw [set_getD]
    by_cases e : k = j
    · subst e; rw [if_pos ⟨rfl, hk⟩, if_pos rfl]
    · rw [if_neg (fun h => e h.1), if_neg e]
  refine ⟨by rw [List.length_set]; exact hF.1, fun f hf => ?_, .inr ⟨g2, 0, cap2, by rw [List.length_set]; exact hVe, by rw [List.length_set]; exact v3, Nat.lt_of_lt_of_le (heap_lt v2) hs.size, fun j hj => ?_⟩⟩
  · rcases List.mem_or_eq_of_mem_set hf with h1 | h1
    · exact hF.2.1 _ h1
    · subst h1
      have := funs_getD hF hk
      exact ⟨this.1, this.2, this.3⟩
  · rw [List.length_set] at hj
    have hcell : ∀ q, q < 4 → (W.setCell ⟨g, i * 6 + 4, none⟩ (.int .i64 N)).cell? ⟨g2, 0 + j * 4 + q, none⟩ = some (funCell (fs.getD j .zero) (Cs.getD j (.slice none 0 0)) q) := fun q hq => by
      rw [hs.cell (p := ⟨g2, 0 + j * 4 + q, none⟩) (heap_lt v2) (show ¬ g2 = g from hgg)]
      have := ho.own.1.cells (g := g2) (by rw [hVe]; rfl) (j * 4 + q) _ (cellsF_at fs Cs ho.len hj hq)
      rw [← this]
      congr 1
      unfold Addr.add
      split <;> simp_all
    refine ⟨Cs.getD j (.slice none 0 0), ?_, fun q hq => ?_⟩
    · rw [hlk]
      split
      · rename_i e
        subst e
        rw [hCe] at hc ⊢
        have := (hc.turn rfl hi hN).code (by rw [List.length_set]; exact hcl)
        exact this
      · rename_i e
        rcases ho.codes j hj with ⟨B, hB, hsz, hcj⟩ | ⟨bj, Xj, hcj, hclj⟩
        · exact (hcj.but hs hsz (fun q hq => by omega)).more (Nat.le_trans hsz hs.size)
        · refine (hcj.but hs (fun q hq e' => ?_) (fun a ha2 q hq e' => ?_)).code hclj
          · have e2 : q = g := e'
            subst e2
            have hgk : (Cs.getD k (.slice none 0 0)).ownBlock = some q := by rw [hCe]; rfl
            rcases Nat.lt_or_gt_of_ne e with h | h
            · exact ha k j h (by rw [ho.len]; exact hj) q hgk hq
            · exact ha j k h (by rw [ho.len]; exact hk) q hq hgk
          · have e2 : q = g := e'
            subst e2
            obtain ⟨c1, t1⟩ := (hcj.nums a ha2).typed hq
            exact absurd (other_type t1 h2) (by decide)
    · rw [hcell q hq, hlk]
      split
      · rename_i e
        subst e
        rcases (show q = 0 ∨ q = 1 ∨ q = 2 ∨ q = 3 by omega) with rfl | rfl | rfl | rfl <;> rfl
      · rfl
end Go.Proofs.YtfdblmjgpoocpaaGreat
