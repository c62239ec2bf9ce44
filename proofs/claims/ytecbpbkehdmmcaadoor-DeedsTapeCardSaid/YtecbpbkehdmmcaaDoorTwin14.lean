/- Two tapes in a call's own memory: what a call of the one leaves; what a row of calls does. Contracts, plain lemmas; no condition but what each names. -/
import Derived.Test.YtecbpbkehdmmcaaDoorLaws14A
namespace Go.Proofs.YtecbpbkehdmmcaaDoor
open Go.RowKit Go.Shelf
set_option linter.unusedVariables false
set_option linter.unusedSimpArgs false

/-- One call: a Get of a number below 0, else a Put. -/
def stepT (s : List Int × List (Int × Int)) (z : Int) : List Int × List (Int × Int) :=
  if z < 0 then (s.1.tail, s.2 ++ [(1, s.1.headD (-1))]) else (s.1, s.2 ++ [(2, z % 256)])
theorem stepT_len (s : List Int × List (Int × Int)) (z : Int) : (stepT s z).2.length = s.2.length + 1 := by unfold stepT; split <;> simp
/-- Such deeds may stand in an outcome. -/
structure InvT (s : List Int × List (Int × Int)) : Prop where
  good : goodL false s.2 = true
  bd : ∀ y ∈ s.1, 0 ≤ y ∧ y < 256
  more : s.1 ≠ [] → ∀ x ∈ s.2, gotN x = false
theorem InvT.step {s : List Int × List (Int × Int)} (h : InvT s) (z : Int) : InvT (stepT s z) := by
  obtain ⟨ys, L⟩ := s
  have hg := h.good
  have hb := h.bd
  have hm := h.more
  simp only at hg hb hm
  unfold stepT
  split
  · cases ys with
    | nil =>
      refine ⟨good_app L false (1, -1) hg (by decide) (fun e => by simp [gotB] at e), by simp, fun e => by simp at e⟩
    | cons y ys =>
      have hy := hb y (List.mem_cons_self ..)
      have hgn : ∀ x ∈ L, gotN x = false := hm (by simp)
      have h1 : okD (1, y) = true := by simp [okD, gotB]; omega
      have h2 : gotN (1, y) = false := by simp [gotN]; omega
      refine ⟨good_app L false (1, y) hg h1 (fun _ => ⟨rfl, hgn⟩), fun x hx => hb x (List.mem_cons_of_mem _ hx), fun _ x hx => ?_⟩
      rcases List.mem_append.1 hx with hx | hx
      · exact hgn x hx
      · simp at hx; subst hx; exact h2
  · have h1 : okD (2, z % 256) = true := by simp [okD, putB]; omega
    refine ⟨good_app L false (2, z % 256) hg h1 (fun e => by simp [gotB] at e), hb, fun e x hx => ?_⟩
    rcases List.mem_append.1 hx with hx | hx
    · exact hm e x hx
    · simp at hx; subst hx; simp [gotN]
theorem InvT.err {s : List Int × List (Int × Int)} (h : InvT s) (hl : s.2.length ≤ 100000) : errO s.2 4 0 = 0 := by
  unfold errO okO
  rw [if_pos]
  rw [h.good]
  simp [hl, okE]
/-- Two tapes, and a row of deeds beside them. -/
structure Tw14 (w W : World) (tb ub : Nat) (s u : List Int × List (Int × Int)) (r : Value) (N : List (Int × Int)) : Prop where
  ex : ∃ X V X' V', Tape14 w.heap.size W tb X V s.1 s.2 ∧ Tape14 w.heap.size W ub X' V' u.1 u.2 ∧ (∀ g, V.ownBlock = some g → V'.ownBlock ≠ some g) ∧
    Owns W w.heap.size 60 2 AnyC14 r N.length (cellsD N) ∧ ∀ g, r.ownBlock = some g → V.ownBlock ≠ some g ∧ V'.ownBlock ≠ some g
  tl : w.heap.size ≤ tb
  ul : w.heap.size ≤ ub
  ne : tb ≠ ub
  bel : Below w.heap.size w W
section
variable {w W W' : World} {tb ub : Nat} {s u s' : List Int × List (Int × Int)} {r : Value} {N : List (Int × Int)}
theorem Tw14.swap (h : Tw14 w W tb ub s u r N) : Tw14 w W ub tb u s r N := by
  obtain ⟨X, V, X', V', h1, h2, h3, h4, h5⟩ := h.ex
  exact ⟨⟨X', V', X, V, h2, h1, fun g e1 e2 => h3 g e2 e1, h4, fun g e => ⟨(h5 g e).2, (h5 g e).1⟩⟩, h.ul, h.tl, h.ne.symm, h.bel⟩
theorem Tw14.grow (h : Tw14 w W tb ub s u r N) (hb : Below W.heap.size W W') : Tw14 w W' tb ub s u r N := by
  obtain ⟨X, V, X', V', h1, h2, h3, h4, h5⟩ := h.ex
  exact ⟨⟨X, V, X', V', h1.grow hb, h2.grow hb, h3, h4.but (But.of_below (R := NoBlock) hb) (fun _ _ h => h), h5⟩, h.tl, h.ul, h.ne, h.bel.trans (hb.mono h.bel.size)⟩
theorem tw_of {v : Value} {X V X' V' : Value} {e : Ending} (h : Tw14 w W tb ub s u r N) (hT : Tape14 w.heap.size W tb X V s.1 s.2) (hR : Tape14 w.heap.size W ub X' V' u.1 u.2) (hd : ∀ g, V.ownBlock = some g → V'.ownBlock ≠ some g)
    (ho : Owns W w.heap.size 60 2 AnyC14 r N.length (cellsD N)) (hr : ∀ g, r.ownBlock = some g → V.ownBlock ≠ some g ∧ V'.ownBlock ≠ some g)
    (hq : TapeDone w.heap.size tb W V v s'.1 s'.2 e W') : e = .returned v ∧ Tw14 w W' tb ub s' u r N := by
  obtain ⟨Y, V2, rfl, hT', hW⟩ := hq
  refine ⟨rfl, ⟨Y, V2, X', V', hT', hR.but hW.but ?_ ?_ ?_, ?_, ho.but hW.but ?_, fun g hg => ⟨?_, (hr g hg).2⟩⟩, h.tl, h.ul, h.ne, But.below h.bel hW.but h.bel.size ?_⟩
  · rintro (e | e)
    · exact h.ne e.symm
    · obtain ⟨_, c, hc⟩ := typed14 hT.done e
      exact types14 hc hR.box (by decide)
  · rintro j c _ hc (rfl | e)
    · exact types14 hc hT.box (by decide)
    · obtain ⟨_, c', hc'⟩ := typed14 hT.done e
      exact types14 hc hc' (by decide)
  · rintro g hg (rfl | e)
    · obtain ⟨_, c, hc⟩ := typed14 hR.done hg
      exact types14 hc hT.box (by decide)
    · exact hd g e hg
  · intro g hg hq
    rcases hW.whr with e | ⟨g', e, hl⟩
    · exact hd g (e ▸ hg) hq
    · rw [e] at hg
      injection hg with hg
      subst hg
      obtain ⟨_, c, hc⟩ := typed14 hR.done hq
      have := heap_lt hc
      omega
  · rintro g hg (rfl | e)
    · obtain ⟨_, c, hc⟩ := typed14 ho hg
      exact types14 hc hT.box (by decide)
    · exact (hr g hg).1 e
  · intro hq
    rcases hW.whr with e | ⟨g', e, hl⟩
    · exact (hr g hg).1 (e ▸ hq)
    · rw [e] at hq
      injection hq with hq
      subst hq
      obtain ⟨_, c, hc⟩ := typed14 ho hg
      have := heap_lt hc
      omega
  · rintro j (rfl | e)
    · exact h.tl
    · exact (typed14 hT.done e).1
theorem tw_put (h : Tw14 w W tb ub s u r N) (hf : s.2.length < 100000) {z : Int} (hz : ¬ z < 0) : Calls Tryd.prog 14 #[.pointer (some ⟨tb, 0, none⟩), .int .i64 z] W fun e W' => e = .returned (.int .i64 0) ∧ Tw14 w W' tb ub (stepT s z) u r N := by
  obtain ⟨X, V, X', V', h1, h2, h3, h4, h5⟩ := h.ex
  have e : stepT s z = (s.1, s.2 ++ [(2, z % 256)]) := by unfold stepT; rw [if_neg hz]
  rw [e]
  exact (put14 h1 h.bel.size hf z).mono fun _ _ hd => tw_of h h1 h2 h3 h4 h5 hd
theorem tw_get (h : Tw14 w W tb ub s u r N) (hf : s.2.length < 100000) {z : Int} (hz : z < 0) : Calls Tryd.prog 16 #[.pointer (some ⟨tb, 0, none⟩)] W fun e W' => (∃ x, e = .returned (.tuple #[.int .i64 x, .int .i64 0])) ∧ Tw14 w W' tb ub (stepT s z) u r N := by
  obtain ⟨X, V, X', V', h1, h2, h3, h4, h5⟩ := h.ex
  have e : stepT s z = (s.1.tail, s.2 ++ [(1, s.1.headD (-1))]) := by unfold stepT; rw [if_pos hz]
  rw [e]
  obtain ⟨ys, L⟩ := s
  cases ys with
  | nil =>
    refine (getEnd14 h1 h.bel.size hf).mono fun _ _ hd => ?_
    obtain ⟨q1, q2⟩ := tw_of (s' := ([], L ++ [(1, -1)])) h h1 h2 h3 h4 h5 hd
    exact ⟨⟨_, q1⟩, q2⟩
  | cons y ys =>
    refine (getMore14 h1 h.bel.size hf).mono fun _ _ hd => ?_
    obtain ⟨q1, q2⟩ := tw_of (s' := (ys, L ++ [(1, y)])) h h1 h2 h3 h4 h5 hd
    exact ⟨⟨_, q1⟩, q2⟩
theorem tw_left (h : Tw14 w W tb ub s u r N) : Calls Tryd.prog 20 #[.pointer (some ⟨tb, 0, none⟩)] W fun e W' => e = .returned (.int .i64 s.1.length) ∧ W = W' := by
  obtain ⟨X, V, X', V', h1, h2, h3, h4, h5⟩ := h.ex
  exact left14 h1
theorem tw_deeds (h : Tw14 w W tb ub s u r N) : Calls Tryd.prog 18 #[.pointer (some ⟨tb, 0, none⟩)] W (DeedsDone W s.2) := by
  obtain ⟨X, V, X', V', h1, h2, h3, h4, h5⟩ := h.ex
  exact deeds14 h1
/-- A row that is told stands beside them. -/
theorem Tw14.row {v : Value} {M : List (Int × Int)} (h : Tw14 w W tb ub s u r N) (ho : Owns W' W.heap.size 60 2 AnyC14 v M.length (cellsD M)) (hb : Below W.heap.size W W') : Tw14 w W' tb ub s u v M := by
  obtain ⟨X, V, X', V', h1, h2, h3, h4, h5⟩ := (h.grow hb).ex
  obtain ⟨X0, V0, X0', V0', k1, k2, -⟩ := h.ex
  have hs := h.bel.size
  have b1 := k1.cells.2.2
  have b2 := k2.cells.2.2
  have a1 := h1.cells.2.2
  have a2 := h2.cells.2.2
  rw [hb.cell (p := ⟨tb, 2, none⟩) k1.lt, b1] at a1
  rw [hb.cell (p := ⟨ub, 2, none⟩) k2.lt, b2] at a2
  injection a1 with a1
  injection a2 with a2
  subst a1 a2
  refine ⟨⟨X, V0, X', V0', h1, h2, h3, ho.base hs, fun g hg => ⟨fun e => ?_, fun e => ?_⟩⟩, h.tl, h.ul, h.ne, h.bel.trans (hb.mono hs)⟩
  · have q1 := (typed14 ho hg).1
    obtain ⟨_, c, hc⟩ := typed14 k1.done e
    have := heap_lt hc
    omega
  · have q1 := (typed14 ho hg).1
    obtain ⟨_, c, hc⟩ := typed14 k2.done e
    have := heap_lt hc
    omega
theorem Tw14.told (h : Tw14 w W tb ub s u r N) : IsDeeds W W.heap.size r N := by
  obtain ⟨X, V, X', V', h1, h2, h3, h4, h5⟩ := h.ex
  exact IsDeeds.of_owns h4 (Nat.le_refl _)
/-- A copy. -/
theorem tw_copy {ys : List Int} {L : List (Int × Int)} (h : Tp14 w W tb ys L) : Calls Tryd.prog 31 #[.pointer (some ⟨tb, 0, none⟩)] W fun e W' => ∃ ub, e = .returned (.pointer (some ⟨ub, 0, none⟩)) ∧ Tw14 w W' tb ub (ys, L) (ys, L) (.slice none 0 0) [] := by
  obtain ⟨X, V, ht⟩ := h.tape
  refine (copy14 ht).mono ?_
  rintro e W' ⟨ub, X', V', rfl, h1, h2, h3⟩
  have hs := h.bel.size
  have hlt := ht.lt
  refine ⟨ub, rfl, ⟨X, V, X', V', ht.grow h3, h2.lower hs, fun g e1 e2 => ?_, Owns.nil _ _ _ _ _, fun g e => by cases e⟩, h.tb, Nat.le_trans hs h1, by omega, h.bel.trans (h3.mono hs)⟩
  obtain ⟨_, c, hc⟩ := typed14 ht.done e1
  have h4 := heap_lt hc
  have h5 := (typed14 h2.done e2).1
  omega
end
end Go.Proofs.YtecbpbkehdmmcaaDoor
