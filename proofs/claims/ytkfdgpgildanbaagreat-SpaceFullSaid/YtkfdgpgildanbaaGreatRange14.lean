/- A range over an iterator whose round begins by making a box for its variable: a law over any program. No condition but what it names. -/
import Derived.Test.YtkfdgpgildanbaaGreatRange13
namespace Go.Proofs.YtkfdgpgildanbaaGreat
open Go.RowKit
set_option linter.unusedVariables false

section
variable {F : Fence} {n : Nat} {P : Program}
theorem range_boxes {α : Type} {g : Operand} {ps : Array Tmp} {assign body : Code} {Q : Exit → Act → World → Prop} {a : Act} {w : World} (hro : F.round = none) (h1 : 1 ≤ n) {gf : Nat} {lb : Array Value}
    (hg : a.eval g = .func (.func gf) #[] lb) (hF : F.fn gf) (eg : ∀ args w, (callFunc gf args).run P w = .ok (.enter gf args) w) {encs : α → Array Value} {Mv Kp : World → World → Prop} {S Sp : List α → Prop}
    (hseq : ∀ W, Below w.heap.size w W → SeqMoves F (n - 1) P gf lb encs Mv Kp S Sp W) (hKt : ∀ {A B C : World}, Kp A B → Kp B C → Kp A C) (hMK : ∀ {A B : World}, Mv A B → Kp A B)
    (hKb : ∀ (A : World) l o o', w.heap.size ≤ l → A.heap[l]? = some o → o.isCells = false → o.isWalk = false → Kp A (A.putObj l o')) (hMv : ∀ A B (k : Nat) (o : Obj), Mv A B → A.heap[k]? = some o → o.isCells = false → B.heap[k]? = some o)
    (hps : ∀ x, (encs x).size = ps.size) (I X : List α → World → Prop) (hIm : ∀ s A B, Mv A B → I s A → I s B) (hXm : ∀ s A B, Mv A B → X s A → X s B) (hIt : ∀ s, Turns w.heap.size (I s)) (hXt : ∀ s, Turns w.heap.size (X s))
    (h0 : ∀ W, Below w.heap.size w W → I [] W) (a₁ : α → World → Act) (W₁ : α → World → World) (hW₁ : ∀ x A, Mv A (W₁ x A))
    (hassign : ∀ (l : Nat) (x : α) (W : World) (K : Act → World → Prop), K (a₁ x W) (W₁ x W) →
      assign.wpIn (F.inRound l) (n - 1 - 1) P (Exit.then K (fun _ _ _ => False)) { tmps := (ps.zip (encs x)).foldl (fun t (p, v) => t.setIfInBounds p v) a.tmps, defers := [] } W)
    (hbody : ∀ (l : Nat) (s : List α) (x : α) (W0 W : World), I s W0 → I s W → Sp (s ++ [x]) → (∀ (k : Nat) (o : Obj), (W₁ x W0).heap[k]? = some o → o.isCells = true → W.heap[k]? = some o) → (W₁ x W0).heap.size ≤ W.heap.size →
      body.wpIn (F.inRound l) (n - 1 - 1) P (ownPostK Kp I (fun c s W => c = .ret ∧ X s W) (s ++ [x]) W) (a₁ x W0) W)
    (hdone : ∀ (D : Nat) (s : List α) (W : World), w.heap.size ≤ D → S s → I s W → W.heap[D]? = some (.deferred (some [])) → Q .normal { a with defers := { target := .collected D, args := #[] } :: a.defers } W)
    (hstop : ∀ (D : Nat) (s : List α) (W : World), w.heap.size ≤ D → Sp s → X s W → W.heap[D]? = some (.deferred (some [])) → Code.wpIn F n P .ret Q { a with defers := { target := .collected D, args := #[] } :: a.defers } W) :
    (Code.rangeFunc g ps assign body).wpIn F n P Q a w := by
  refine wpIn_rangeFunc fun fn hfn => ?_
  rw [hro]
  obtain ⟨r, hr⟩ : ∃ r : LoopState → Option Code → Loop, r = fun st pe => { state := st, pending := pe, fn, tmps := a.tmps, params := ps, assign, body, defers := w.heap.size } := ⟨_, rfl⟩
  obtain ⟨W1, hW1⟩ : ∃ W1, W1 = (w.alloc (.deferred (some []))).alloc (.loop (r .ready none)) := ⟨_, rfl⟩
  have hb1 : Below w.heap.size w W1 := by
    rw [hW1]
    exact ((Below.refl _ w).alloc (Nat.le_refl _) _).alloc (by simp) _
  have hbook : BookAt w.heap.size r .ready none W1 := by
    constructor
    · rw [hW1]
      have := heap_alloc_new (w.alloc (.deferred (some []))) (.loop (r .ready none))
      rwa [World.size_alloc] at this
    · rw [hW1]
      exact (Below.heap_alloc _ _ _ (by simp)).trans (heap_alloc_new w _)
  have bookMv : ∀ {st pe A B}, Mv A B → BookAt w.heap.size r st pe A → BookAt w.heap.size r st pe B := fun hm hb => ⟨hMv _ _ _ _ hm hb.1 rfl, hMv _ _ _ _ hm hb.2 rfl⟩
  have close : ∀ (jump : Option Code) (A B : World), BookAt w.heap.size r .busy none A → KeepsOthers A B → ∃ C, (Instr.endRound (w.heap.size + 1) jump).run P B = .ok (.bool jump.isNone) C ∧
      BookAt w.heap.size r (if jump.isNone then .ready else .done) jump C ∧ (∀ I : World → Prop, Turns w.heap.size I → I B → I C) ∧ Kp B C := fun jump A B hA hk => by
    have hl := hk.same _ _ hA.1 rfl
    refine ⟨_, by have := run_endRound (P := P) jump hl; rw [hr] at this; exact this, ⟨by rw [World.putObj_heap_same (heap_lt hl), hr], (World.putObj_heap_other (by omega)).trans (hk.same _ _ hA.2 rfl)⟩, fun I ht hi => ht _ _ _ _ (by omega) hl rfl hi, hKb _ _ _ _ (by omega) hl rfl rfl⟩
  refine ⟨w.heap.size + 1, [{ target := .collected w.heap.size, args := #[] }], W1, { target := .fn (.func gf) lb, args := #[.func (.yield (w.heap.size + 1)) #[] #[]] }, W1, gf, #[.func (.yield (w.heap.size + 1)) #[] #[]] ++ lb, W1, ?_, ?_, ?_, ?_, fun _ => h1, ?_⟩
  · rw [hW1, hr]
    exact run_enterLoop_outer _ _ _ _ _
  · simp only [resolve, hg]
    simp [go_sem]
  · intro f' hf'
    simp [Target.leads] at hf'
    subst hf'
    exact hF
  · simp [invoke, go_sem, eg]
  · refine (hseq W1 hb1 (w.heap.size + 1) (fun s W => I s W ∧ BookAt w.heap.size r .ready none W) (fun s W => X s W ∧ BookAt w.heap.size r .done (some .ret) W) (fun s A B hm h => ⟨hIm s A B hm h.1, bookMv hm h.2⟩) (fun s A B hm h => ⟨hXm s A B hm h.1, bookMv hm h.2⟩) ?_ ⟨h0 W1 hb1, hbook⟩).mono ?_
    · rintro s x A0 ⟨hi0, hbk0⟩ hlen
      have hyd := run_yield (P := P) (args := encs x) hbk0.1 (by rw [hr]; exact hps x)
      have hm := hW₁ x A0
      obtain ⟨A, hA⟩ : ∃ A, A = W₁ x A0 := ⟨_, rfl⟩
      have hi : I s A := by rw [hA]; exact hIm s _ _ hm hi0
      have hbk : BookAt w.heap.size r .ready none A := by rw [hA]; exact bookMv hm hbk0
      have hkA : Kp A0 A := by rw [hA]; exact hMK hm
      have hbg := run_beginRound (P := P) hbk.1 (by rw [hr])
      have hpo := World.putObj_heap_same (o := .loop { r .ready none with state := .busy }) (heap_lt hbk.1)
      have hbusy : BookAt w.heap.size r .busy none (A.putObj (w.heap.size + 1) (.loop { r .ready none with state := .busy })) := ⟨by rw [hpo, hr], (World.putObj_heap_other (by omega)).trans hbk.2⟩
      have hkp := hKb A _ _ (.loop { r .ready none with state := .busy }) (show w.heap.size ≤ w.heap.size + 1 by omega) hbk.1 rfl rfl
      have hi2 := hIt s A _ _ (.loop { r .ready none with state := .busy }) (show w.heap.size ≤ w.heap.size + 1 by omega) hbk.1 rfl hi
      have hcells : ∀ (k : Nat) (o : Obj), (W₁ x A0).heap[k]? = some o → o.isCells = true → (A.putObj (w.heap.size + 1) (.loop { r .ready none with state := .busy })).heap[k]? = some o := fun k o hk hc => by
        rw [← hA] at hk
        refine (World.putObj_heap_other (fun e => ?_)).trans hk
        subst e
        rw [hbk.1] at hk
        injection hk with hk
        subst hk
        cases hc
      rw [hr] at hyd
      refine ⟨fn, _, assign, body, hyd, roundIn_of_wpIn hfn (hassign _ x A0 _ ?_)⟩
      rw [← hA]
      refine ⟨_, hbg, wpIn_mono (hbody _ s x A0 _ hi0 hi2 hlen hcells (by rw [← hA]; simp [World.putObj])) ?_⟩
      intro e b B hp
      match e, hp with
      | .normal, ⟨hk, hkp2, hi3⟩ =>
        obtain ⟨C, hC, hbC, hIC, hKC⟩ := close none _ B hbusy hk
        exact ⟨_, _, hC, .inl ⟨rfl, ⟨hIC _ (hIt _) hi3, hbC⟩, hKt hkA (hKt (hKt hkp hkp2) hKC)⟩⟩
      | .ret, ⟨hk, _, hx⟩ =>
        obtain ⟨C, hC, hbC, hIC, hKC⟩ := close (some .ret) _ B hbusy hk
        exact ⟨_, _, hC, .inr ⟨rfl, hIC _ (hXt _) hx, hbC⟩⟩
      | .exit id, ⟨_, h, _⟩ => cases h
      | .goto t, ⟨_, h, _⟩ => cases h
      | .panic ch, h => exact h.elim
      | .outgrown, h => exact h.elim
    · rintro e B ⟨⟨v, rfl⟩, (⟨s, hS, hi, hbk⟩ | ⟨s, hSp, hx, hbk⟩)⟩
      · have he := run_endLoop (P := P) hbk.1 (by rw [hr]; simp)
        refine ⟨none, _, by rw [he, hr], hdone _ s _ (Nat.le_refl _) hS (hIt s _ _ _ _ (by omega) hbk.1 rfl hi) ((World.putObj_heap_other (by omega)).trans hbk.2)⟩
      · have he := run_endLoop (P := P) hbk.1 (by rw [hr]; simp)
        refine ⟨some .ret, _, by rw [he, hr], hstop _ s _ (Nat.le_refl _) hSp (hXt s _ _ _ _ (by omega) hbk.1 rfl hx) ((World.putObj_heap_other (by omega)).trans hbk.2)⟩
end
end Go.Proofs.YtkfdgpgildanbaaGreat
