/- Lists of numbers that are written over, one behind the other. Contract; no condition but that the numbers are the call's own. -/
import Derived.Test.YtgoedemibdkpdaaGreatFlow10D
namespace Go.Proofs.YtgoedemibdkpdaaGreat
open Go.RowKit
set_option linter.unusedVariables false
set_option linter.unusedSimpArgs false

/-- Numbers of the call's own, whichever. -/
def AnyN (base : Nat) (W : World) (V : Value) : Prop := ∃ m zs, Owns W base 3 1 (IsNum .i64) V m zs
def Over10 (v : Value) (w w' : World) : Prop := But (OwnB v) w w' ∧ ∀ V base, AnyN base w V → AnyN base w' V
theorem over_keep {v : Value} {g cap : Nat} {w w' : World} (hv : v.ownBlock = some g) (hF : FullI w g cap) (hF' : FullI w' g cap) (hb : But (OwnB v) w w') : ∀ V base, AnyN base w V → AnyN base w' V := by
  intro V base ⟨m, zs, h⟩
  rcases h.1.2 with ⟨rfl, h0⟩ | ⟨g2, cap2, cur2, rfl, h1, h2, h3, h4, h5, h6⟩
  · exact ⟨m, zs, Owns.of_blocks h (fun g hg => by simp [Value.ownBlock] at hg) hb.size⟩
  · by_cases e : g2 = g
    · subst e
      obtain ⟨c1, e1, e2, e3⟩ := hF
      obtain ⟨c2, f1, f2, f3⟩ := hF'
      rw [e1] at h2
      injection h2 with h2
      injection h2 with h2 _ _
      subst h2
      refine ⟨m, c2.toList.take (m * 1), ⟨⟨?_, .inr ⟨g2, cap2, c2, rfl, h1, f1, h3, h4, by omega, rfl⟩⟩, ?_⟩⟩
      · rw [List.length_take, Array.length_toList]; omega
      · intro g' cur t fr hg hc u hu
        have : g2 = g' := by simpa [Value.ownBlock] using hg
        subst this
        rw [f1] at hc
        injection hc with hc
        injection hc with hc _ _
        subst hc
        exact f3 u hu
    · refine ⟨m, zs, Owns.of_blocks h (fun g' hg => ?_) hb.size⟩
      have hlt := (h.lt hg).2
      refine hb.block g' hlt (fun hc => e ?_)
      have h7 : g2 = g' := by simpa [Value.ownBlock] using hg
      have h8 : v.ownBlock = some g' := hc
      rw [hv] at h8
      injection h8 with h8
      omega
set_option maxHeartbeats 1000000 in
theorem over10_any (v : Value) (base : Nat) (w : World) (h : AnyN base w v) : Calls Tryz.prog 10 #[v] w fun e w' => e = .returned (.tuple #[]) ∧ Over10 v w w' := by
  obtain ⟨n, xs, h⟩ := h
  rcases h.1.2 with ⟨rfl, _⟩ | ⟨g, cap, cur, rfl, h1, h2, h3, h4, h5, _⟩
  · clear h
    go_enter Tryz.func10, Tryz.ntmps10
    go_wp2
    go_loopw [3] (fun i wr => i = .int .i64 0 ∧ wr = w) (fun _ _ => 0)
    case atStart => exact ⟨rfl, rfl⟩
    case round =>
      obtain ⟨rfl, rfl⟩ := hrel
      go_wp2
      go_end0
      exact ⟨rfl, But.refl _ _, fun V base h => h⟩
  · have hF : FullI w g cap := ⟨cur, h2, by simpa using h5, h.2 g cur _ _ (by simp [Value.ownBlock]) h2⟩
    have HF := Lib.hid hF
    unfold maxLen at h4
    have HG : Hid (OwnB (.slice (some ⟨g, 0, none⟩) n cap) g) := Lib.hid rfl
    clear h h2 h5 hF
    go_enter Tryz.func10, Tryz.ntmps10
    go_wp2
    go_loopw [3] (fun i wr => ∃ k : Nat, k ≤ cap ∧ i = .int .i64 k ∧ FullI wr g cap ∧ But (OwnB (.slice (some ⟨g, 0, none⟩) n cap)) w wr) (fun i _ => cap - (intOf i).toNat)
    case atStart => exact ⟨0, by omega, rfl, HF.out, But.refl _ _⟩
    case round =>
      obtain ⟨k, hk, rfl, hf, hb⟩ := hrel
      have HF2 := Lib.hid hf
      have HB := Lib.hid hb
      clear hf hb
      by_cases hlt : k < cap
      · obtain ⟨y, hcell, hfro⟩ := HF2.out.cell hlt
        go_wp2
        go_roundw
        case rel => exact ⟨k + 1, by omega, by go_num, HF2.out.set k ⟨_, rfl⟩, HB.out.setCell (p := ⟨g, k, none⟩) (.inl HG.out) _⟩
        case measure => simp [intOf]; omega
      · go_wp2
        go_end0
        exact ⟨rfl, HB.out, over_keep HG.out HF.out HF2.out HB.out⟩
/-- Lists in a row that are written over. -/
structure OvAt (w wr : World) (g n : Nat) (Xs : Nat → Value) : Prop where
  bel : Below w.heap.size w wr
  row : RowAt wr g n 32 Xs
  nums : ∀ i, i < n → AnyN w.heap.size wr (Xs i)
theorem anyN_ne {base g n : Nat} {w : World} {Xs : Nat → Value} {V : Value} (h : AnyN base w V) (hr : RowAt w g n 32 Xs) : ¬ OwnB V g := by
  intro hg
  obtain ⟨m, zs, h⟩ := h
  rcases h.1.2 with ⟨rfl, _⟩ | ⟨g2, cap, cur, rfl, h1, h2, _⟩
  · simp [OwnB, Value.ownBlock] at hg
  · have : g2 = g := by simpa [OwnB, Value.ownBlock] using hg
    subst this
    obtain ⟨cur', e1, _⟩ := hr
    rw [h2] at e1
    injection e1 with e1
    injection e1 with _ e1 _
    exact absurd e1 (by decide)
theorem anyN_ge {base : Nat} {w : World} {V : Value} (h : AnyN base w V) {g : Nat} (hg : OwnB V g) : base ≤ g := by
  obtain ⟨m, zs, h⟩ := h
  exact (h.lt hg).1
theorem OvAt.step {w wr w' : World} {g n : Nat} {Xs : Nat → Value} (h : OvAt w wr g n Xs) {k : Nat} (hk : k < n) (ho : Over10 (Xs k) wr w') : OvAt w w' g n Xs :=
  ⟨But.below h.bel ho.1 h.bel.size (fun g' hg => anyN_ge (h.nums k hk) hg), h.row.but ho.1 (anyN_ne (h.nums k hk) h.row), fun i hi => ho.2 _ _ (h.nums i hi)⟩
theorem OvAt.of {w w1 wr : World} {g n : Nat} {Xs : Nat → Value} {ll : Nat → List Int} (hl : Lists w.heap.size w1 g n Xs ll) (hb0 : Below w.heap.size w w1) (hb : Below w1.heap.size w1 wr) : OvAt w wr g n Xs :=
  ⟨hb0.trans (hb.mono hb0.size), hl.row.below hb hl.row.lt, fun i hi => ⟨_, _, Owns.below (hl.own i hi) hb (Nat.le_refl _)⟩⟩
end Go.Proofs.YtgoedemibdkpdaaGreat
