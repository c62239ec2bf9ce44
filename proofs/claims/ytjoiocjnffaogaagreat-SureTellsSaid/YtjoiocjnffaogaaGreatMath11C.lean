/- Which registers are read and written by instructions that may be. Plain mathematics. -/
import Derived.Test.YtjoiocjnffaogaaGreatMath11B
namespace Go.Proofs.YtjoiocjnffaogaaGreat
set_option linter.unusedVariables false
set_option linter.unusedSimpArgs false

theorem chk_fit {y : InsV} (h : y.chk = 0) : (itemsOf (shapeI y.op) y.a y.b y.c y.n y.args).all (fitB 64 4096) = true := by
  unfold InsV.chk checkV at h
  split at h
  · omega
  · split at h
    · omega
    · split at h
      · omega
      · split at h
        · omega
        · split at h
          · omega
          · rename_i h5
            simpa using h5
theorem chk_args {y : InsV} (h : y.chk = 0) : y.args.length ≤ 8 := by
  unfold InsV.chk checkV at h
  split at h
  · omega
  · split at h
    · omega
    · split at h
      · omega
      · split at h
        · omega
        · omega
theorem fit_reg11 {q x : Int} (hq : q = 119 ∨ q = 114 ∨ q = 108) (h : fitB 64 4096 (q, x) = true) : 0 ≤ x ∧ x < 64 := by
  unfold fitB at h
  rw [Bool.and_eq_true] at h
  have h1 := of_decide_eq_true h.1
  rcases hq with rfl | rfl | rfl <;> simp [limV] at h1 <;> omega
theorem rds_bd {y : InsV} (h : y.chk = 0) : ∀ x ∈ rdsV y, 0 ≤ x ∧ x < 64 := by
  intro x hx
  unfold rdsV readsV at hx
  obtain ⟨⟨q, z⟩, hp, rfl⟩ := List.mem_map.1 hx
  obtain ⟨h1, h2⟩ := List.mem_filter.1 hp
  have hf := List.all_eq_true.1 (chk_fit h) _ h1
  have hq : q = 114 ∨ q = 108 := by simpa [readB] using h2
  exact fit_reg11 (.inr hq) hf
theorem wrt_bd {y : InsV} (h : y.chk = 0) : -1 ≤ wrtV y ∧ wrtV y < 64 := by
  unfold wrtV firstV
  cases hf : (itemsOf (shapeI y.op) y.a y.b y.c y.n y.args).find? (fun x => x.1 == 119) with
  | none => simp
  | some p =>
    obtain ⟨q, z⟩ := p
    have h1 := List.mem_of_find?_eq_some hf
    have h2 := List.find?_some hf
    have hq : q = 119 := by simpa using h2
    have hfit := List.all_eq_true.1 (chk_fit h) _ h1
    have := fit_reg11 (.inl hq) hfit
    simp only
    omega
theorem good_chk {l : List InsV} (h : Good10 l) {i : Nat} (hi : i < l.length) : (l.getD i .zero).chk = 0 := first_at l hi (first_all h.join).1
theorem rds_len {y : InsV} (h : y.chk = 0) : (rdsV y).length ≤ 11 := by
  rw [rds_pick, List.length_append]
  have h1 := pick_len 114 (lettersOf (shapeI y.op)) [y.a, y.b, y.c]
  rw [letters_len] at h1
  have h2 := shapes_small y.op
  have h3 := chk_args h
  split
  · omega
  · simp; omega
end Go.Proofs.YtjoiocjnffaogaaGreat
