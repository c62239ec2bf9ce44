/- How bools that are handed to a statement are opened. Plain lemma; no condition. -/
import Derived.Test.YtfdblmjgpoocpaaGreatS19
import Derived.Deep.Slices
namespace Go.Proofs.YtfdblmjgpoocpaaGreat
open Go.RowKit Go.ChangeShapes Go.WideShapes
set_option linter.unusedVariables false

theorem add_plain10 (a : Addr) (h : a.spot = none) (i : Nat) : a.add i = ⟨a.block, a.off + i, none⟩ := by
  obtain ⟨b, o, s⟩ := a
  simp only at h
  subst h
  unfold Addr.add
  split <;> simp_all
section
variable {H : Type} {enc : TypeId × Value → H} {w : World}
set_option maxRecDepth 100000 in
theorem open_bools {fuel : Nat} {V : Value} {x : DataW H × List MemPlace} (h : DataW.trod enc Tryz.prog w 0 (fun _ => true) true fuel 43 [V] = some x) : ∃ n r, IsBools w w.heap.size V n r := by
  have hC : Tryz.prog.cellsOf 4 = 1 := by kernel_rfl
  rcases Go.Deep.open_slice1 Tryz.underlying43 hC h with ⟨hcs, _⟩ | ⟨a, len, cap, m, n, V', D, Pl, hcs, _, hl, hm, hmm, _, hi⟩
  · injection hcs with hcs _
    subst hcs
    exact ⟨0, fun _ => false, by simp, .inl ⟨rfl, none, 0, rfl⟩⟩
  · injection hcs with hcs _
    subst hcs
    obtain rfl : m = cap := by simpa using hmm
    have hb : ∀ i, i < m → ∃ b, w.cell? (a.add i) = some (.bool b) := fun i hi' => by
      obtain ⟨h1, h2⟩ := hi i hi'
      obtain ⟨b, h3, _⟩ := DataW.trod_bool Tryz.underlying4 h2
      have : V' i = .bool b := by simpa using h3
      exact ⟨b, by rw [h1, this]⟩
    by_cases h0 : len = 0
    · subst h0
      exact ⟨0, fun _ => false, by simp, .inl ⟨rfl, some a, m, rfl⟩⟩
    obtain ⟨b0, h1⟩ := hb 0 (by omega)
    have e : a.add 0 = a := by simp [Addr.add]
    rw [e] at h1
    have hs : a.spot = none := World.cell?_spot h1
    have hlt : a.block < w.heap.size := block_lt_of_cell h1
    refine ⟨len, fun i => if h : i < m then (hb i h).choose else false, by omega, .inr ⟨a.block, a.off, m, ?_, hl, hlt, fun i hil => ?_⟩⟩
    · obtain ⟨b, o, s⟩ := a
      simp only at hs
      subst hs
      rfl
    · have hi' : i < m := by omega
      have := (hb i hi').choose_spec
      simp only [dif_pos hi']
      rw [← this]
      have e2 := add_plain10 a hs i
      rw [e2]
set_option maxRecDepth 100000 in
theorem open_bools_value {r : Reach} {b0 : Nat} {v : Value} {d : DataW H} {p : List MemPlace} (hv : Value.okWide Tryz.prog w r b0 43 v)
    (h : DataW.Trod enc Tryz.prog w 0 (fun _ => true) true 43 v d p) : ∃ n r, IsBools w w.heap.size v n r := by
  obtain ⟨a, len, cap, rfl⟩ := okWide_slice Tryz.underlying43 hv
  obtain ⟨fuel, hf⟩ := h
  exact open_bools hf
end
end Go.Proofs.YtfdblmjgpoocpaaGreat
