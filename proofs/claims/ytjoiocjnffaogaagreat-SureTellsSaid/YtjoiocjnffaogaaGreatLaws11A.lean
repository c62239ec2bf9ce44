/- What the statements of layer 11 share: instructions that are too many, the chapter's code. Contracts; no condition but what each names. -/
import Derived.Test.YtjoiocjnffaogaaGreatRef11B
import Derived.Test.YtjoiocjnffaogaaGreatS19
import Derived.Test.YtjoiocjnffaogaaGreatEx11
namespace Go.Proofs.YtjoiocjnffaogaaGreat
open Go.RowKit
set_option linter.unusedVariables false
set_option linter.unusedSimpArgs false

def longW (l : List InsV) : Bool := l.any (fun y => decide (20 < y.args.length)) || decide (60 < l.length)
theorem longW_no {l : List InsV} (h : longW l = false) : l.length ≤ 60 ∧ ∀ y ∈ l, y.args.length ≤ 20 := by
  unfold longW at h
  rw [Bool.or_eq_false_iff] at h
  refine ⟨by have := of_decide_eq_false h.2; omega, fun y hy => ?_⟩
  have := List.any_eq_false.1 h.1 y hy
  simp at this
  omega
set_option maxHeartbeats 4000000 in
theorem long11_any (V : Value) (l : List InsV) (w : World) (B : Nat) (h : IsCode w B V l) : Calls Tryz.prog 4 #[V] w fun e w' => e = .returned (.bool (longW l)) ∧ w = w' := by
  obtain ⟨A, cap, rfl⟩ := h.len
  have HC := Lib.hid h
  have hl := h.1
  unfold maxLen at hl
  obtain ⟨n, hn⟩ : ∃ n, n = l.length := ⟨_, rfl⟩
  have HN := Lib.hid hn
  rw [← hn] at hl HC ⊢
  clear h hn
  go_enter Tryz.func4, Tryz.ntmps4
  go_wp2
  go_loop [3] (fun i => ∃ k : Nat, k ≤ n ∧ i = .int .i64 k ∧ Hid ((l.take k).any (fun y => decide (20 < y.args.length)) = false)) (fun i => n - (intOf i).toNat)
  case atStart => exact ⟨0, by omega, rfl, rfl⟩
  case round =>
    obtain ⟨k, hk, rfl, HA⟩ := hrel
    by_cases hlt : k < n
    · have hkl : k < l.length := by rw [← HN.out]; exact hlt
      obtain ⟨b, off, cap', hV, hcp, hbB, hcl⟩ := HC.out.plain (by omega)
      rw [← HN.out] at hV
      cases hV
      obtain ⟨X, hX, hcell⟩ := hcl k hkl
      have c5 : w.cell? ⟨b, off + k * 6 + 5, none⟩ = some X := hcell 5 (by omega)
      have HTK := Lib.hid (code_take l hkl)
      obtain ⟨XA, Xc, hXe⟩ := hX.len
      obtain ⟨y, hy⟩ : ∃ y, y = l.getD k .zero := ⟨_, rfl⟩
      have hym : y ∈ l := by rw [hy]; simp [List.getD, List.getElem?_eq_getElem hkl]
      have HYM := Lib.hid hym
      rw [← hy] at hXe HTK hX
      subst hXe
      have hxl := hX.1
      unfold maxLen at hxl
      have k0 : (k : Int) < (n : Int) := by omega
      clear hcell hcl hX hy hcp hym
      by_cases h20 : 20 < y.args.length
      · have h20I : (20 : Int) < (y.args.length : Int) := by omega
        have HL : Hid (longW l = true) := Lib.hid (by
          unfold longW
          rw [Bool.or_eq_true]
          left
          rw [List.any_eq_true]
          exact ⟨y, HYM.out, by simpa using h20⟩)
        clear h20
        go_wp2
        go_ret
        exact ⟨ret_bool HL.out.symm, rfl⟩
      · have h20I : ¬ (20 : Int) < (y.args.length : Int) := by omega
        have HS : Hid ((l.take (k + 1)).any (fun y => decide (20 < y.args.length)) = false) := Lib.hid (by rw [HTK.out, List.any_append, HA.out]; simpa using h20)
        clear h20
        go_wp2
        go_round
        case rel => exact ⟨k + 1, by omega, by go_num, HS⟩
        case measure => simp [intOf]; omega
    · obtain rfl : k = n := by omega
      have HL : Hid (longW l = decide (60 < k)) := Lib.hid (by
        have h1 := HA.out
        have h2 : l.take k = l := by rw [HN.out]; exact List.take_length
        rw [h2] at h1
        unfold longW
        rw [h1, ← HN.out]
        simp)
      go_wp2
      go_ret
      exact ⟨ret_bool (by rw [HL.out]; exact decide_eq_decide.2 (by omega)), rfl⟩
theorem three_in : ∀ y ∈ threeV, InsB y := by
  intro y hy
  simp [threeV] at hy
  rcases hy with rfl | rfl | rfl <;> exact ⟨by unfold InI; decide, by unfold InI; decide, by unfold InI; decide, by unfold InI; decide, by unfold InI; decide⟩
theorem nop_in : ∀ y ∈ nopV, InsB y := by
  intro y hy
  simp [nopV] at hy
  rcases hy with rfl | rfl <;> exact ⟨by unfold InI; decide, by unfold InI; decide, by unfold InI; decide, by unfold InI; decide, by unfold InI; decide⟩
def threeCells : Array Value := (cellsC threeV (List.replicate 3 (.slice none 0 0))).toArray
theorem three_any (w : World) : Calls Tryz.prog 12 #[] w fun e w' => e = .returned (.slice (some ⟨w.heap.size, 0, none⟩) 3 3) ∧ Below w.heap.size w w' ∧ IsCode w' w'.heap.size (.slice (some ⟨w.heap.size, 0, none⟩) 3 3) threeV := by
  have HC := Lib.hid (code_new w threeV threeCells rfl (by decide) three_in (by decide) (by decide))
  have HB := Lib.hid ((Below.refl w.heap.size w).alloc (Nat.le_refl _) (.cells threeCells 37))
  go_enter Tryz.func12, Tryz.ntmps12
  go_wp2
  go_ret
  exact ⟨rfl, HB.out, by have h := HC.out; exact h.more (by simp)⟩
end Go.Proofs.YtjoiocjnffaogaaGreat
