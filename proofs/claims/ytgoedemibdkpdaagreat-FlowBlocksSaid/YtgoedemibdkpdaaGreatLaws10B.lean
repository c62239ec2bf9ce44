/- More of what the statements of layer 10 share: blocks that are the same, is a number among some, are instructions too many, the chapter's code. Contracts; no condition but what each names. -/
import Derived.Test.YtgoedemibdkpdaaGreatLaws10A
namespace Go.Proofs.YtgoedemibdkpdaaGreat
open Go.RowKit
set_option linter.unusedVariables false
set_option linter.unusedSimpArgs false

set_option maxRecDepth 100000 in
set_option maxHeartbeats 4000000 in
theorem sameBlocks_yes (V U : Value) (l : List BlkV) (w : World) (B C : Nat) (hV : IsBlks w B V l) (hU : IsBlks w C U l) : Calls Tryz.prog 9 #[V, U] w (Drawn2 w (.bool true)) := by
  obtain ⟨A1, c1, rfl⟩ := hV.len
  obtain ⟨A2, c2, rfl⟩ := hU.len
  have hl := hV.1
  unfold maxLen at hl
  obtain ⟨n, hn⟩ : ∃ n, n = l.length := ⟨_, rfl⟩
  have HN := Lib.hid hn
  have HV := Lib.hid hV
  have HU := Lib.hid hU
  rw [← hn] at HV HU hl ⊢
  clear hV hU hn
  go_enter Tryz.func9, Tryz.ntmps9
  go_wp2
  go_loopw [5] (fun i wr => ∃ k q : Nat, k ≤ n ∧ i = .int .i64 k ∧ wr = w.drewN q) (fun i _ => n - (intOf i).toNat)
  case atStart => exact ⟨0, 0, by omega, rfl, rfl⟩
  case round =>
    obtain ⟨k, q, hk, rfl, rfl⟩ := hrel
    by_cases hlt : k < n
    · obtain ⟨b1, o1, cp1, e1, _, _, hc1⟩ := HV.out.plain (by rw [← HN.out]; omega)
      obtain ⟨b2, o2, cp2, e2, _, _, hc2⟩ := HU.out.plain (by rw [← HN.out]; omega)
      rw [← HN.out] at e1 e2
      cases e1
      cases e2
      obtain ⟨X1, hX1, d1⟩ := hc1 k (by rw [← HN.out]; exact hlt)
      obtain ⟨X2, hX2, d2⟩ := hc2 k (by rw [← HN.out]; exact hlt)
      have HS := Lib.hid (fun m => quiet_of10 (w := w) (q := q) (n := m) (by have := sameInts_any X1 X2 (l.getD k .zero).nx (l.getD k .zero).nx (w.drewN (q + m)) B C hX1 hX2; rw [same_refl] at this; exact this))
      have x0 : w.cell? ⟨b1, o1 + k * 3, none⟩ = some (.int .i64 (l.getD k .zero).fr) := d1 0 (by omega)
      have x1 : w.cell? ⟨b1, o1 + k * 3 + 1, none⟩ = some (.int .i64 (l.getD k .zero).to) := d1 1 (by omega)
      have x2 : w.cell? ⟨b1, o1 + k * 3 + 2, none⟩ = some X1 := d1 2 (by omega)
      have y0 : w.cell? ⟨b2, o2 + k * 3, none⟩ = some (.int .i64 (l.getD k .zero).fr) := d2 0 (by omega)
      have y1 : w.cell? ⟨b2, o2 + k * 3 + 1, none⟩ = some (.int .i64 (l.getD k .zero).to) := d2 1 (by omega)
      have y2 : w.cell? ⟨b2, o2 + k * 3 + 2, none⟩ = some X2 := d2 2 (by omega)
      generalize (l.getD k .zero).fr = fr at *
      generalize (l.getD k .zero).to = to at *
      have e3 : (fr != fr) = false := by simp
      have e4 : (to != to) = false := by simp
      have k0 : (0 : Int) ≤ (k : Int) := by omega
      have k1 : (k : Int) < (n : Int) := by omega
      clear hc1 hc2 hX1 hX2 d1 d2
      go_wp2
      go_quiet ((go_at_call 27; with_reducible exact HS.out _))
      go_wp2
      go_roundw
      case rel => exact ⟨k + 1, _, by omega, by go_num, rfl⟩
      case measure => simp [intOf]; omega
    · obtain rfl : k = n := by omega
      go_wp2
      go_ret
      exact ⟨rfl, _, rfl⟩
set_option maxHeartbeats 4000000 in
theorem long10_any (V : Value) (l : List InsV) (w : World) (B : Nat) (h : IsCode w B V l) : Calls Tryz.prog 4 #[V] w fun e w' => e = .returned (.bool (longV l 60)) ∧ w = w' := by
  obtain ⟨m, hm60⟩ : ∃ m, m = 60 := ⟨_, rfl⟩
  have HM60 := Lib.hid hm60
  rw [← hm60]
  have hm : m ≤ 100000 := by omega
  clear hm60
  obtain ⟨A, cap, rfl⟩ := h.len
  have HC := Lib.hid h
  have hl := h.1
  unfold maxLen at hl
  obtain ⟨n, hn⟩ : ∃ n, n = l.length := ⟨_, rfl⟩
  have HN := Lib.hid hn
  rw [← hn] at hl HC ⊢
  have hmI : (m : Int) ≤ 100000 := by omega
  clear h hn hm
  go_enter Tryz.func4, Tryz.ntmps4
  go_wp2
  go_loop [3] (fun i => ∃ k : Nat, k ≤ n ∧ k ≤ m + 1 ∧ i = .int .i64 k ∧ Hid ((l.take k).any (fun y => decide (20 < y.args.length)) = false)) (fun i => n - (intOf i).toNat)
  case atStart => exact ⟨0, by omega, by omega, rfl, rfl⟩
  case round =>
    obtain ⟨k, hk, hkm, rfl, HA⟩ := hrel
    by_cases hlt : k < n
    · by_cases hle : k ≤ m
      · have hkl : k < l.length := by rw [← HN.out]; exact hlt
        obtain ⟨b, off, cap', hV, hcp, hbB, hcl⟩ := HC.out.plain (by omega)
        rw [← HN.out] at hV
        cases hV
        obtain ⟨X, hX, hcell⟩ := hcl k hkl
        have c5 : w.cell? ⟨b, off + k * 6 + 5, none⟩ = some X := hcell 5 (by omega)
        have HTK := Lib.hid (code_take l hkl)
        obtain ⟨XA, Xc, hXe⟩ := hX.len
        obtain ⟨y, hy⟩ : ∃ y, y = l.getD k .zero := ⟨_, rfl⟩
        rw [← hy] at hXe HTK hX
        subst hXe
        have hxl := hX.1
        unfold maxLen at hxl
        have k0 : (k : Int) < (n : Int) := by omega
        have k1 : (k : Int) < 61 := by have := HM60.out; omega
        clear hcell hcl hX hy hcp
        by_cases h20 : 20 < y.args.length
        · have h20I : (20 : Int) < (y.args.length : Int) := by omega
          have HL : Hid (longV l m = true) := Lib.hid (by
            unfold longV
            rw [Bool.or_eq_true]
            left
            rw [List.any_eq_true]
            refine ⟨y, ?_, by simpa using h20⟩
            have : y ∈ l.take (k + 1) := by rw [HTK.out]; simp
            exact List.take_subset_take_left l (by omega : k + 1 ≤ m + 1) this)
          clear h20
          go_wp2
          go_ret
          exact ⟨ret_bool HL.out.symm, rfl⟩
        · have h20I : ¬ (20 : Int) < (y.args.length : Int) := by omega
          have HS : Hid ((l.take (k + 1)).any (fun y => decide (20 < y.args.length)) = false) := Lib.hid (by rw [HTK.out, List.any_append, HA.out]; simpa using h20)
          clear h20
          go_wp2
          go_round
          case rel => exact ⟨k + 1, by omega, by omega, by go_num, HS⟩
          case measure => simp [intOf]; omega
      · have k0 : (k : Int) < (n : Int) := by omega
        have k1 : ¬ (k : Int) < 61 := by have := HM60.out; omega
        have k2 : (60 : Int) < (n : Int) := by have := HM60.out; omega
        have HL : Hid (longV l m = true) := Lib.hid (by unfold longV; rw [decide_eq_true (by rw [← HN.out]; omega)]; simp)
        clear hle
        go_wp2
        go_ret
        exact ⟨ret_bool HL.out.symm, rfl⟩
    · obtain rfl : k = n := by omega
      have HL : Hid (longV l m = decide (m < k)) := Lib.hid (by
        have h1 := HA.out
        have h2 : l.take k = l := by rw [HN.out]; exact List.take_length
        rw [h2] at h1
        unfold longV
        rw [List.take_of_length_le (by rw [← HN.out]; omega), h1, ← HN.out]
        simp)
      go_wp2
      go_ret
      exact ⟨ret_bool (by rw [HL.out]; have := HM60.out; exact decide_eq_decide.2 (by omega)), rfl⟩
def sixV : List InsV := [⟨1, 0, 0, 0, 0, []⟩, ⟨26, 0, 0, 0, 14, []⟩, ⟨0, 0, 0, 0, 0, []⟩, ⟨25, 0, 0, 0, 0, []⟩, ⟨29, 0, 0, 0, 0, []⟩, ⟨29, 0, 0, 0, 0, []⟩]
def sixCells : Array Value := (cellsC sixV (List.replicate 6 (.slice none 0 0))).toArray
/-- Code in a block that is made now, all of no arguments. -/
theorem code_new (w : World) (l : List InsV) (cs : Array Value) (hcs : cs.toList = cellsC l (List.replicate l.length (.slice none 0 0))) (hl : l.length ≤ 1000) (hi : ∀ y ∈ l, InsB y) (ha : ∀ y ∈ l, y.args = []) (h0 : 0 < l.length) :
    IsCode (w.alloc (.cells cs 37)) (w.heap.size + 1) (.slice (some ⟨w.heap.size, 0, none⟩) l.length l.length) l := by
  refine ⟨by unfold maxLen; omega, hi, .inr ⟨w.heap.size, 0, l.length, rfl, Nat.le_refl _, Nat.lt_succ_self _, fun i hi => ⟨.slice none 0 0, ?_, fun j hj => ?_⟩⟩⟩
  · have : (l.getD i .zero).args = [] := ha _ (by simp [List.getD, List.getElem?_eq_getElem hi])
    rw [this]
    exact ⟨by simp, .inl ⟨rfl, rfl⟩⟩
  · rw [cell_of_row _ _ _ _ _ _ (heap_alloc_new w _), ← Array.getElem?_toList, hcs, Nat.zero_add, cellsC_at l _ (by simp) hi hj]
    simp [List.getD, hi]
theorem six_in : ∀ y ∈ sixV, InsB y := by
  intro y hy
  simp [sixV] at hy
  rcases hy with rfl | rfl | rfl | rfl | rfl <;> exact ⟨by unfold InI; decide, by unfold InI; decide, by unfold InI; decide, by unfold InI; decide, by unfold InI; decide⟩
theorem six_any (w : World) : Calls Tryz.prog 13 #[] w fun e w' => e = .returned (.slice (some ⟨w.heap.size, 0, none⟩) 6 6) ∧ Below w.heap.size w w' ∧ IsCode w' w'.heap.size (.slice (some ⟨w.heap.size, 0, none⟩) 6 6) sixV := by
  have HC := Lib.hid (code_new w sixV sixCells rfl (by decide) six_in (by decide) (by decide))
  have HB := Lib.hid ((Below.refl w.heap.size w).alloc (Nat.le_refl _) (.cells sixCells 37))
  go_enter Tryz.func13, Tryz.ntmps13
  go_wp2
  go_ret
  exact ⟨rfl, HB.out, by have h := HC.out; exact h.more (by simp)⟩
end Go.Proofs.YtgoedemibdkpdaaGreat
