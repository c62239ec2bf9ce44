/- An operation is found by its name (op.Find); and the document's own names, shapes (twinshaftref06). Contracts; no condition but that a number is one of the machine's. -/
import Derived.Test.YtobbjphpngckgaaOp06A
import Derived.Test.YtobbjphpngckgaaNums06
namespace Go.Proofs.Ytobbjphpngckgaa
open Go.RowKit
set_option linter.unusedVariables false
set_option linter.unusedSimpArgs false

/-- The operation of a name, -1 if there is none. -/
def findV (s : ByteArray) : Int := match nameL.findIdx? (fun x => decide (x.toList = s.toList)) with | some k => k | none => -1
theorem nameL_len : nameL.length = 33 := by kernel_rfl
theorem nameB_get {k : Nat} (hk : k < nameL.length) : nameB k = nameL[k] := by simp [nameB, List.getD, hk]
theorem find_hit {s : ByteArray} {k : Nat} (hk : k < 33) (h : (nameB k).toList = s.toList) (hn : ∀ t, t < k → (nameB t).toList ≠ s.toList) : findV s = k := by
  have hl := nameL_len
  have h2 : nameL.findIdx? (fun x => decide (x.toList = s.toList)) = some k := by
    rw [List.findIdx?_eq_some_iff_getElem]
    refine ⟨by omega, ?_, fun j hj => ?_⟩
    · rw [← nameB_get]
      exact decide_eq_true h
    · rw [← nameB_get]
      have := hn j hj
      simpa using this
  simp [findV, h2]
theorem find_none {s : ByteArray} (hn : ∀ t, t < 33 → (nameB t).toList ≠ s.toList) : findV s = -1 := by
  have hl := nameL_len
  have h2 : nameL.findIdx? (fun x => decide (x.toList = s.toList)) = none := by
    rw [List.findIdx?_eq_none_iff]
    intro x hx
    obtain ⟨k, hk, rfl⟩ := List.getElem_of_mem hx
    have := hn k (by omega)
    rw [nameB_get hk] at this
    simpa using this
  simp [findV, h2]
theorem find_bd (s : ByteArray) : findV s = -1 ∨ ∃ k : Nat, k < 33 ∧ findV s = k ∧ (nameB k).toList = s.toList := by
  have hl := nameL_len
  by_cases h : ∃ k, k < 33 ∧ (nameB k).toList = s.toList ∧ ∀ t, t < k → (nameB t).toList ≠ s.toList
  · obtain ⟨k, h1, h2, h3⟩ := h
    exact .inr ⟨k, h1, find_hit h1 h2 h3, h2⟩
  · left
    refine find_none fun t ht => ?_
    have key : ∀ n t, t ≤ n → t < 33 → (nameB t).toList ≠ s.toList := by
      intro n
      induction n with
      | zero =>
        intro t htn ht e
        exact h ⟨t, ht, e, fun t' ht' => by omega⟩
      | succ n ih =>
        intro t htn ht e
        exact h ⟨t, ht, e, fun t' ht' => ih t' (by omega) (by omega)⟩
    exact key t t (Nat.le_refl _) ht
/-- The names in a row. -/
def IsNames (w : World) (b : Nat) : Prop := ∀ k, k < 33 → w.cell? ⟨b, k, none⟩ = some (.string (nameB k))
theorem names_row {w : World} {b : Nat} {t : TypeId} (h : w.heap[b]? = some (.cells (nameL.map Value.string).toArray t (0, 0))) : IsNames w b := by
  intro k hk
  have hl := nameL_len
  simp [World.cell?, h, nameB, List.getD, hl, hk]
theorem namesA_agg : namesA = .agg namesC := by kernel_rfl
theorem namesC_same : namesC = (nameL.map Value.string).toArray := by kernel_rfl
/-! The document's own. -/
theorem ris_any (op : Int) (w : World) : Calls Try.prog 57 #[.int .i64 op] w fun e w' => e = .returned (.bool (opB op)) ∧ w = w' := by
  by_cases h0 : 0 ≤ op
  · by_cases h1 : op < 33
    · rw [opB_yes ⟨h0, h1⟩]
      go_enter Try.func57, Try.ntmps57
      go_wp2
      go_ret
      exact ⟨rfl, rfl⟩
    · rw [opB_no (by omega)]
      go_enter Try.func57, Try.ntmps57
      go_wp2
      go_ret
      exact ⟨rfl, rfl⟩
  · rw [opB_no (by omega)]
    go_enter Try.func57, Try.ntmps57
    go_wp2
    go_ret
    exact ⟨rfl, rfl⟩
def NamesDone (w : World) (e : Ending) (w' : World) : Prop := ∃ b, e = .returned (.slice (some ⟨b, 0, none⟩) 33 33) ∧ b < w'.heap.size ∧ IsNames w' b ∧ Below w.heap.size w w'
set_option maxHeartbeats 2000000 in
theorem rshape_any (op : Int) (w : World) : Calls Try.prog 39 #[.int .i64 op] w fun e w' => e = .returned (.string (shapeI op)) ∧ w = w' := by
  by_cases h1 : op = 1
  · subst h1
    rw [show shapeI 1 = ⟨#[119, 105]⟩ from by kernel_rfl]
    go_enter Try.func39, Try.ntmps39
    go_wp2
    go_ret
    exact ⟨rfl, rfl⟩
  by_cases h2 : op = 2
  · subst h2
    rw [show shapeI 2 = ⟨#[119, 114]⟩ from by kernel_rfl]
    go_enter Try.func39, Try.ntmps39
    go_wp2
    go_ret
    exact ⟨rfl, rfl⟩
  by_cases h20 : op = 20
  · subst h20
    rw [show shapeI 20 = ⟨#[119, 114, 107]⟩ from by kernel_rfl]
    go_enter Try.func39, Try.ntmps39
    go_wp2
    go_ret
    exact ⟨rfl, rfl⟩
  by_cases h21 : op = 21
  · subst h21
    rw [show shapeI 21 = ⟨#[119, 114, 109]⟩ from by kernel_rfl]
    go_enter Try.func39, Try.ntmps39
    go_wp2
    go_ret
    exact ⟨rfl, rfl⟩
  by_cases h22 : op = 22
  · subst h22
    rw [show shapeI 22 = ⟨#[114, 114, 122]⟩ from by kernel_rfl]
    go_enter Try.func39, Try.ntmps39
    go_wp2
    go_ret
    exact ⟨rfl, rfl⟩
  by_cases h23 : op = 23
  · subst h23
    rw [show shapeI 23 = ⟨#[119, 102]⟩ from by kernel_rfl]
    go_enter Try.func39, Try.ntmps39
    go_wp2
    go_ret
    exact ⟨rfl, rfl⟩
  by_cases h24 : op = 24
  · subst h24
    rw [show shapeI 24 = ⟨#[119, 100]⟩ from by kernel_rfl]
    go_enter Try.func39, Try.ntmps39
    go_wp2
    go_ret
    exact ⟨rfl, rfl⟩
  by_cases h25 : op = 25
  · subst h25
    rw [show shapeI 25 = ⟨#[116]⟩ from by kernel_rfl]
    go_enter Try.func39, Try.ntmps39
    go_wp2
    go_ret
    exact ⟨rfl, rfl⟩
  by_cases h26 : op = 26
  · subst h26
    rw [show shapeI 26 = ⟨#[114, 116]⟩ from by kernel_rfl]
    go_enter Try.func39, Try.ntmps39
    go_wp2
    go_ret
    exact ⟨rfl, rfl⟩
  by_cases h27 : op = 27
  · subst h27
    rw [show shapeI 27 = ⟨#[114, 116]⟩ from by kernel_rfl]
    go_enter Try.func39, Try.ntmps39
    go_wp2
    go_ret
    exact ⟨rfl, rfl⟩
  by_cases h28 : op = 28
  · subst h28
    rw [show shapeI 28 = ⟨#[119, 99, 108]⟩ from by kernel_rfl]
    go_enter Try.func39, Try.ntmps39
    go_wp2
    go_ret
    exact ⟨rfl, rfl⟩
  by_cases h29 : op = 29
  · subst h29
    rw [show shapeI 29 = ⟨#[114]⟩ from by kernel_rfl]
    go_enter Try.func39, Try.ntmps39
    go_wp2
    go_ret
    exact ⟨rfl, rfl⟩
  by_cases h31 : op = 31
  · subst h31
    rw [show shapeI 31 = ⟨#[114]⟩ from by kernel_rfl]
    go_enter Try.func39, Try.ntmps39
    go_wp2
    go_ret
    exact ⟨rfl, rfl⟩
  by_cases h32 : op = 32
  · subst h32
    rw [show shapeI 32 = ⟨#[114]⟩ from by kernel_rfl]
    go_enter Try.func39, Try.ntmps39
    go_wp2
    go_ret
    exact ⟨rfl, rfl⟩
  by_cases h30 : op = 30
  · subst h30
    rw [show shapeI 30 = ⟨#[119]⟩ from by kernel_rfl]
    go_enter Try.func39, Try.ntmps39
    go_wp2
    go_ret
    exact ⟨rfl, rfl⟩
  by_cases hw : 3 ≤ op ∧ op ≤ 19
  · have hs : shapeI op = ⟨#[119, 114, 114]⟩ := by
      obtain ⟨k, rfl⟩ : ∃ k : Nat, op = k := ⟨op.toNat, by omega⟩
      have hc : k = 3 ∨ k = 4 ∨ k = 5 ∨ k = 6 ∨ k = 7 ∨ k = 8 ∨ k = 9 ∨ k = 10 ∨ k = 11 ∨ k = 12 ∨ k = 13 ∨ k = 14 ∨ k = 15 ∨ k = 16 ∨ k = 17 ∨ k = 18 ∨ k = 19 := by omega
      rcases hc with rfl | rfl | rfl | rfl | rfl | rfl | rfl | rfl | rfl | rfl | rfl | rfl | rfl | rfl | rfl | rfl | rfl <;> (show _ = _; kernel_rfl)
    have hs0 : shapeI op = shapeI op := rfl
    rw [hs]
    obtain ⟨ha, hb⟩ := hw
    clear hs hs0
    have e1 : (op == 1) = false := by simpa using h1
    have e2 : (op == 2) = false := by simpa using h2
    have e20 : (op == 20) = false := by simpa using h20
    have e21 : (op == 21) = false := by simpa using h21
    have e22 : (op == 22) = false := by simpa using h22
    have e23 : (op == 23) = false := by simpa using h23
    have e24 : (op == 24) = false := by simpa using h24
    have e25 : (op == 25) = false := by simpa using h25
    have e26 : (op == 26) = false := by simpa using h26
    have e27 : (op == 27) = false := by simpa using h27
    have e28 : (op == 28) = false := by simpa using h28
    have e29 : (op == 29) = false := by simpa using h29
    have e31 : (op == 31) = false := by simpa using h31
    have e32 : (op == 32) = false := by simpa using h32
    have e30 : (op == 30) = false := by simpa using h30
    clear h1 h2 h20 h21 h22 h23 h24 h25 h26 h27 h28 h29 h31 h32 h30
    go_enter Try.func39, Try.ntmps39
    go_wp2
    go_ret
    exact ⟨rfl, rfl⟩
  · have hs : shapeI op = ⟨#[]⟩ := by
      unfold shapeI
      split
      · rename_i hr
        have hz : op = 0 := by omega
        subst hz
        show _ = _
        kernel_rfl
      · rfl
    rw [hs]
    clear hs
    have e1 : (op == 1) = false := by simpa using h1
    have e2 : (op == 2) = false := by simpa using h2
    have e20 : (op == 20) = false := by simpa using h20
    have e21 : (op == 21) = false := by simpa using h21
    have e22 : (op == 22) = false := by simpa using h22
    have e23 : (op == 23) = false := by simpa using h23
    have e24 : (op == 24) = false := by simpa using h24
    have e25 : (op == 25) = false := by simpa using h25
    have e26 : (op == 26) = false := by simpa using h26
    have e27 : (op == 27) = false := by simpa using h27
    have e28 : (op == 28) = false := by simpa using h28
    have e29 : (op == 29) = false := by simpa using h29
    have e31 : (op == 31) = false := by simpa using h31
    have e32 : (op == 32) = false := by simpa using h32
    have e30 : (op == 30) = false := by simpa using h30
    clear h1 h2 h20 h21 h22 h23 h24 h25 h26 h27 h28 h29 h31 h32 h30
    by_cases ha : 3 ≤ op
    · have hb : 19 < op := by omega
      clear hw
      go_enter Try.func39, Try.ntmps39
      go_wp2
      go_ret
      exact ⟨rfl, rfl⟩
    · clear hw
      go_enter Try.func39, Try.ntmps39
      go_wp2
      go_ret
      exact ⟨rfl, rfl⟩

end Go.Proofs.Ytobbjphpngckgaa
