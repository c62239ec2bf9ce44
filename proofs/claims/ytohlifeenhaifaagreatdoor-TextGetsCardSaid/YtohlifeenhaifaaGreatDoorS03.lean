/- Lemmas of RefA06, RefB06, RefC06, Rest06, each with its own remark. -/
import Derived.Test.YtohlifeenhaifaaGreatDoorS01
import Derived.Test.YtohlifeenhaifaaGreatDoorS02
import Derived.Maps.AppendAt
import Derived.Lib.OthersKept
/- (RefA06) An operation is found by its name (op.Find); and the document's own names, shapes (twinshaftref06). Contracts; no condition but that a number is one of the machine's. -/
namespace Go.Proofs.YtohlifeenhaifaaGreatDoor
open Go.RowKit
set_option linter.unusedVariables false
set_option linter.unusedSimpArgs false

/-- The operation of a name, -1 if there is none. -/
def findV (s : ByteArray) : Int := match nameL.findIdx? (fun x => decide (x.toList = s.toList)) with | some k => k | none => -1
theorem nameL_len : nameL.length = 33 := by kernel_rfl
theorem nameB_get {k : Nat} (hk : k < nameL.length) : nameB k = nameL[k] := by simp [nameB, List.getD, hk]
theorem find_hit {s : ByteArray} {k : Nat} (hk : k < 33) (h : (nameB k).toList = s.toList) (hn : ∀ t, t < k → (nameB t).toList ≠ s.toList) : findV s = k := by
  have hl := nameL_len
  have h2 : nameL.findIdx? (fun x => decide (x.toList = s.toList)) = some k := by
    rw [List.findIdx?_eq_some_iff_getElem]
    refine ⟨by omega, ?_, fun j hj => ?_⟩
    · rw [← nameB_get]
      exact decide_eq_true h
    · rw [← nameB_get]
      have := hn j hj
      simpa using this
  simp [findV, h2]
theorem find_none {s : ByteArray} (hn : ∀ t, t < 33 → (nameB t).toList ≠ s.toList) : findV s = -1 := by
  have hl := nameL_len
  have h2 : nameL.findIdx? (fun x => decide (x.toList = s.toList)) = none := by
    rw [List.findIdx?_eq_none_iff]
    intro x hx
    obtain ⟨k, hk, rfl⟩ := List.getElem_of_mem hx
    have := hn k (by omega)
    rw [nameB_get hk] at this
    simpa using this
  simp [findV, h2]
theorem find_bd (s : ByteArray) : findV s = -1 ∨ ∃ k : Nat, k < 33 ∧ findV s = k ∧ (nameB k).toList = s.toList := by
  have hl := nameL_len
  by_cases h : ∃ k, k < 33 ∧ (nameB k).toList = s.toList ∧ ∀ t, t < k → (nameB t).toList ≠ s.toList
  · obtain ⟨k, h1, h2, h3⟩ := h
    exact .inr ⟨k, h1, find_hit h1 h2 h3, h2⟩
  · left
    refine find_none fun t ht => ?_
    have key : ∀ n t, t ≤ n → t < 33 → (nameB t).toList ≠ s.toList := by
      intro n
      induction n with
      | zero =>
        intro t htn ht e
        exact h ⟨t, ht, e, fun t' ht' => by omega⟩
      | succ n ih =>
        intro t htn ht e
        exact h ⟨t, ht, e, fun t' ht' => ih t' (by omega) (by omega)⟩
    exact key t t (Nat.le_refl _) ht
/-- The names in a row. -/
def IsNames (w : World) (b : Nat) : Prop := ∀ k, k < 33 → w.cell? ⟨b, k, none⟩ = some (.string (nameB k))
theorem names_row {w : World} {b : Nat} {t : TypeId} (h : w.heap[b]? = some (.cells (nameL.map Value.string).toArray t (0, 0))) : IsNames w b := by
  intro k hk
  have hl := nameL_len
  simp [World.cell?, h, nameB, List.getD, hl, hk]
set_option maxHeartbeats 2000000 in
theorem index_any (s : ByteArray) (b : Nat) (w : World) (hN : IsNames w b) : Calls Tryz.prog 98 #[.slice (some ⟨b, 0, none⟩) 33 33, .string s] w fun e w' => e = .returned (.int .i64 (findV s)) ∧ w = w' := by
  have HN := Lib.hid hN
  clear hN
  go_enter Tryz.func98, Tryz.ntmps98
  go_wp2
  go_loop [8] (fun i => ∃ k : Nat, k ≤ 33 ∧ i = .int .i64 k ∧ ∀ t, t < k → (nameB t).toList ≠ s.toList) (fun i => 33 - (intOf i).toNat)
  case atStart => exact ⟨0, by omega, rfl, fun t ht => by omega⟩
  case round =>
    obtain ⟨k, hk, rfl, hs⟩ := hrel
    have HS := Lib.hid hs
    clear hs
    by_cases hlt : k < 33
    · have hc := HN.out k hlt
      obtain ⟨x, hx⟩ : ∃ x, x = nameB k := ⟨_, rfl⟩
      rw [← hx] at hc
      have HX := Lib.hid hx
      clear hx
      have k0 : (0 : Int) ≤ (k : Int) := by omega
      by_cases he : x.toList = s.toList
      · have e1 : (s.toList == x.toList) = true := by rw [he]; simp
        have HE : Hid (findV s = k) := Lib.hid (find_hit hlt (by rw [← HX.out]; exact he) HS.out)
        clear he
        go_wp2
        go_ret
        rw [HE.out]
        exact ⟨rfl, rfl⟩
      · have e1 : (s.toList == x.toList) = false := by
          rw [beq_eq_false_iff_ne]
          exact fun h => he h.symm
        have HE := Lib.hid he
        clear he
        go_wp2
        go_round
        case rel => exact ⟨k + 1, by omega, by go_num, fun t ht => by
          by_cases e : t = k
          · subst e; rw [← HX.out]; exact HE.out
          · exact HS.out t (by omega)⟩
        case measure => simp [intOf]; omega
    · obtain rfl : k = 33 := by omega
      have HE := Lib.hid (find_none HS.out)
      go_wp2
      go_ret
      rw [HE.out]
      exact ⟨rfl, rfl⟩
theorem namesA_agg : namesA = .agg namesC := by kernel_rfl
theorem namesC_same : namesC = (nameL.map Value.string).toArray := by kernel_rfl
set_option maxHeartbeats 2000000 in
set_option maxRecDepth 100000 in
theorem find_any (s : ByteArray) (w : World) : Calls Tryz.prog 63 #[.string s] w (Makes w (.int .i64 (findV s))) := by
  have hn : ∀ w, Calls Tryz.prog 59 #[] w fun e w' => e = .returned (.agg namesC) ∧ Below w.heap.size w w' := fun w => by
    have h := names_any w
    rw [namesA_agg] at h
    exact h
  have HN := Lib.hid hn
  clear hn
  have HI := Lib.hid (fun w b h => index_any s b w h)
  go_enter Tryz.func63, Tryz.ntmps63
  go_wp2_with (first
    | (go_at_call 59; (with_reducible refine (HN.out _).mono ?_); rintro e w1 ⟨rfl, hB⟩; have HB := Lib.hid hB; clear hB)
    | (with_reducible refine wpList_store_row rfl 101 (.tmp 3) (.tmp 4) rfl w1.heap.size namesC ?c1 ?c2 101 ?old ?c3 namesC_info ?c4 namesC_cells ?_))
  case c3 => exact heap_alloc_new _ _
  case c1 => rfl
  case c2 => rfl
  case c4 => rfl
  rw [World.setRow_alloc_new]
  have hrow : (w1.alloc (.cells namesC 101)).heap[w1.heap.size]? = some (.cells (nameL.map Value.string).toArray 101 (0, 0)) := by
    rw [← namesC_same]
    exact heap_alloc_new _ _
  have HR := Lib.hid (names_row hrow)
  have HB2 := Lib.hid (HB.out.alloc HB.out.size (.cells namesC 101))
  clear hrow
  generalize w1.alloc (.cells namesC 101) = w2 at HR HB2 ⊢
  go_wp2_with (go_at_call 98; (with_reducible refine (HI.out _ _ HR.out).mono ?_); rintro e w3 ⟨rfl, rfl⟩)
  go_ret
  exact ⟨rfl, HB2.out⟩
/-! The document's own. -/
theorem ris_any (op : Int) (w : World) : Calls Tryz.prog 60 #[.int .i64 op] w fun e w' => e = .returned (.bool (opB op)) ∧ w = w' := by
  by_cases h0 : 0 ≤ op
  · by_cases h1 : op < 33
    · rw [opB_yes ⟨h0, h1⟩]
      go_enter Tryz.func60, Tryz.ntmps60
      go_wp2
      go_ret
      exact ⟨rfl, rfl⟩
    · rw [opB_no (by omega)]
      go_enter Tryz.func60, Tryz.ntmps60
      go_wp2
      go_ret
      exact ⟨rfl, rfl⟩
  · rw [opB_no (by omega)]
    go_enter Tryz.func60, Tryz.ntmps60
    go_wp2
    go_ret
    exact ⟨rfl, rfl⟩
def NamesDone (w : World) (e : Ending) (w' : World) : Prop := ∃ b, e = .returned (.slice (some ⟨b, 0, none⟩) 33 33) ∧ b < w'.heap.size ∧ IsNames w' b ∧ Below w.heap.size w w'
set_option maxHeartbeats 2000000 in
set_option maxRecDepth 100000 in
theorem rnames_any (w : World) : Calls Tryz.prog 61 #[] w (NamesDone w) := by
  go_enter Tryz.func61, Tryz.ntmps61
  go_wp2
  go_ret
  refine ⟨_, rfl, by simp, names_row (t := 9) ?_, (Below.refl _ _).alloc (Nat.le_refl _) _⟩
  rw [← namesC_same]
  exact heap_alloc_new _ _
set_option maxHeartbeats 2000000 in
theorem rfind_any (s : ByteArray) (w : World) : Calls Tryz.prog 74 #[.string s] w (Makes w (.int .i64 (findV s))) := by
  have HN := Lib.hid (fun w => rnames_any w)
  go_enter Tryz.func74, Tryz.ntmps74
  go_wp2_with (go_at_call 61; (with_reducible refine (HN.out _).mono ?_); rintro e w1 ⟨b, rfl, hb, hN, hB⟩; have HN1 := Lib.hid hN; have HB := Lib.hid hB; clear hN hB hb)
  go_loop [4] (fun i => ∃ k : Nat, k ≤ 33 ∧ i = .int .i64 k ∧ ∀ t, t < k → (nameB t).toList ≠ s.toList) (fun i => 33 - (intOf i).toNat)
  case atStart => exact ⟨0, by omega, rfl, fun t ht => by omega⟩
  case round =>
    obtain ⟨k, hk, rfl, hs⟩ := hrel
    have HS := Lib.hid hs
    clear hs
    by_cases hlt : k < 33
    · have hc := HN1.out k hlt
      obtain ⟨x, hx⟩ : ∃ x, x = nameB k := ⟨_, rfl⟩
      rw [← hx] at hc
      have HX := Lib.hid hx
      clear hx
      have k0 : (0 : Int) ≤ (k : Int) := by omega
      by_cases he : x.toList = s.toList
      · have e1 : (x.toList == s.toList) = true := by rw [he]; simp
        have HE : Hid (findV s = k) := Lib.hid (find_hit hlt (by rw [← HX.out]; exact he) HS.out)
        clear he
        go_wp2
        go_ret
        rw [HE.out]
        exact ⟨rfl, HB.out⟩
      · have e1 : (x.toList == s.toList) = false := by
          rw [beq_eq_false_iff_ne]
          exact he
        have HE := Lib.hid he
        clear he
        go_wp2
        go_round
        case rel => exact ⟨k + 1, by omega, by go_num, fun t ht => by
          by_cases e : t = k
          · subst e; rw [← HX.out]; exact HE.out
          · exact HS.out t (by omega)⟩
        case measure => simp [intOf]; omega
    · obtain rfl : k = 33 := by omega
      have HE := Lib.hid (find_none HS.out)
      go_wp2
      go_ret
      rw [HE.out]
      exact ⟨rfl, HB.out⟩
theorem rname_any (op : Int) (w : World) : Calls Tryz.prog 34 #[.int .i64 op] w (Makes w (.string (nameI op))) := by
  unfold nameI
  have HE := Lib.hid (ris_any op w)
  split
  · rename_i h
    rw [opB_yes h] at HE
    obtain ⟨k, rfl⟩ : ∃ k : Nat, op = k := ⟨op.toNat, by omega⟩
    have hk : k < 33 := by omega
    simp only [Int.toNat_natCast]
    have HN := Lib.hid (fun w => rnames_any w)
    have k0 : (0 : Int) ≤ (k : Int) := by omega
    go_enter Tryz.func34, Tryz.ntmps34
    go_wp2_with (first
      | (go_at_call 60; (with_reducible refine HE.out.mono ?_); rintro e w1 ⟨rfl, rfl⟩)
      | (go_at_call 61; (with_reducible refine (HN.out _).mono ?_); rintro e w1 ⟨b, rfl, hb, hN, hB⟩; have hc := hN k hk; have HB := Lib.hid hB; clear hN hB hb))
    go_ret
    exact ⟨rfl, HB.out⟩
  · rename_i h
    rw [opB_no h] at HE
    clear h
    go_enter Tryz.func34, Tryz.ntmps34
    go_wp2_with (go_at_call 60; (with_reducible refine HE.out.mono ?_); rintro e w1 ⟨rfl, rfl⟩)
    go_ret
    exact ⟨rfl, Below.refl _ _⟩

set_option maxHeartbeats 2000000 in
theorem rshape_any (op : Int) (w : World) : Calls Tryz.prog 35 #[.int .i64 op] w fun e w' => e = .returned (.string (shapeI op)) ∧ w = w' := by
  by_cases h1 : op = 1
  · subst h1
    rw [show shapeI 1 = ⟨#[119, 105]⟩ from by kernel_rfl]
    go_enter Tryz.func35, Tryz.ntmps35
    go_wp2
    go_ret
    exact ⟨rfl, rfl⟩
  by_cases h2 : op = 2
  · subst h2
    rw [show shapeI 2 = ⟨#[119, 114]⟩ from by kernel_rfl]
    go_enter Tryz.func35, Tryz.ntmps35
    go_wp2
    go_ret
    exact ⟨rfl, rfl⟩
  by_cases h20 : op = 20
  · subst h20
    rw [show shapeI 20 = ⟨#[119, 114, 107]⟩ from by kernel_rfl]
    go_enter Tryz.func35, Tryz.ntmps35
    go_wp2
    go_ret
    exact ⟨rfl, rfl⟩
  by_cases h21 : op = 21
  · subst h21
    rw [show shapeI 21 = ⟨#[119, 114, 109]⟩ from by kernel_rfl]
    go_enter Tryz.func35, Tryz.ntmps35
    go_wp2
    go_ret
    exact ⟨rfl, rfl⟩
  by_cases h22 : op = 22
  · subst h22
    rw [show shapeI 22 = ⟨#[114, 114, 122]⟩ from by kernel_rfl]
    go_enter Tryz.func35, Tryz.ntmps35
    go_wp2
    go_ret
    exact ⟨rfl, rfl⟩
  by_cases h23 : op = 23
  · subst h23
    rw [show shapeI 23 = ⟨#[119, 102]⟩ from by kernel_rfl]
    go_enter Tryz.func35, Tryz.ntmps35
    go_wp2
    go_ret
    exact ⟨rfl, rfl⟩
  by_cases h24 : op = 24
  · subst h24
    rw [show shapeI 24 = ⟨#[119, 100]⟩ from by kernel_rfl]
    go_enter Tryz.func35, Tryz.ntmps35
    go_wp2
    go_ret
    exact ⟨rfl, rfl⟩
  by_cases h25 : op = 25
  · subst h25
    rw [show shapeI 25 = ⟨#[116]⟩ from by kernel_rfl]
    go_enter Tryz.func35, Tryz.ntmps35
    go_wp2
    go_ret
    exact ⟨rfl, rfl⟩
  by_cases h26 : op = 26
  · subst h26
    rw [show shapeI 26 = ⟨#[114, 116]⟩ from by kernel_rfl]
    go_enter Tryz.func35, Tryz.ntmps35
    go_wp2
    go_ret
    exact ⟨rfl, rfl⟩
  by_cases h27 : op = 27
  · subst h27
    rw [show shapeI 27 = ⟨#[114, 116]⟩ from by kernel_rfl]
    go_enter Tryz.func35, Tryz.ntmps35
    go_wp2
    go_ret
    exact ⟨rfl, rfl⟩
  by_cases h28 : op = 28
  · subst h28
    rw [show shapeI 28 = ⟨#[119, 99, 108]⟩ from by kernel_rfl]
    go_enter Tryz.func35, Tryz.ntmps35
    go_wp2
    go_ret
    exact ⟨rfl, rfl⟩
  by_cases h29 : op = 29
  · subst h29
    rw [show shapeI 29 = ⟨#[114]⟩ from by kernel_rfl]
    go_enter Tryz.func35, Tryz.ntmps35
    go_wp2
    go_ret
    exact ⟨rfl, rfl⟩
  by_cases h31 : op = 31
  · subst h31
    rw [show shapeI 31 = ⟨#[114]⟩ from by kernel_rfl]
    go_enter Tryz.func35, Tryz.ntmps35
    go_wp2
    go_ret
    exact ⟨rfl, rfl⟩
  by_cases h32 : op = 32
  · subst h32
    rw [show shapeI 32 = ⟨#[114]⟩ from by kernel_rfl]
    go_enter Tryz.func35, Tryz.ntmps35
    go_wp2
    go_ret
    exact ⟨rfl, rfl⟩
  by_cases h30 : op = 30
  · subst h30
    rw [show shapeI 30 = ⟨#[119]⟩ from by kernel_rfl]
    go_enter Tryz.func35, Tryz.ntmps35
    go_wp2
    go_ret
    exact ⟨rfl, rfl⟩
  by_cases hw : 3 ≤ op ∧ op ≤ 19
  · have hs : shapeI op = ⟨#[119, 114, 114]⟩ := by
      obtain ⟨k, rfl⟩ : ∃ k : Nat, op = k := ⟨op.toNat, by omega⟩
      have hc : k = 3 ∨ k = 4 ∨ k = 5 ∨ k = 6 ∨ k = 7 ∨ k = 8 ∨ k = 9 ∨ k = 10 ∨ k = 11 ∨ k = 12 ∨ k = 13 ∨ k = 14 ∨ k = 15 ∨ k = 16 ∨ k = 17 ∨ k = 18 ∨ k = 19 := by omega
      rcases hc with rfl | rfl | rfl | rfl | rfl | rfl | rfl | rfl | rfl | rfl | rfl | rfl | rfl | rfl | rfl | rfl | rfl <;> (show _ = _; kernel_rfl)
    have hs0 : shapeI op = shapeI op := rfl
    rw [hs]
    obtain ⟨ha, hb⟩ := hw
    clear hs hs0
    have e1 : (op == 1) = false := by simpa using h1
    have e2 : (op == 2) = false := by simpa using h2
    have e20 : (op == 20) = false := by simpa using h20
    have e21 : (op == 21) = false := by simpa using h21
    have e22 : (op == 22) = false := by simpa using h22
    have e23 : (op == 23) = false := by simpa using h23
    have e24 : (op == 24) = false := by simpa using h24
    have e25 : (op == 25) = false := by simpa using h25
    have e26 : (op == 26) = false := by simpa using h26
    have e27 : (op == 27) = false := by simpa using h27
    have e28 : (op == 28) = false := by simpa using h28
    have e29 : (op == 29) = false := by simpa using h29
    have e31 : (op == 31) = false := by simpa using h31
    have e32 : (op == 32) = false := by simpa using h32
    have e30 : (op == 30) = false := by simpa using h30
    clear h1 h2 h20 h21 h22 h23 h24 h25 h26 h27 h28 h29 h31 h32 h30
    go_enter Tryz.func35, Tryz.ntmps35
    go_wp2
    go_ret
    exact ⟨rfl, rfl⟩
  · have hs : shapeI op = ⟨#[]⟩ := by
      unfold shapeI
      split
      · rename_i hr
        have hz : op = 0 := by omega
        subst hz
        show _ = _
        kernel_rfl
      · rfl
    rw [hs]
    clear hs
    have e1 : (op == 1) = false := by simpa using h1
    have e2 : (op == 2) = false := by simpa using h2
    have e20 : (op == 20) = false := by simpa using h20
    have e21 : (op == 21) = false := by simpa using h21
    have e22 : (op == 22) = false := by simpa using h22
    have e23 : (op == 23) = false := by simpa using h23
    have e24 : (op == 24) = false := by simpa using h24
    have e25 : (op == 25) = false := by simpa using h25
    have e26 : (op == 26) = false := by simpa using h26
    have e27 : (op == 27) = false := by simpa using h27
    have e28 : (op == 28) = false := by simpa using h28
    have e29 : (op == 29) = false := by simpa using h29
    have e31 : (op == 31) = false := by simpa using h31
    have e32 : (op == 32) = false := by simpa using h32
    have e30 : (op == 30) = false := by simpa using h30
    clear h1 h2 h20 h21 h22 h23 h24 h25 h26 h27 h28 h29 h31 h32 h30
    by_cases ha : 3 ≤ op
    · have hb : 19 < op := by omega
      clear hw
      go_enter Tryz.func35, Tryz.ntmps35
      go_wp2
      go_ret
      exact ⟨rfl, rfl⟩
    · clear hw
      go_enter Tryz.func35, Tryz.ntmps35
      go_wp2
      go_ret
      exact ⟨rfl, rfl⟩

end Go.Proofs.YtohlifeenhaifaaGreatDoor

/- (RefB06) The document's own way of counting letters and of looking at a number (twinshaftref06.has, number). Contracts; no condition but that texts are short. -/
namespace Go.Proofs.YtohlifeenhaifaaGreatDoor
open Go.RowKit
set_option linter.unusedVariables false
set_option linter.unusedSimpArgs false

def Drawn3 (w : World) (v : Value) (e : Ending) (w' : World) : Prop := e = .returned v ∧ ∃ k, w' = w.drewN k
/-- How often a text has one of some letters. -/
def hasL (L T : List Int) : Nat := (L.map fun x => T.count x).sum
def hasV (s t : ByteArray) : Nat := hasL (lettersOf s) (lettersOf t)
theorem letters_len (s : ByteArray) : (lettersOf s).length = s.size := by simp [lettersOf]
theorem letters_at (s : ByteArray) {k : Nat} (h : k < s.size) : (lettersOf s)[k]'(by rw [letters_len]; exact h) = (s[k].toNat : Int) := by
  simp [lettersOf]
  rfl
theorem has_step (L T : List Int) {k : Nat} (h : k < L.length) : hasL (L.take (k + 1)) T = hasL (L.take k) T + T.count L[k] := by
  unfold hasL
  rw [List.take_succ_eq_append_getElem h, List.map_append, List.sum_append]
  rfl
theorem count_step (T : List Int) (x : Int) {k : Nat} (h : k < T.length) : (T.take (k + 1)).count x = (T.take k).count x + (if x = T[k] then 1 else 0) := by
  rw [List.take_succ_eq_append_getElem h, List.count_append]
  by_cases e : x = T[k]
  · subst e; simp
  · have : T[k] ≠ x := fun h => e h.symm
    simp [e, this]
theorem count_le' (T : List Int) (x : Int) (k : Nat) : (T.take k).count x ≤ k := Nat.le_trans (List.count_le_length) (by simp; omega)
theorem has_le (L T : List Int) (k : Nat) (hT : T.length ≤ 100) : hasL (L.take k) T ≤ 100 * k := by
  induction k with
  | zero => simp [hasL]
  | succ k ih =>
    by_cases h : k < L.length
    · rw [has_step L T h]
      have := List.count_le_length (l := T) (a := L[k])
      omega
    · rw [List.take_of_length_le (by omega)]
      rw [List.take_of_length_le (by omega)] at ih
      omega
set_option maxHeartbeats 4000000 in
theorem has_any (s t : ByteArray) (w : World) (hs : s.size ≤ 100) (ht : t.size ≤ 100) : Calls Tryz.prog 129 #[.string s, .string t] w (Drawn3 w (.int .i64 (hasV s t))) := by
  obtain ⟨L, hL⟩ : ∃ L, L = lettersOf s := ⟨_, rfl⟩
  obtain ⟨T, hT⟩ : ∃ T, T = lettersOf t := ⟨_, rfl⟩
  have HT := Lib.hid hT
  have HL := Lib.hid hL
  have HTl : Hid (T.length = t.size) := Lib.hid (by rw [hT, letters_len])
  have HLl : Hid (L.length = s.size) := Lib.hid (by rw [hL, letters_len])
  unfold hasV
  rw [← hL, ← hT]
  clear hL hT
  go_enter Tryz.func129, Tryz.ntmps129
  go_wp2
  go_loopw [5, 6] (fun n i wr => ∃ k q : Nat, k ≤ s.size ∧ i = .int .i64 k ∧ n = .int .i64 (hasL (L.take k) T) ∧ wr = w.drewN q) (fun _ i _ => s.size - (intOf i).toNat)
  case atStart => exact ⟨0, 0, by omega, rfl, by simp [hasL], rfl⟩
  case round =>
    obtain ⟨k, q, hk, rfl, rfl, rfl⟩ := hrel
    by_cases hlt : k < s.size
    · have hx := letters_at s hlt
      obtain ⟨x, hx'⟩ : ∃ x : Int, x = (s[k].toNat : Int) := ⟨_, rfl⟩
      have hstep := has_step L T (k := k) (by rw [HLl.out]; exact hlt)
      have hLk : L[k]'(by rw [HLl.out]; exact hlt) = x := by
        have h2 : L = lettersOf s := HL.out
        subst h2
        rw [hx, hx']
      rw [hLk] at hstep
      have hle := has_le L T k (by rw [HTl.out]; exact ht)
      obtain ⟨c0, hc0⟩ : ∃ c0, c0 = hasL (L.take k) T := ⟨_, rfl⟩
      rw [← hc0] at hstep hle ⊢
      have HStep := Lib.hid hstep
      have HX := Lib.hid hx'
      have k0 : (0 : Int) ≤ (k : Int) := by omega
      clear hx hx' hstep hLk hc0
      go_wp2
      go_loopw [5, 7] (fun n j wi => ∃ i p : Nat, i ≤ t.size ∧ j = .int .i64 i ∧ n = .int .i64 ((c0 + (T.take i).count x : Nat) : Int) ∧ wi = w.drewN p) (fun _ j _ => t.size - (intOf j).toNat)
      case atStart => exact ⟨0, q, by omega, rfl, by simp, rfl⟩
      case round =>
        obtain ⟨i, p, hi, rfl, rfl, rfl⟩ := hrel
        by_cases hlt2 : i < t.size
        · have hst2 := count_step T x (k := i) (by rw [HTl.out]; exact hlt2)
          have hTi : T[i]'(by rw [HTl.out]; exact hlt2) = (t[i].toNat : Int) := by
            have h2 : T = lettersOf t := HT.out
            subst h2
            exact letters_at t hlt2
          rw [hTi] at hst2
          have hcl := count_le' T x i
          obtain ⟨c1, hc1⟩ : ∃ c1, c1 = (T.take i).count x := ⟨_, rfl⟩
          rw [← hc1] at hst2 hcl ⊢
          have i0 : (0 : Int) ≤ (i : Int) := by omega
          rw [HX.out] at hst2
          by_cases he : (s[k].toNat : Int) = (t[i].toNat : Int)
          · rw [if_pos he] at hst2
            have e1 : ((s[k].toNat : Int) == (t[i].toNat : Int)) = true := by simpa using he
            rw [← HX.out] at hst2
            have HS2 := Lib.hid hst2
            clear hst2 hc1 hTi he
            go_wp2
            go_quiet (fail)
            go_wp2
            all_goals
              go_roundw
              case rel => exact ⟨i + 1, _, by omega, by go_num, by rw [HS2.out]; go_num, rfl⟩
              case measure => simp [intOf]; omega
          · rw [if_neg he] at hst2
            have e1 : ((s[k].toNat : Int) == (t[i].toNat : Int)) = false := by simpa using he
            rw [← HX.out] at hst2
            have HS2 := Lib.hid hst2
            clear hst2 hc1 hTi he
            go_wp2
            go_quiet (fail)
            go_wp2
            all_goals
              go_roundw
              case rel => exact ⟨i + 1, _, by omega, by go_num, by rw [HS2.out]; go_num, rfl⟩
              case measure => simp [intOf]; omega
        · obtain rfl : i = t.size := by omega
          have hfull : T.take t.size = T := List.take_of_length_le (by rw [HTl.out]; exact Nat.le_refl _)
          rw [hfull]
          rw [← HStep.out]
          have hl2 := has_le L T (k + 1) (by rw [HTl.out]; exact ht)
          clear hfull HStep
          go_wp2
          go_roundw
          case rel => exact ⟨k + 1, p, by omega, by go_num, rfl, rfl⟩
          case measure => simp [intOf]; omega
    · obtain rfl : k = s.size := by omega
      have hfull : L.take s.size = L := List.take_of_length_le (by rw [HLl.out]; exact Nat.le_refl _)
      rw [hfull]
      have hl2 := has_le L T s.size (by rw [HTl.out]; exact ht)
      rw [hfull] at hl2
      clear hfull
      go_wp2
      go_ret
      exact ⟨rfl, q, rfl⟩

/-- Is the number as a letter says? -/
def numB (q n area : Int) : Bool := if q = 107 then decide (1 ≤ n ∧ n ≤ 6) else if q = 109 then decide (1 ≤ n ∧ n ≤ 7) else if q = 122 then decide (n = 1 ∨ n = 2 ∨ n = 4 ∨ n = 8) else if q = 102 then decide (0 ≤ n ∧ n ≤ area)
  else if q = 100 then decide (0 ≤ n ∧ n ≤ 8192) else if q = 116 then decide (0 ≤ n ∧ n < 4096) else if q = 99 then decide (0 ≤ n ∧ n < 64) else true
set_option maxHeartbeats 4000000 in
theorem number_any (q n area : Int) (w : World) : Calls Tryz.prog 110 #[.int .u8 q, .int .i64 n, .int .i64 area] w fun e w' => e = .returned (.bool (numB q n area)) ∧ w = w' := by
  by_cases h107 : q = 107
  · subst h107
    by_cases h1 : 1 ≤ n
    · by_cases h2 : n ≤ 6
      · rw [show numB 107 n area = true from decide_eq_true ⟨h1, h2⟩]
        go_enter Tryz.func110, Tryz.ntmps110
        go_wp2
        go_ret
        exact ⟨rfl, rfl⟩
      · rw [show numB 107 n area = false from decide_eq_false (by omega)]
        go_enter Tryz.func110, Tryz.ntmps110
        go_wp2
        go_ret
        exact ⟨rfl, rfl⟩
    · rw [show numB 107 n area = false from decide_eq_false (by omega)]
      go_enter Tryz.func110, Tryz.ntmps110
      go_wp2
      go_ret
      exact ⟨rfl, rfl⟩
  by_cases h109 : q = 109
  · subst h109
    by_cases h1 : 1 ≤ n
    · by_cases h2 : n ≤ 7
      · rw [show numB 109 n area = true from decide_eq_true ⟨h1, h2⟩]
        go_enter Tryz.func110, Tryz.ntmps110
        go_wp2
        go_ret
        exact ⟨rfl, rfl⟩
      · rw [show numB 109 n area = false from decide_eq_false (by omega)]
        go_enter Tryz.func110, Tryz.ntmps110
        go_wp2
        go_ret
        exact ⟨rfl, rfl⟩
    · rw [show numB 109 n area = false from decide_eq_false (by omega)]
      go_enter Tryz.func110, Tryz.ntmps110
      go_wp2
      go_ret
      exact ⟨rfl, rfl⟩
  by_cases h122 : q = 122
  · subst h122
    by_cases z1 : n = 1
    · subst z1
      rw [show numB 122 1 area = true from rfl]
      go_enter Tryz.func110, Tryz.ntmps110
      go_wp2
      go_ret
      exact ⟨rfl, rfl⟩
    by_cases z2 : n = 2
    · subst z2
      rw [show numB 122 2 area = true from rfl]
      go_enter Tryz.func110, Tryz.ntmps110
      go_wp2
      go_ret
      exact ⟨rfl, rfl⟩
    by_cases z4 : n = 4
    · subst z4
      rw [show numB 122 4 area = true from rfl]
      go_enter Tryz.func110, Tryz.ntmps110
      go_wp2
      go_ret
      exact ⟨rfl, rfl⟩
    by_cases z8 : n = 8
    · subst z8
      rw [show numB 122 8 area = true from rfl]
      go_enter Tryz.func110, Tryz.ntmps110
      go_wp2
      go_ret
      exact ⟨rfl, rfl⟩
    rw [show numB 122 n area = false from decide_eq_false (by omega)]
    have e1 : (n == 1) = false := by simpa using z1
    have e2 : (n == 2) = false := by simpa using z2
    have e4 : (n == 4) = false := by simpa using z4
    have e8 : (n == 8) = false := by simpa using z8
    clear z1 z2 z4 z8
    go_enter Tryz.func110, Tryz.ntmps110
    go_wp2
    go_ret
    exact ⟨rfl, rfl⟩
  by_cases h102 : q = 102
  · subst h102
    by_cases h1 : 0 ≤ n
    · by_cases h2 : n ≤ area
      · rw [show numB 102 n area = true from decide_eq_true ⟨h1, h2⟩]
        go_enter Tryz.func110, Tryz.ntmps110
        go_wp2
        go_ret
        exact ⟨rfl, rfl⟩
      · rw [show numB 102 n area = false from decide_eq_false (by omega)]
        go_enter Tryz.func110, Tryz.ntmps110
        go_wp2
        go_ret
        exact ⟨rfl, rfl⟩
    · rw [show numB 102 n area = false from decide_eq_false (by omega)]
      go_enter Tryz.func110, Tryz.ntmps110
      go_wp2
      go_ret
      exact ⟨rfl, rfl⟩
  by_cases h100 : q = 100
  · subst h100
    by_cases h1 : 0 ≤ n
    · by_cases h2 : n ≤ 8192
      · rw [show numB 100 n area = true from decide_eq_true ⟨h1, h2⟩]
        go_enter Tryz.func110, Tryz.ntmps110
        go_wp2
        go_ret
        exact ⟨rfl, rfl⟩
      · rw [show numB 100 n area = false from decide_eq_false (by omega)]
        go_enter Tryz.func110, Tryz.ntmps110
        go_wp2
        go_ret
        exact ⟨rfl, rfl⟩
    · rw [show numB 100 n area = false from decide_eq_false (by omega)]
      go_enter Tryz.func110, Tryz.ntmps110
      go_wp2
      go_ret
      exact ⟨rfl, rfl⟩
  by_cases h116 : q = 116
  · subst h116
    by_cases h1 : 0 ≤ n
    · by_cases h2 : n < 4096
      · rw [show numB 116 n area = true from decide_eq_true ⟨h1, h2⟩]
        go_enter Tryz.func110, Tryz.ntmps110
        go_wp2
        go_ret
        exact ⟨rfl, rfl⟩
      · rw [show numB 116 n area = false from decide_eq_false (by omega)]
        go_enter Tryz.func110, Tryz.ntmps110
        go_wp2
        go_ret
        exact ⟨rfl, rfl⟩
    · rw [show numB 116 n area = false from decide_eq_false (by omega)]
      go_enter Tryz.func110, Tryz.ntmps110
      go_wp2
      go_ret
      exact ⟨rfl, rfl⟩
  by_cases h99 : q = 99
  · subst h99
    by_cases h1 : 0 ≤ n
    · by_cases h2 : n < 64
      · rw [show numB 99 n area = true from decide_eq_true ⟨h1, h2⟩]
        go_enter Tryz.func110, Tryz.ntmps110
        go_wp2
        go_ret
        exact ⟨rfl, rfl⟩
      · rw [show numB 99 n area = false from decide_eq_false (by omega)]
        go_enter Tryz.func110, Tryz.ntmps110
        go_wp2
        go_ret
        exact ⟨rfl, rfl⟩
    · rw [show numB 99 n area = false from decide_eq_false (by omega)]
      go_enter Tryz.func110, Tryz.ntmps110
      go_wp2
      go_ret
      exact ⟨rfl, rfl⟩
  have hn : numB q n area = true := by unfold numB; simp only [h107, h109, h122, h102, h100, h116, h99, if_false]
  rw [hn]
  have e107 : (q == 107) = false := by simpa using h107
  have e109 : (q == 109) = false := by simpa using h109
  have e122 : (q == 122) = false := by simpa using h122
  have e102 : (q == 102) = false := by simpa using h102
  have e100 : (q == 100) = false := by simpa using h100
  have e116 : (q == 116) = false := by simpa using h116
  have e99 : (q == 99) = false := by simpa using h99
  clear hn h107 h109 h122 h102 h100 h116 h99
  go_enter Tryz.func110, Tryz.ntmps110
  go_wp2
  go_ret
  exact ⟨rfl, rfl⟩

end Go.Proofs.YtohlifeenhaifaaGreatDoor

/- (RefC06) The document's own way with registers, with fields that are not there, with whole instructions (twinshaftref06.registers, bare, Same). Contracts; no condition but that the argument is an instruction in memory. -/
namespace Go.Proofs.YtohlifeenhaifaaGreatDoor
open Go.RowKit
set_option linter.unusedVariables false
set_option linter.unusedSimpArgs false

abbrev wrS : ByteArray := ⟨#[119, 114]⟩
theorem regN_le (L : List Int) (k : Nat) : regN (L.take k) + regN (L.drop k) = regN L := by
  induction L generalizing k with
  | nil => simp [regN]
  | cons q qs ih =>
    cases k with
    | zero => simp [regN]
    | succ k => simp only [List.take_succ_cons, List.drop_succ_cons, regN]; have := ih k; omega
theorem regN_step (L : List Int) {k : Nat} (h : k < L.length) : regN (L.take (k + 1)) = regN (L.take k) + (if isReg L[k] then 1 else 0) := by
  have h1 := regN_le L k
  have h2 := regN_le L (k + 1)
  rw [List.drop_eq_getElem_cons h] at h1
  simp only [regN] at h1
  omega
/-- A letter of a register is found among those. -/
theorem has_wr {s : ByteArray} {k : Nat} (h : k < s.size) (hr : isReg (s[k].toNat : Int) = true) : 0 < hasV wrS (s.extract k (k + 1)) := by
  have e : lettersOf (s.extract k (k + 1)) = [(s[k].toNat : Int)] := by
    have hl : (s.extract k (k + 1)).size = 1 := by simp; omega
    apply List.ext_getElem
    · simp [letters_len, hl]
    · intro i h1 h2
      have hi : i = 0 := by simp [letters_len, hl] at h1; omega
      subst hi
      rw [letters_at _ (by omega), ByteArray.getElem_extract]
      simp
  unfold hasV
  rw [e]
  have hw : lettersOf wrS = [119, 114] := by kernel_rfl
  rw [hw]
  have := of_decide_eq_true hr
  rcases this with h | h <;> rw [h] <;> decide
theorem shapes_small (op : Int) : (shapeI op).size ≤ 3 := by
  unfold shapeI
  split
  · rename_i h
    have h2 : shapeL.all (fun s => decide (s.size ≤ 3)) = true := by kernel_rfl
    have hl : shapeL.length = 33 := by kernel_rfl
    have hk : op.toNat < shapeL.length := by omega
    have e : shapeB op.toNat = shapeL[op.toNat] := by simp [shapeB, List.getD, hk]
    rw [e]
    exact of_decide_eq_true (List.all_eq_true.1 h2 _ (List.getElem_mem hk))
  · exact Nat.zero_le _
def RegsDone (w : World) (xs : List Int) (e : Ending) (w' : World) : Prop := ∃ v, e = .returned v ∧ Owns w' w.heap.size 3 1 (IsNum .i64) v xs.length (xs.map (Value.int .i64)) ∧ Below w.heap.size w w'
set_option maxHeartbeats 4000000 in
set_option maxRecDepth 100000 in
theorem registers_any (op a b c n : Int) (X : Value) (w : World) : Calls Tryz.prog 109 #[.agg (insCells op a b c n X), .string wrS] w (RegsDone w ([a, b, c].take (regN (lettersOf (shapeI op))))) := by
  obtain ⟨sh, hsh⟩ : ∃ sh, sh = shapeI op := ⟨_, rfl⟩
  have HS := Lib.hid (fun w => rshape_any op w)
  have hok := shapes_ok op
  have hsm := shapes_small op
  rw [← hsh] at HS hok hsm ⊢
  have hr3 := okShape_reg hok
  obtain ⟨L, hL⟩ : ∃ L, L = lettersOf sh := ⟨_, rfl⟩
  have hlen : L.length = sh.size := by rw [hL, letters_len]
  rw [← hL] at hr3 ⊢
  have HH := Lib.hid (fun (t : ByteArray) (w : World) (ht : t.size ≤ 100) => has_any wrS t w (by decide) ht)
  obtain ⟨i0, hi, hz0, hz1, hz2⟩ := info_parts int_info
  have HI := Lib.hid hi
  have HZ0 := Lib.hid hz0
  have HZ1 := Lib.hid hz1
  have HZ2 := Lib.hid hz2
  have HL := Lib.hid hL
  have HLen := Lib.hid hlen
  clear hi hz0 hz1 hz2 hsh hok hL hlen
  go_enter Tryz.func109, Tryz.ntmps109
  go_wp2_with (go_at_call 35; (with_reducible refine (HS.out _).mono ?_); rintro e w1 ⟨rfl, rfl⟩)
  obtain ⟨R, hR⟩ : ∃ R, R = w.heap.size + 1 := ⟨_, rfl⟩
  obtain ⟨w1, hw1⟩ : ∃ w1, w1 = (w.alloc (.cells (insCells op a b c n X) 28)).alloc (.cells #[.int .i64 a, .int .i64 b, .int .i64 c] 3) := ⟨_, rfl⟩
  have hrow : w1.heap[R]? = some (.cells #[.int .i64 a, .int .i64 b, .int .i64 c] 3 (0, 0)) := by
    rw [hw1, hR]
    have := heap_alloc_new (w.alloc (.cells (insCells op a b c n X) 28)) (.cells #[.int .i64 a, .int .i64 b, .int .i64 c] 3)
    simpa using this
  have hb1 : Below w.heap.size w w1 := by rw [hw1]; exact ((Below.refl _ w).alloc (Nat.le_refl _) _).alloc (by simp) _
  rw [← hw1, ← hR]
  have HRow := Lib.hid hrow
  have HB1 := Lib.hid hb1
  have hRW : w.heap.size < R := by omega
  clear hw1 hR hrow hb1
  go_loopw [7, 8, 9] (fun out at' i wr => ∃ k j : Nat, k ≤ sh.size ∧ i = .int .i64 k ∧ at' = .int .i64 j ∧ j = regN (L.take k) ∧ Owns wr (R + 1) 3 1 (IsNum .i64) out j (([a, b, c].take j).map (Value.int .i64)) ∧ Below w.heap.size w wr ∧ wr.heap[R]? = some (.cells #[.int .i64 a, .int .i64 b, .int .i64 c] 3 (0, 0))) (fun _ _ i _ => sh.size - (intOf i).toNat)
  case atStart => exact ⟨0, 0, by omega, rfl, rfl, by simp [regN], Owns.nil _ _ _ _ _, HB1.out, HRow.out⟩
  case round =>
    obtain ⟨k, j, hk, rfl, rfl, hj, hO, hB, hRw⟩ := hrel
    have HO := Lib.hid hO
    have HB := Lib.hid hB
    have HRw := Lib.hid hRw
    have HJ := Lib.hid hj
    by_cases hlt : k < sh.size
    · have hst := regN_step L (k := k) (by rw [HLen.out]; exact hlt)
      have hLk : L[k]'(by rw [HLen.out]; exact hlt) = (sh[k].toNat : Int) := by
        have h2 : L = lettersOf sh := HL.out
        subst h2
        exact letters_at sh hlt
      rw [hLk, ← hj] at hst
      have hle := regN_le L (k + 1)
      have k0 : (0 : Int) ≤ (k : Int) := by omega
      have HW := Lib.hid (fun h => has_wr hlt h)
      obtain ⟨q, hq⟩ : ∃ q : Int, q = (sh[k].toNat : Int) := ⟨_, rfl⟩
      by_cases hreg : isReg (sh[k].toNat : Int) = true
      · have hw0 := HW.out hreg
        have hxs : (sh.extract k (k + 1)).size ≤ 100 := by simp; omega
        rw [hreg, if_pos rfl] at hst
        have hj3 : j < 3 := by omega
        obtain ⟨x, hx⟩ : ∃ x, x = [a, b, c].getD j 0 := ⟨_, rfl⟩
        have HX := Lib.hid hx
        have hcell : wr.cell? ⟨R, j, none⟩ = some (.int .i64 x) := by
          rw [hx]
          rcases (show j = 0 ∨ j = 1 ∨ j = 2 by omega) with h | h | h <;> simp [World.cell?, hRw, h]
        have hHH := HH.out (sh.extract k (k + 1))
        obtain ⟨hv, hhv⟩ : ∃ hv, hv = hasV wrS (sh.extract k (k + 1)) := ⟨_, rfl⟩
        rw [← hhv] at hHH hw0
        have HH2 := Lib.hid (fun w => hHH w hxs)
        have HS2 := Lib.hid hst
        have j0 : (0 : Int) ≤ (j : Int) := by omega
        clear hx hHH hhv hst hj hO hB hRw hLk hle hxs hq
        rcases of_decide_eq_true hreg with hq | hq
        · have e1 : ((sh[k].toNat : Int) != 119) = false := by simp [hq]
          have HQ := Lib.hid hq
          clear hq hreg
          go_wp2_with (first
            | (go_at_call 129; (with_reducible refine (HH2.out _).mono ?_); rintro e w2 ⟨rfl, kd, rfl⟩)
            | (at_builtin; refine wpList_append_q _ rfl (.tmp 44) (.tmp 49) 26 rfl (R + 1) 3 i0 _ 1 8 Tryz.underlying26 HI.out HZ0.out HZ1.out HZ2.out rfl (by decide) (IsNum .i64) (zero_num .i64) _ j _ rfl ((HO.out.drewN kd).alloc _) ⟨(wr.drewN kd).heap.size, 0, none⟩ 1 1 [.int .i64 x] rfl rfl (cell_one_new _ _ _) (by simp [Value.oneCell']) (by intro u hu; simp at hu; subst hu; exact ⟨_, rfl⟩) (by simp only [maxLen]; omega) (by omega) (by have := heap_lt HRw.out; simp; omega) ?_; intro v' w2 hown' hgrow; have hgrow2 : World.grownBy _ w2 u7.ownBlock := hgrow; have HO2 := Lib.hid hown'; have HG := Lib.hid hgrow2; clear hown' hgrow hgrow2))
          go_roundw
          case rel => exact ⟨k + 1, j + 1, by omega, by go_num, by go_num, HS2.out.symm, by rw [take_snocF [a, b, c] (show j < [a, b, c].length from hj3) (Value.int .i64), ← HX.out]; exact HO2.out, ((below_drewN HB.out kd).alloc (show w.heap.size ≤ wr.heap.size from HB.out.size) _).grown HG.out (by have := HB.out.size; simp; omega) (fun g hg => by have := (HO.out.lt hg).1; omega), (HG.out.block R (by have := heap_lt HRw.out; simp; omega) (fun e => by have := (HO.out.lt e.symm).1; omega)).trans ((Below.heap_alloc _ _ _ (show R < wr.heap.size from heap_lt HRw.out)).trans HRw.out)⟩
          case measure => simp [intOf]; omega
        · have e1 : ((sh[k].toNat : Int) != 119) = true := by simp [hq]
          have e2 : ((sh[k].toNat : Int) != 114) = false := by simp [hq]
          have HQ := Lib.hid hq
          clear hq hreg
          go_wp2_with (first
            | (go_at_call 129; (with_reducible refine (HH2.out _).mono ?_); rintro e w2 ⟨rfl, kd, rfl⟩)
            | (at_builtin; refine wpList_append_q _ rfl (.tmp 44) (.tmp 49) 26 rfl (R + 1) 3 i0 _ 1 8 Tryz.underlying26 HI.out HZ0.out HZ1.out HZ2.out rfl (by decide) (IsNum .i64) (zero_num .i64) _ j _ rfl ((HO.out.drewN kd).alloc _) ⟨(wr.drewN kd).heap.size, 0, none⟩ 1 1 [.int .i64 x] rfl rfl (cell_one_new _ _ _) (by simp [Value.oneCell']) (by intro u hu; simp at hu; subst hu; exact ⟨_, rfl⟩) (by simp only [maxLen]; omega) (by omega) (by have := heap_lt HRw.out; simp; omega) ?_; intro v' w2 hown' hgrow; have hgrow2 : World.grownBy _ w2 u7.ownBlock := hgrow; have HO2 := Lib.hid hown'; have HG := Lib.hid hgrow2; clear hown' hgrow hgrow2))
          go_roundw
          case rel => exact ⟨k + 1, j + 1, by omega, by go_num, by go_num, HS2.out.symm, by rw [take_snocF [a, b, c] (show j < [a, b, c].length from hj3) (Value.int .i64), ← HX.out]; exact HO2.out, ((below_drewN HB.out kd).alloc (show w.heap.size ≤ wr.heap.size from HB.out.size) _).grown HG.out (by have := HB.out.size; simp; omega) (fun g hg => by have := (HO.out.lt hg).1; omega), (HG.out.block R (by have := heap_lt HRw.out; simp; omega) (fun e => by have := (HO.out.lt e.symm).1; omega)).trans ((Below.heap_alloc _ _ _ (show R < wr.heap.size from heap_lt HRw.out)).trans HRw.out)⟩
          case measure => simp [intOf]; omega
      · have hq : (sh[k].toNat : Int) ≠ 119 ∧ (sh[k].toNat : Int) ≠ 114 := by
          have h := of_decide_eq_false (Bool.eq_false_iff.2 hreg)
          exact not_or.1 h
        have e1 : ((sh[k].toNat : Int) != 119) = true := by simpa using hq.1
        have e2 : ((sh[k].toNat : Int) != 114) = true := by simpa using hq.2
        rw [if_neg hreg] at hst
        have HS2 := Lib.hid hst
        clear hst hj hO hB hRw hLk hle hq hreg
        go_wp2
        go_roundw
        case rel => exact ⟨k + 1, j, by omega, by go_num, rfl, by rw [HS2.out]; rfl, HO.out, HB.out, HRw.out⟩
        case measure => simp [intOf]; omega
    · obtain rfl : k = sh.size := by omega
      have hfull : L.take sh.size = L := List.take_of_length_le (by rw [HLen.out]; exact Nat.le_refl _)
      rw [hfull] at hj
      have HJ2 := Lib.hid hj
      clear hfull hj hO hB hRw
      go_wp2
      go_ret
      refine ⟨_, rfl, ?_, HB.out⟩
      rw [← HJ2.out]
      have h := HO.out.base (base' := w.heap.size) (by omega)
      have hj5 := HJ2.out
      have hl : ([a, b, c].take j).length = j := by simp; omega
      rw [hl]
      exact h

end Go.Proofs.YtohlifeenhaifaaGreatDoor

/- (Rest06) The landed op.rest: what an instruction has beside the fields of its shape. Contract; no condition. -/
namespace Go.Proofs.YtohlifeenhaifaaGreatDoor
open Go.RowKit
set_option linter.unusedVariables false
set_option linter.unusedSimpArgs false

/-- Is there a letter of the number? -/
def hasN (L : List Int) : Bool := L.any (fun q => !isReg q && !(q == 108))
theorem hasN_step (L : List Int) {k : Nat} (h : k < L.length) : hasN (L.take (k + 1)) = (hasN (L.take k) || (!isReg L[k] && !(L[k] == 108))) := by
  unfold hasN
  rw [List.take_succ_eq_append_getElem h, List.any_append]
  simp only [List.any_cons, List.any_nil, Bool.or_false]
def conL (L : List Int) : Bool := L.any (fun q => q == 108)
theorem con_step (L : List Int) {k : Nat} (h : k < L.length) : conL (L.take (k + 1)) = (conL (L.take k) || (L[k] == 108)) := by
  unfold conL
  rw [List.take_succ_eq_append_getElem h, List.any_append]
  simp only [List.any_cons, List.any_nil, Bool.or_false]
/-- What is left of the registers, the number, Args. -/
def restR (j i : Nat) (x : Int) : Int := if i < j then 0 else x
def restN (L : List Int) (n : Int) : Int := if hasN L then 0 else n
def restX (L : List Int) (X : Value) : Value := if conL L then .slice none 0 0 else X
structure RestAt (w wr : World) (b0 b1 R T : Nat) (op a b c n : Int) (X : Value) (sh : ByteArray) (L : List Int) (k j : Nat) : Prop where
  box : wr.heap[b0]? = some (.cells (insCells op (restR j 0 a) (restR j 1 b) (restR j 2 c) (restN (L.take k) n) (restX (L.take k) X)) 28 (0, 0))
  res : wr.heap[b1]? = some (.cells (insCells 0 0 0 0 0 (.slice none 0 0)) 28 (0, 0))
  row : wr.heap[R]? = some (.cells #[.pointer (some ⟨b0, 1, none⟩), .pointer (some ⟨b0, 2, none⟩), .pointer (some ⟨b0, 3, none⟩)] 65 (0, 0))
  it : wr.heap[T]? = some (.stringIter sh k)
  bel : Below w.heap.size w wr
structure RestNo (w : World) (b0 b1 R T : Nat) : Prop where
  lo : w.heap.size ≤ b0
  n1 : b1 ≠ b0
  n2 : R ≠ b0
  n3 : T ≠ b0
  n4 : T ≠ b1
  n5 : T ≠ R
  t : w.heap.size ≤ T
  lo1 : w.heap.size ≤ b1
theorem RestAt.turn {w wr : World} {b0 b1 R T : Nat} {op a b c n : Int} {X : Value} {sh : ByteArray} {L : List Int} {k j : Nat} (h : RestAt w wr b0 b1 R T op a b c n X sh L k j) (hn : RestNo w b0 b1 R T) :
    (wr.iterAt T sh (k + 1)).heap[b0]? = wr.heap[b0]? ∧ (wr.iterAt T sh (k + 1)).heap[b1]? = wr.heap[b1]? ∧ (wr.iterAt T sh (k + 1)).heap[R]? = wr.heap[R]? ∧ (wr.iterAt T sh (k + 1)).heap[T]? = some (.stringIter sh (k + 1)) ∧ Below w.heap.size w (wr.iterAt T sh (k + 1)) :=
  ⟨Lib.iterAt_other _ _ _ _ _ (Ne.symm hn.n3), Lib.iterAt_other _ _ _ _ _ (Ne.symm hn.n4), Lib.iterAt_other _ _ _ _ _ (Ne.symm hn.n5), Lib.iterAt_heap _ _ _ _ _ h.it, Lib.below_iterAt h.bel hn.t _ _⟩
/-- A round, by what its store leaves. -/
theorem RestAt.next {w wr w2 : World} {b0 b1 R T : Nat} {op a b c n : Int} {X : Value} {sh : ByteArray} {L : List Int} {k j : Nat} (h : RestAt w wr b0 b1 R T op a b c n X sh L k j) (hn : RestNo w b0 b1 R T)
    (hw : w2 = wr.iterAt T sh (k + 1)) {cs : Array Value} (hbox : w2.heap[b0]? = some (.cells cs 28 (0, 0))) (i : Nat) (v : Value) (j' : Nat)
    (hc : cs.setIfInBounds i v = insCells op (restR j' 0 a) (restR j' 1 b) (restR j' 2 c) (restN (L.take (k + 1)) n) (restX (L.take (k + 1)) X)) :
    RestAt w (w2.setCell ⟨b0, i, none⟩ v) b0 b1 R T op a b c n X sh L (k + 1) j' := by
  obtain ⟨t1, t2, t3, t4, t5⟩ := h.turn hn
  rw [← hw] at t1 t2 t3 t4 t5
  refine ⟨?_, ?_, ?_, ?_, t5.setCell (p := ⟨b0, i, none⟩) hn.lo _⟩
  · rw [heap_setCell_same w2 b0 i cs _ v hbox, hc]
  · rw [Below.heap_setCell _ _ _ _ hn.n1, t2]; exact h.res
  · rw [Below.heap_setCell _ _ _ _ hn.n2, t3]; exact h.row
  · rw [Below.heap_setCell _ _ _ _ hn.n3]; exact t4
theorem restR_zero (j i : Nat) (h : i < j) (x : Int) : restR j i x = 0 := if_pos h
theorem restR_same (j i : Nat) (h : ¬ i < j) (x : Int) : restR j i x = x := if_neg h
set_option maxHeartbeats 4000000 in
set_option maxRecDepth 100000 in
theorem rest_any (op a b c n : Int) (X : Value) (w : World) (hX : ∃ A l cap, X = .slice A l cap) : Calls Tryz.prog 122 #[.agg (insCells op a b c n X)] w
    (Makes w (.agg (insCells op (restR (regN (lettersOf (shapeI op))) 0 a) (restR (regN (lettersOf (shapeI op))) 1 b) (restR (regN (lettersOf (shapeI op))) 2 c) (restN (lettersOf (shapeI op)) n) (restX (lettersOf (shapeI op)) X)))) := by
  obtain ⟨sh, hsh⟩ : ∃ sh, sh = shapeI op := ⟨_, rfl⟩
  have HS := Lib.hid (fun w => shape_any op w)
  have hok := shapes_ok op
  rw [← hsh] at HS hok ⊢
  have hr3 := okShape_reg hok
  obtain ⟨L, hL⟩ : ∃ L, L = lettersOf sh := ⟨_, rfl⟩
  have hlen : L.length = sh.size := by rw [hL, letters_len]
  rw [← hL] at hr3 ⊢
  have HL := Lib.hid hL
  have HLen := Lib.hid hlen
  have HOk := Lib.hid hok
  obtain ⟨XA, Xl, Xc, hXe⟩ := hX
  have HXE := Lib.hid hXe
  clear hsh hok hL hlen hXe
  go_enter Tryz.func122, Tryz.ntmps122
  go_wp2_with (go_at_call 56; (with_reducible refine (HS.out _).mono ?_); rintro e w1 ⟨rfl, hB⟩; have HB := Lib.hid hB; clear hB)
  obtain ⟨b0, hb0⟩ : ∃ b0, b0 = w.heap.size := ⟨_, rfl⟩
  obtain ⟨b1, hb1⟩ : ∃ b1, b1 = w.heap.size + 1 := ⟨_, rfl⟩
  obtain ⟨R, hR⟩ : ∃ R, R = w.heap.size + 1 + 1 := ⟨_, rfl⟩
  obtain ⟨T, hT⟩ : ∃ T, T = w1.heap.size := ⟨_, rfl⟩
  obtain ⟨w2, hw2⟩ : ∃ w2, w2 = w1.iter sh 0 := ⟨_, rfl⟩
  have s1 := HB.out.size
  simp only [World.size_alloc] at s1
  have hn : RestNo w b0 b1 R T := ⟨by omega, by omega, by omega, by omega, by omega, by omega, by omega, by omega⟩
  have hs : RestAt w w2 b0 b1 R T op a b c n X sh L 0 0 := by
    have hblk : ∀ g, g < w.heap.size + 1 + 1 + 1 → w2.heap[g]? = (((w.alloc (.cells (insCells op a b c n X) 28)).alloc (.cells (insCells 0 0 0 0 0 (.slice none 0 0)) 28)).alloc (.cells #[.pointer (some ⟨w.heap.size, 1, none⟩), .pointer (some ⟨w.heap.size, 2, none⟩), .pointer (some ⟨w.heap.size, 3, none⟩)] 65)).heap[g]? := fun g hg => by
      rw [hw2]
      exact (Below.heap_alloc w1 _ g (by omega)).trans (HB.out.block g (by simp; omega))
    refine ⟨?_, ?_, ?_, ?_, ?_⟩
    · rw [hblk b0 (by omega), Below.heap_alloc _ _ _ (by simp; omega), Below.heap_alloc _ _ _ (by simp; omega), hb0]
      exact heap_alloc_new _ _
    · rw [hblk b1 (by omega), Below.heap_alloc _ _ _ (by simp; omega), hb1]
      have := heap_alloc_new (w.alloc (.cells (insCells op a b c n X) 28)) (.cells (insCells 0 0 0 0 0 (.slice none 0 0)) 28)
      rwa [World.size_alloc] at this
    · rw [hblk R (by omega), hR, hb0]
      have := heap_alloc_new ((w.alloc (.cells (insCells op a b c n X) 28)).alloc (.cells (insCells 0 0 0 0 0 (.slice none 0 0)) 28)) (.cells #[.pointer (some ⟨w.heap.size, 1, none⟩), .pointer (some ⟨w.heap.size, 2, none⟩), .pointer (some ⟨w.heap.size, 3, none⟩)] 65)
      rwa [World.size_alloc, World.size_alloc] at this
    · rw [hw2, hT]; exact World.iter_heap _ _ _
    · rw [hw2]
      exact (((((Below.refl _ w).alloc (Nat.le_refl _) _).alloc (by simp) _).alloc (by simp; omega) _).trans (HB.out.mono (by simp; omega))).alloc (by omega) _
  rw [← hw2, ← hT, ← hR, ← hb1, ← hb0]
  have HN := Lib.hid hn
  have HA := Lib.hid hs
  clear hn hs hb0 hb1 hR hT hw2 HB s1
  clear w1
  go_loopw [3] (fun r wr => ∃ k j : Nat, k ≤ sh.size ∧ j = regN (L.take k) ∧ RegS R j r ∧ RestAt w wr b0 b1 R T op a b c n X sh L k j) (fun _ wr => sh.size - wr.iterPos T)
  case atStart => exact ⟨0, 0, Nat.zero_le _, by simp [regN], ⟨_, rfl, fun _ => rfl⟩, HA.out⟩
  case round =>
    obtain ⟨k, j, hk, hj, hr, hA⟩ := hrel
    have HA := Lib.hid hA
    have HT := Lib.hid hA.it
    have HJ := Lib.hid hj
    by_cases hlt : k < sh.size
    · have hq0 := okShape_lt HOk.out hlt
      have hnx0 : ∀ ty, (Instr.next (.pointer (some ⟨T, 0, none⟩)) true ty).run Tryz.prog wr = _ := fun ty => Lib.run_next_ascii_at wr T sh k ty hA.it hlt hq0
      have hLk : L[k]'(by rw [HLen.out]; exact hlt) = (sh[k].toNat : Int) := by
        have h2 : L = lettersOf sh := HL.out
        subst h2
        exact letters_at sh hlt
      have hst := regN_step L (k := k) (by rw [HLen.out]; exact hlt)
      have hns := hasN_step L (k := k) (by rw [HLen.out]; exact hlt)
      have hcs := con_step L (k := k) (by rw [HLen.out]; exact hlt)
      rw [hLk] at hst hns hcs
      rw [← hj] at hst
      have hle := regN_le L (k + 1)
      obtain ⟨q, hq⟩ : ∃ q : Int, q = (sh[k].toNat : Int) := ⟨_, rfl⟩
      rw [← hq] at hnx0 hst hns hcs
      obtain ⟨w', hw'⟩ : ∃ w', w' = wr.iterAt T sh (k + 1) := ⟨_, rfl⟩
      rw [← hw'] at hnx0
      have hnx : ∀ ty, (Instr.next (.pointer (some ⟨T, 0, none⟩)) true ty).run Tryz.prog wr = .ok (.tuple #[.bool true, .int .i64 k, .int .i32 q]) w' := hnx0
      obtain ⟨t1, t2, t3, t4, t5⟩ := hA.turn HN.out
      rw [← hw'] at t1 t2 t3 t4 t5
      have hbox := t1.trans hA.box
      have hrow := t3.trans hA.row
      have HW := Lib.hid hw'
      have HT4 := Lib.hid t4
      have HBx := Lib.hid hbox
      have HRw := Lib.hid hrow
      have HSt := Lib.hid hst
      have HNs := Lib.hid hns
      have HCs := Lib.hid hcs
      obtain ⟨c0, c1, c2, c3, c4, c5⟩ := cells6 hbox
      have HF := Lib.hid (fun i => free6 hbox i)
      clear hnx0 hq hLk hw' t1 t2 t3 t4 t5 hA hbox hrow c0
      clear hns hcs
      by_cases hreg : isReg q = true
      · rw [hreg, if_pos rfl] at hst
        rw [hst] at hle
        have hj3 : j < 3 := by omega
        obtain ⟨A, rfl, hAd⟩ := hr
        obtain rfl := hAd hj3
        have HS2 := Lib.hid hst
        have HHN : Hid (hasN (L.take (k + 1)) = hasN (L.take k)) := Lib.hid (by rw [HNs.out, hreg]; simp)
        have hn8 : (q == 108) = false := by rcases of_decide_eq_true hreg with h | h <;> rw [h] <;> rfl
        have HHC : Hid (conL (L.take (k + 1)) = conL (L.take k)) := Lib.hid (by rw [HCs.out, hn8]; simp)
        have p0 : w'.cell? ⟨R, 0, none⟩ = some (.pointer (some ⟨b0, 1, none⟩)) := by simp [World.cell?, HRw.out]
        have p1 : w'.cell? ⟨R, 1, none⟩ = some (.pointer (some ⟨b0, 2, none⟩)) := by simp [World.cell?, HRw.out]
        have p2 : w'.cell? ⟨R, 2, none⟩ = some (.pointer (some ⟨b0, 3, none⟩)) := by simp [World.cell?, HRw.out]
        have f1 := HF.out 1
        have f2 := HF.out 2
        have f3 := HF.out 3
        clear hst hle hj hAd hn8 HNs HCs HSt
        have hregq := of_decide_eq_true hreg
        clear hreg
        rcases hregq with rfl | rfl <;> rcases (show j = 0 ∨ j = 1 ∨ j = 2 by omega) with rfl | rfl | rfl
        all_goals
          simp only [Nat.sub_zero, Nat.reduceSub]
          go_wp2
          go_roundw
          case rel => exact ⟨k + 1, _, hlt, HS2.out.symm, ⟨_, rfl, fun h => by first | rfl | omega⟩, HA.out.next HN.out HW.out HBx.out _ _ _ (by unfold restN restX; rw [HHN.out, HHC.out]; simp [restR])⟩
          case measure => rw [iterPos_of ((Below.heap_setCell _ _ _ _ HN.out.n3).trans HT4.out), iterPos_of HT.out]; omega
      · obtain ⟨A, rfl, hAd⟩ := hr
        have HAd := Lib.hid hAd
        have hq1 : q ≠ 119 ∧ q ≠ 114 := not_or.1 (of_decide_eq_false (Bool.eq_false_iff.2 hreg))
        have e1 : (q == 119) = false := by simpa using hq1.1
        have e2 : (q == 114) = false := by simpa using hq1.2
        have hrf : isReg q = false := Bool.eq_false_iff.2 hreg
        rw [if_neg hreg] at hst
        have HS2 := Lib.hid hst
        have HRF := Lib.hid hrf
        have f4 := HF.out 4
        have f5 := HF.out 5
        clear hst hle hj hAd HSt hreg hq1 hrf
        by_cases hq8 : q = 108
        · subst hq8
          have HHN : Hid (hasN (L.take (k + 1)) = hasN (L.take k)) := Lib.hid (by rw [HNs.out]; simp)
          have HHC : Hid (conL (L.take (k + 1)) = true) := Lib.hid (by rw [HCs.out]; simp)
          clear HNs HCs e1 e2
          go_wp2
          go_roundw
          case rel => exact ⟨k + 1, _, hlt, HS2.out.symm, ⟨_, rfl, HAd.out⟩, HA.out.next HN.out HW.out HBx.out _ _ _ (by unfold restN restX; rw [HHN.out, HHC.out]; simp)⟩
          case measure => rw [iterPos_of ((Below.heap_setCell _ _ _ _ HN.out.n3).trans HT4.out), iterPos_of HT.out]; omega
        · have e3 : (q == 108) = false := by simpa using hq8
          have HHN : Hid (hasN (L.take (k + 1)) = true) := Lib.hid (by rw [HNs.out, HRF.out, e3]; simp)
          have HHC : Hid (conL (L.take (k + 1)) = conL (L.take k)) := Lib.hid (by rw [HCs.out, e3]; simp)
          clear HNs HCs hq8
          go_wp2
          go_roundw
          case rel => exact ⟨k + 1, _, hlt, HS2.out.symm, ⟨_, rfl, HAd.out⟩, HA.out.next HN.out HW.out HBx.out _ _ _ (by unfold restN restX; rw [HHN.out, HHC.out]; simp)⟩
          case measure => rw [iterPos_of ((Below.heap_setCell _ _ _ _ HN.out.n3).trans HT4.out), iterPos_of HT.out]; omega
    · obtain rfl : k = sh.size := by omega
      have hfull : L.take sh.size = L := List.take_of_length_le (by rw [HLen.out]; exact Nat.le_refl _)
      have hnx : ∀ ty, (Instr.next (.pointer (some ⟨T, 0, none⟩)) true ty).run Tryz.prog wr = .ok (.tuple #[.bool false]) wr := fun ty => Lib.run_next_end_at wr T sh sh.size ty hA.it (by omega)
      have hbx := hA.box
      have hrs := hA.res
      rw [hfull] at hbx hj
      obtain ⟨xa, hxa⟩ : ∃ xa, xa = restR j 0 a := ⟨_, rfl⟩
      obtain ⟨xb, hxb⟩ : ∃ xb, xb = restR j 1 b := ⟨_, rfl⟩
      obtain ⟨xc, hxc⟩ : ∃ xc, xc = restR j 2 c := ⟨_, rfl⟩
      obtain ⟨xn, hxn⟩ : ∃ xn, xn = restN L n := ⟨_, rfl⟩
      obtain ⟨YA, Yl, Yc, hY⟩ : ∃ A l cap, restX L X = .slice A l cap := by
        unfold restX
        split
        · exact ⟨_, _, _, rfl⟩
        · exact ⟨_, _, _, HXE.out⟩
      rw [← hxa, ← hxb, ← hxc, ← hxn, hY] at hbx
      have HE : Hid (Value.agg (insCells op (restR (regN L) 0 a) (restR (regN L) 1 b) (restR (regN L) 2 c) (restN L n) (restX L X)) = .agg (insCells op xa xb xc xn (.slice YA Yl Yc))) := by
        rw [← hj, hxa, hxb, hxc, hxn, hY]
        exact Lib.hid rfl
      obtain ⟨c0, c1, c2, c3, c4, c5⟩ := cells6 hbx
      obtain ⟨d0, d1, d2, d3, d4, d5⟩ := cells6 hrs
      have g0 := free6 hrs 0
      have g1 := free6 hrs 1
      have g2 := free6 hrs 2
      have g3 := free6 hrs 3
      have g4 := free6 hrs 4
      have g5 := free6 hrs 5
      have HBel := Lib.hid hA.bel
      have HN1 : Hid (w.heap.size ≤ b1) := Lib.hid HN.out.lo1
      clear hA hbx hrs hj hxa hxb hxc hxn hY hfull hr HA HT
      go_wp2
      refine bodyPost_ret (v := .agg (insCells op xa xb xc xn (.slice YA Yl Yc))) (by simp [results, Tryz.results122, go_sem, d0, d1, d2, d3, d4, d5]) rfl ⟨by rw [HE.out], ?_⟩
      exact (((((HBel.out.setCell (p := ⟨b1, 0, none⟩) HN1.out _).setCell (p := ⟨b1, 1, none⟩) HN1.out _).setCell (p := ⟨b1, 2, none⟩) HN1.out _).setCell (p := ⟨b1, 3, none⟩) HN1.out _).setCell (p := ⟨b1, 4, none⟩) HN1.out _).setCell (p := ⟨b1, 5, none⟩) HN1.out _

end Go.Proofs.YtohlifeenhaifaaGreatDoor
