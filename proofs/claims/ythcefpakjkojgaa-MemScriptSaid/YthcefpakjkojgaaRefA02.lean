/- What the document's own way of layer 2 returns and leaves: contracts for any of its memories, any place, any number and any bytes, in whatever memory of the program. -/
import Derived.Test.YthcefpakjkojgaaNumMath
import Derived.StillTailTactics
namespace Go.Proofs.Ythcefpakjkojgaa
open Go.RowKit
set_option linter.unusedVariables false

/-- A memory of the document's own way: a block that leads to its bytes, and the block of its bytes. -/
structure RefAt (w : World) (mb bb c : Nat) (xs : List Int) : Prop where
  head : w.heap[mb]? = some (.cells #[.slice (some ⟨bb, 0, none⟩) xs.length c] 62 (0, 0))
  row : Row 5 w bb c xs
  bd : ∀ x ∈ xs, 0 ≤ x ∧ x < 256
  lo : 16 ≤ xs.length
  hi : xs.length ≤ 65536
  cap : c ≤ maxLen
theorem RefAt.ne {w : World} {mb bb c : Nat} {xs : List Int} (h : RefAt w mb bb c xs) : mb ≠ bb := by
  intro e
  subst e
  obtain ⟨cur, h1, _⟩ := h.row
  rw [h.head] at h1
  injection h1 with h1
  injection h1 with _ h1 _
  exact absurd h1 (by decide)
theorem RefAt.cell0 {w : World} {mb bb c : Nat} {xs : List Int} (h : RefAt w mb bb c xs) : w.cell? ⟨mb, 0, none⟩ = some (.slice (some ⟨bb, 0, none⟩) xs.length c) := by
  rw [cell_of_row w mb 0 _ _ _ h.head]; rfl
theorem RefAt.but {w w' : World} {mb bb c : Nat} {xs : List Int} {R : Nat → Prop} (h : RefAt w mb bb c xs) (hb : But R w w') (h1 : ¬ R mb) (h2 : ¬ R bb) : RefAt w' mb bb c xs :=
  ⟨hb.heap h.head h1, h.row.but hb h2, h.bd, h.lo, h.hi, h.cap⟩
theorem RefAt.lt {w : World} {mb bb c : Nat} {xs : List Int} (h : RefAt w mb bb c xs) : mb < w.heap.size ∧ bb < w.heap.size := ⟨heap_lt h.head, h.row.lt⟩
theorem RefAt.drewN {w : World} {mb bb c : Nat} {xs : List Int} (h : RefAt w mb bb c xs) (n : Nat) : RefAt (w.drewN n) mb bb c xs := h.but ((But.refl NoBlock w).drewN n) (noBlock_not _) (noBlock_not _)
theorem RefAt.below {w w' : World} {mb bb c : Nat} {xs : List Int} (h : RefAt w mb bb c xs) (hb : Below w.heap.size w w') : RefAt w' mb bb c xs := h.but (But.of_below (R := NoBlock) hb) (noBlock_not _) (noBlock_not _)
theorem RefAt.rowcap {w : World} {mb bb c : Nat} {xs : List Int} (h : RefAt w mb bb c xs) : xs.length ≤ c := by obtain ⟨_, _, _, _, h4⟩ := h.row; exact h4
/-- A byte is laid. -/
theorem RefAt.set {w : World} {mb bb c : Nat} {xs : List Int} (h : RefAt w mb bb c xs) {i : Nat} (hi : i < xs.length) {y : Int} (hy : 0 ≤ y ∧ y < 256) : RefAt (w.setCell ⟨bb, i, none⟩ (.int .u8 y)) mb bb c (xs.set i y) := by
  refine ⟨?_, h.row.set hi y, ?_, by simpa using h.lo, by simpa using h.hi, h.cap⟩
  · rw [Below.heap_setCell _ _ _ _ (show mb ≠ bb from h.ne), List.length_set]
    exact h.head
  · intro x hx
    rcases List.mem_or_eq_of_mem_set hx with h1 | h1
    · exact h.bd x h1
    · subst h1; exact hy

theorem rsized_any (s : Int) (w : World) : Calls Try.prog 44 #[.int .i64 s] w fun e w' => e = .returned (.bool (sizedB s)) ∧ w = w' := by
  by_cases h1 : s = 1
  · subst h1
    go_enter Try.func44, Try.ntmps44
    go_wp2
    go_ret
    exact ⟨rfl, rfl⟩
  by_cases h2 : s = 2
  · subst h2
    go_enter Try.func44, Try.ntmps44
    go_wp2
    go_ret
    exact ⟨rfl, rfl⟩
  by_cases h4 : s = 4
  · subst h4
    go_enter Try.func44, Try.ntmps44
    go_wp2
    go_ret
    exact ⟨rfl, rfl⟩
  by_cases h8 : s = 8
  · subst h8
    go_enter Try.func44, Try.ntmps44
    go_wp2
    go_ret
    exact ⟨rfl, rfl⟩
  have e : sizedB s = false := by simp [sizedB, h1, h2, h4, h8]
  rw [e]
  clear e
  have b1 : (s == 1) = false := by simpa using h1
  have b2 : (s == 2) = false := by simpa using h2
  have b4 : (s == 4) = false := by simpa using h4
  have b8 : (s == 8) = false := by simpa using h8
  clear h1 h2 h4 h8
  go_enter Try.func44, Try.ntmps44
  go_wp2
  go_ret
  exact ⟨rfl, rfl⟩

theorem fits_yes {mb bb c : Nat} {xs : List Int} {w : World} (h : RefAt w mb bb c xs) (k m : Nat) (hk : 16 ≤ k) (hkm : k + m ≤ xs.length) :
    Calls Try.prog 45 #[.pointer (some ⟨mb, 0, none⟩), .int .u64 k, .int .i64 m] w fun e w' => e = .returned (.bool true) ∧ w = w' := by
  have h1 := h.cell0
  have hl := h.hi
  obtain ⟨L, hL⟩ : ∃ L, L = xs.length := ⟨_, rfl⟩
  rw [← hL] at h1 hl hkm
  have c1 : (m : Int) ≤ (L : Int) := by omega
  have c2 : (k : Int) ≤ (L : Int) - (m : Int) := by omega
  have c3 : (16 : Int) ≤ (k : Int) := by omega
  have c4 : 0 ≤ (L : Int) - (m : Int) := by omega
  clear h hL
  go_enter Try.func45, Try.ntmps45
  go_wp2
  go_ret
  exact ⟨by simp, rfl⟩
theorem fits_no {mb bb c : Nat} {xs : List Int} {w : World} (h : RefAt w mb bb c xs) (a n : Int) (ha : 0 ≤ a) (ha' : a < 18446744073709551616) (hn' : n < 9223372036854775808) (he : accE xs.length a n ≠ 0) :
    Calls Try.prog 45 #[.pointer (some ⟨mb, 0, none⟩), .int .u64 a, .int .i64 n] w fun e w' => e = .returned (.bool false) ∧ w = w' := by
  have h1 := h.cell0
  have hl := h.hi
  obtain ⟨L, hL⟩ : ∃ L, L = xs.length := ⟨_, rfl⟩
  rw [← hL] at h1 hl he
  have hc : n < 0 ∨ a < 16 ∨ (L : Int) < a ∨ (L : Int) - a < n := by
    by_cases c1 : n < 0
    · exact .inl c1
    · by_cases c2 : a < 16 ∨ (L : Int) < a ∨ (L : Int) - a < n
      · exact .inr c2
      · exact absurd (by unfold accE; rw [if_neg c1, if_neg c2]) he
  clear h hL he
  by_cases c1 : 0 ≤ n
  · by_cases c2 : n ≤ (L : Int)
    · have c4 : 0 ≤ (L : Int) - n := by omega
      by_cases c3 : 16 ≤ a
      · have c5 : decide (a ≤ (L : Int) - n) = false := decide_eq_false (by omega)
        clear hc
        go_enter Try.func45, Try.ntmps45
        go_wp2
        go_ret
        exact ⟨by first | rfl | simp | simp [c5], rfl⟩
      · have c5 : decide (16 ≤ a) = false := decide_eq_false c3
        clear hc c3
        go_enter Try.func45, Try.ntmps45
        go_wp2
        go_ret
        exact ⟨by first | rfl | simp | simp [c5], rfl⟩
    · have c5 : decide (n ≤ (L : Int)) = false := decide_eq_false c2
      clear hc c2
      go_enter Try.func45, Try.ntmps45
      go_wp2
      go_ret
      exact ⟨by first | rfl | simp | simp [c5], rfl⟩
  · have c5 : decide (0 ≤ n) = false := decide_eq_false c1
    clear hc c1
    go_enter Try.func45, Try.ntmps45
    go_wp2
    go_ret
    exact ⟨by first | rfl | simp | simp [c5], rfl⟩

theorem rload_bad {mb bb c : Nat} {xs : List Int} {w : World} (h : RefAt w mb bb c xs) (a n : Int) (ha : 0 ≤ a) (ha' : a < 18446744073709551616) (hn' : n < 9223372036854775808) (he : numE xs.length a n ≠ 0) :
    Calls Try.prog 34 #[.pointer (some ⟨mb, 0, none⟩), .int .u64 a, .int .i64 n] w fun e w' => e = .returned (.tuple #[.int .u64 0, .int .i64 (numE xs.length a n)]) ∧ w = w' := by
  cases hs : sizedB n
  · have e : numE xs.length a n = 2 := by unfold numE; rw [if_neg (by simp [hs])]
    rw [e]
    have hz := rsized_any n
    rw [hs] at hz
    have HZ := Lib.hid hz
    clear hz h he e hs
    go_enter Try.func34, Try.ntmps34
    go_wp2_with (go_at_call 44; (with_reducible refine (HZ.out _).mono ?_); rintro e w' ⟨rfl, rfl⟩)
    go_ret2
    exact ⟨rfl, rfl⟩
  · have h1 : accE xs.length a n ≠ 0 := by unfold numE at he; rw [if_pos hs] at he; exact he
    have hn0 : 0 ≤ n := by rcases sized_cases hs with h | h | h | h <;> omega
    have e : numE xs.length a n = 15 := by
      unfold numE
      rw [if_pos hs]
      unfold accE at h1 ⊢
      rw [if_neg (by omega)] at h1 ⊢
      split
      · rfl
      · rename_i hh
        rw [if_neg hh] at h1
        exact absurd rfl h1
    rw [e]
    have hz := rsized_any n
    rw [hs] at hz
    have HZ := Lib.hid hz
    have HF := Lib.hid (fits_no h a n ha ha' hn' h1)
    clear hz h he e hs h1
    go_enter Try.func34, Try.ntmps34
    go_wp2_with (first
      | (go_at_call 44; (with_reducible refine (HZ.out _).mono ?_); rintro e w' ⟨rfl, rfl⟩)
      | (go_at_call 45; (with_reducible refine HF.out.mono ?_); rintro e w' ⟨rfl, rfl⟩))
    go_ret2
    exact ⟨rfl, rfl⟩
set_option maxHeartbeats 1000000 in
theorem rload_ok {mb bb c : Nat} {xs : List Int} {w : World} (h : RefAt w mb bb c xs) (k m : Nat) (hk : 16 ≤ k) (hkm : k + m ≤ xs.length) (hs : sizedB m = true) :
    Calls Try.prog 34 #[.pointer (some ⟨mb, 0, none⟩), .int .u64 k, .int .i64 m] w fun e w' => e = .returned (.tuple #[.int .u64 (numV (partL xs k m)), .int .i64 0]) ∧ w = w' := by
  have hm8 : m ≤ 8 := by rcases sized_cases hs with h | h | h | h <;> omega
  have hl := h.hi
  have hz := rsized_any m
  rw [hs] at hz
  have HZ := Lib.hid hz
  have HF := Lib.hid (fits_yes h k m hk hkm)
  have h0 := h.cell0
  have hcap := h.rowcap
  have hcells : ∀ j, j < m → w.cell? ⟨bb, k + j, none⟩ = some (.int .u8 ((partL xs k m).getD j 0)) := fun j hj => by rw [getD_part hj]; exact h.row.cell (by omega)
  have hlen := partL_len hkm
  have hpb := partL_bd h.bd k m
  obtain ⟨P, hP⟩ : ∃ P, P = partL xs k m := ⟨_, rfl⟩
  rw [← hP] at hcells hlen hpb ⊢
  obtain ⟨L, hL⟩ : ∃ L, L = xs.length := ⟨_, rfl⟩
  rw [← hL] at h0 hl hkm hcap
  have HC := Lib.hid hcells
  have HLEN := Lib.hid hlen
  have HPB := Lib.hid hpb
  clear hcells hlen hpb hP hL h hs hz
  go_enter Try.func34, Try.ntmps34
  go_wp2_with (first
    | (go_at_call 44; (with_reducible refine (HZ.out _).mono ?_); rintro e w' ⟨rfl, rfl⟩)
    | (go_at_call 45; (with_reducible refine HF.out.mono ?_); rintro e w' ⟨rfl, rfl⟩))
  go_loop [8, 9] (fun x i => ∃ q : Nat, q ≤ m ∧ i = .int .i64 ((q : Int) - 1) ∧ x = .int .u64 (numV (P.drop q))) (fun _ i => (intOf i + 1).toNat)
  case atStart => exact ⟨m, by omega, rfl, by rw [List.drop_of_length_le (by have := HLEN.out; omega)]; rfl⟩
  case round =>
    obtain ⟨q, hq, rfl, rfl⟩ := hrel
    by_cases hlt : 0 < q
    · obtain ⟨j, rfl⟩ : ∃ j, q = j + 1 := ⟨q - 1, by omega⟩
      have hcell := HC.out j (by omega)
      have hst : numV (P.drop j) = P.getD j 0 + 256 * numV (P.drop (j + 1)) := by rw [drop_cons' (k := j) (by have := HLEN.out; omega)]; rfl
      obtain ⟨y1, y2⟩ := getD_bd HPB.out (k := j) (by have := HLEN.out; omega)
      obtain ⟨z1, z2⟩ : 0 ≤ numV (P.drop (j + 1)) ∧ 256 * numV (P.drop (j + 1)) + 255 < 18446744073709551616 := by
        rcases drop_bd HPB.out (by have := HLEN.out; omega) j with h | h
        · exact h
        · have := HLEN.out; omega
      obtain ⟨y, hy⟩ : ∃ y, y = P.getD j 0 := ⟨_, rfl⟩
      obtain ⟨z, hz⟩ : ∃ z, z = numV (P.drop (j + 1)) := ⟨_, rfl⟩
      rw [← hy] at hcell y1 y2 hst
      rw [← hz] at z1 z2 hst ⊢
      have HST := Lib.hid hst
      have e1 : ((j + 1 : Nat) : Int) - 1 = (j : Int) := by omega
      rw [e1]
      have i1 : (k : Int) + (j : Int) < (L : Int) := by omega
      clear hst hy hz e1
      go_wp2
      go_round
      case rel => exact ⟨j, by omega, by go_num, by rw [HST.out]; first | done | (congr 1; omega)⟩
      case measure => simp [intOf]
    · obtain rfl : q = 0 := by omega
      go_wp2
      go_ret2
      exact ⟨ret_int2 (by simp) rfl, rfl⟩
theorem rload_any {mb bb c : Nat} {xs : List Int} {w : World} (h : RefAt w mb bb c xs) (a n : Int) (ha : 0 ≤ a) (ha' : a < 18446744073709551616) (hn' : n < 9223372036854775808) :
    Calls Try.prog 34 #[.pointer (some ⟨mb, 0, none⟩), .int .u64 a, .int .i64 n] w fun e w' => e = .returned (.tuple #[.int .u64 (loadV xs a n), .int .i64 (numE xs.length a n)]) ∧ w = w' := by
  by_cases he : numE xs.length a n = 0
  · obtain ⟨hs, h0, h1, h2, h3⟩ := numE_zero he
    unfold loadV
    rw [if_pos he, he]
    obtain ⟨k, rfl⟩ := nat_of ha
    obtain ⟨m, rfl⟩ := nat_of h0
    exact rload_ok h k m (by omega) (by omega) hs
  · unfold loadV
    rw [if_neg he]
    exact rload_bad h a n ha ha' hn' he
end Go.Proofs.Ythcefpakjkojgaa
