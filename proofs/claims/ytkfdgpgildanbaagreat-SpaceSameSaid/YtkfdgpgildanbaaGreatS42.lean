import Derived.Test.YtkfdgpgildanbaaGreatS01
import Derived.Test.YtkfdgpgildanbaaGreatS41
import Derived.StillTailTactics
namespace Go.Proofs.YtkfdgpgildanbaaGreat
open Go.RowKit
set_option linter.unusedVariables false
theorem layL_part {xs ys : List Int} {a : Nat} (h : a + ys.length ≤ xs.length) : partL (layL xs a ys) a ys.length = ys := by
  have h1 : (xs.take a).length = a := by simp; omega
  unfold partL layL
  simp only [Int.toNat_natCast]
  rw [List.drop_append_of_le_length (by omega), List.drop_of_length_le (by omega), List.nil_append]
  rw [List.take_append_of_le_length (by omega), List.take_of_length_le (by omega)]
theorem partL_bd {xs : List Int} (h : ∀ x ∈ xs, 0 ≤ x ∧ x < 256) (a n : Int) : ∀ x ∈ partL xs a n, 0 ≤ x ∧ x < 256 :=
  fun x hx => h x (List.mem_of_mem_drop (List.mem_of_mem_take hx))
theorem getD_lay {xs ys : List Int} {a i : Nat} (ha : a + ys.length ≤ xs.length) : (layL xs a ys).getD i 0 = if i < a then xs.getD i 0 else if i < a + ys.length then ys.getD (i - a) 0 else xs.getD i 0 := by
  have h1 : (xs.take a).length = a := by simp; omega
  unfold layL
  simp only [List.getD_eq_getElem?_getD]
  by_cases c1 : i < a
  · rw [if_pos c1, List.getElem?_append_left (by omega), List.getElem?_take, if_pos c1]
  · rw [if_neg c1, List.getElem?_append_right (by omega), h1]
    by_cases c2 : i < a + ys.length
    · rw [if_pos c2, List.getElem?_append_left (by omega)]
    · rw [if_neg c2, List.getElem?_append_right (by omega), List.getElem?_drop]
      congr 2
      omega
theorem getD_part {xs : List Int} {a n i : Nat} (hi : i < n) : (partL xs a n).getD i 0 = xs.getD (a + i) 0 := by
  rw [partL_nat]
  simp [List.getD_eq_getElem?_getD, hi]
end Go.Proofs.YtkfdgpgildanbaaGreat
namespace Go.Proofs.YtkfdgpgildanbaaGreat
open Go.RowKit
set_option linter.unusedVariables false
structure RefAt (w : World) (mb bb c : Nat) (xs : List Int) : Prop where
  head : w.heap[mb]? = some (.cells #[.slice (some ⟨bb, 0, none⟩) xs.length c] 169 (0, 0))
  row : Row 5 w bb c xs
  bd : ∀ x ∈ xs, 0 ≤ x ∧ x < 256
  lo : 16 ≤ xs.length
  hi : xs.length ≤ 65536
  cap : c ≤ maxLen
theorem RefAt.ne {w : World} {mb bb c : Nat} {xs : List Int} (h : RefAt w mb bb c xs) : mb ≠ bb := by
  intro e
  subst e
  obtain ⟨cur, h1, _⟩ := h.row
  rw [h.head] at h1
  injection h1 with h1
  injection h1 with _ h1 _
  exact absurd h1 (by decide)
theorem RefAt.cell0 {w : World} {mb bb c : Nat} {xs : List Int} (h : RefAt w mb bb c xs) : w.cell? ⟨mb, 0, none⟩ = some (.slice (some ⟨bb, 0, none⟩) xs.length c) := by
  rw [cell_of_row w mb 0 _ _ _ h.head]; rfl
theorem RefAt.but {w w' : World} {mb bb c : Nat} {xs : List Int} {R : Nat → Prop} (h : RefAt w mb bb c xs) (hb : But R w w') (h1 : ¬ R mb) (h2 : ¬ R bb) : RefAt w' mb bb c xs :=
  ⟨hb.heap h.head h1, h.row.but hb h2, h.bd, h.lo, h.hi, h.cap⟩
theorem RefAt.lt {w : World} {mb bb c : Nat} {xs : List Int} (h : RefAt w mb bb c xs) : mb < w.heap.size ∧ bb < w.heap.size := ⟨heap_lt h.head, h.row.lt⟩
theorem RefAt.drewN {w : World} {mb bb c : Nat} {xs : List Int} (h : RefAt w mb bb c xs) (n : Nat) : RefAt (w.drewN n) mb bb c xs := h.but ((But.refl NoBlock w).drewN n) (noBlock_not _) (noBlock_not _)
theorem RefAt.below {w w' : World} {mb bb c : Nat} {xs : List Int} (h : RefAt w mb bb c xs) (hb : Below w.heap.size w w') : RefAt w' mb bb c xs := h.but (But.of_below (R := NoBlock) hb) (noBlock_not _) (noBlock_not _)
theorem RefAt.rowcap {w : World} {mb bb c : Nat} {xs : List Int} (h : RefAt w mb bb c xs) : xs.length ≤ c := by obtain ⟨_, _, _, _, h4⟩ := h.row; exact h4
theorem RefAt.set {w : World} {mb bb c : Nat} {xs : List Int} (h : RefAt w mb bb c xs) {i : Nat} (hi : i < xs.length) {y : Int} (hy : 0 ≤ y ∧ y < 256) : RefAt (w.setCell ⟨bb, i, none⟩ (.int .u8 y)) mb bb c (xs.set i y) := by
  refine ⟨?_, h.row.set hi y, ?_, by simpa using h.lo, by simpa using h.hi, h.cap⟩
  · rw [Below.heap_setCell _ _ _ _ (show mb ≠ bb from h.ne), List.length_set]
    exact h.head
  · intro x hx
    rcases List.mem_or_eq_of_mem_set hx with h1 | h1
    · exact h.bd x h1
    · subst h1; exact hy
theorem rsized_any (s : Int) (w : World) : Calls Tryz.prog 154 #[.int .i64 s] w fun e w' => e = .returned (.bool (sizedB s)) ∧ w = w' := by
  by_cases h1 : s = 1
  · subst h1
    go_enter Tryz.func154, Tryz.ntmps154
    go_wp2
    go_ret
    exact ⟨rfl, rfl⟩
  by_cases h2 : s = 2
  · subst h2
    go_enter Tryz.func154, Tryz.ntmps154
    go_wp2
    go_ret
    exact ⟨rfl, rfl⟩
  by_cases h4 : s = 4
  · subst h4
    go_enter Tryz.func154, Tryz.ntmps154
    go_wp2
    go_ret
    exact ⟨rfl, rfl⟩
  by_cases h8 : s = 8
  · subst h8
    go_enter Tryz.func154, Tryz.ntmps154
    go_wp2
    go_ret
    exact ⟨rfl, rfl⟩
  have e : sizedB s = false := by simp [sizedB, h1, h2, h4, h8]
  rw [e]
  clear e
  have b1 : (s == 1) = false := by simpa using h1
  have b2 : (s == 2) = false := by simpa using h2
  have b4 : (s == 4) = false := by simpa using h4
  have b8 : (s == 8) = false := by simpa using h8
  clear h1 h2 h4 h8
  go_enter Tryz.func154, Tryz.ntmps154
  go_wp2
  go_ret
  exact ⟨rfl, rfl⟩
theorem fits_yes {mb bb c : Nat} {xs : List Int} {w : World} (h : RefAt w mb bb c xs) (k m : Nat) (hk : 16 ≤ k) (hkm : k + m ≤ xs.length) :
    Calls Tryz.prog 125 #[.pointer (some ⟨mb, 0, none⟩), .int .u64 k, .int .i64 m] w fun e w' => e = .returned (.bool true) ∧ w = w' := by
  have h1 := h.cell0
  have hl := h.hi
  obtain ⟨L, hL⟩ : ∃ L, L = xs.length := ⟨_, rfl⟩
  rw [← hL] at h1 hl hkm
  have c1 : (m : Int) ≤ (L : Int) := by omega
  have c2 : (k : Int) ≤ (L : Int) - (m : Int) := by omega
  have c3 : (16 : Int) ≤ (k : Int) := by omega
  have c4 : 0 ≤ (L : Int) - (m : Int) := by omega
  clear h hL
  go_enter Tryz.func125, Tryz.ntmps125
  go_wp2
  go_ret
  exact ⟨by simp, rfl⟩
theorem fits_no {mb bb c : Nat} {xs : List Int} {w : World} (h : RefAt w mb bb c xs) (a n : Int) (ha : 0 ≤ a) (ha' : a < 18446744073709551616) (hn' : n < 9223372036854775808) (he : accE xs.length a n ≠ 0) :
    Calls Tryz.prog 125 #[.pointer (some ⟨mb, 0, none⟩), .int .u64 a, .int .i64 n] w fun e w' => e = .returned (.bool false) ∧ w = w' := by
  have h1 := h.cell0
  have hl := h.hi
  obtain ⟨L, hL⟩ : ∃ L, L = xs.length := ⟨_, rfl⟩
  rw [← hL] at h1 hl he
  have hc : n < 0 ∨ a < 16 ∨ (L : Int) < a ∨ (L : Int) - a < n := by
    by_cases c1 : n < 0
    · exact .inl c1
    · by_cases c2 : a < 16 ∨ (L : Int) < a ∨ (L : Int) - a < n
      · exact .inr c2
      · exact absurd (by unfold accE; rw [if_neg c1, if_neg c2]) he
  clear h hL he
  by_cases c1 : 0 ≤ n
  · by_cases c2 : n ≤ (L : Int)
    · have c4 : 0 ≤ (L : Int) - n := by omega
      by_cases c3 : 16 ≤ a
      · have c5 : decide (a ≤ (L : Int) - n) = false := decide_eq_false (by omega)
        clear hc
        go_enter Tryz.func125, Tryz.ntmps125
        go_wp2
        go_ret
        exact ⟨by first | rfl | simp | simp [c5], rfl⟩
      · have c5 : decide (16 ≤ a) = false := decide_eq_false c3
        clear hc c3
        go_enter Tryz.func125, Tryz.ntmps125
        go_wp2
        go_ret
        exact ⟨by first | rfl | simp | simp [c5], rfl⟩
    · have c5 : decide (n ≤ (L : Int)) = false := decide_eq_false c2
      clear hc c2
      go_enter Tryz.func125, Tryz.ntmps125
      go_wp2
      go_ret
      exact ⟨by first | rfl | simp | simp [c5], rfl⟩
  · have c5 : decide (0 ≤ n) = false := decide_eq_false c1
    clear hc c1
    go_enter Tryz.func125, Tryz.ntmps125
    go_wp2
    go_ret
    exact ⟨by first | rfl | simp | simp [c5], rfl⟩
theorem rload_bad {mb bb c : Nat} {xs : List Int} {w : World} (h : RefAt w mb bb c xs) (a n : Int) (ha : 0 ≤ a) (ha' : a < 18446744073709551616) (hn' : n < 9223372036854775808) (he : numE xs.length a n ≠ 0) :
    Calls Tryz.prog 149 #[.pointer (some ⟨mb, 0, none⟩), .int .u64 a, .int .i64 n] w fun e w' => e = .returned (.tuple #[.int .u64 0, .int .i64 (numE xs.length a n)]) ∧ w = w' := by
  cases hs : sizedB n
  · have e : numE xs.length a n = 2 := by unfold numE; rw [if_neg (by simp [hs])]
    rw [e]
    have hz := rsized_any n
    rw [hs] at hz
    have HZ := Lib.hid hz
    clear hz h he e hs
    go_enter Tryz.func149, Tryz.ntmps149
    go_wp2_with (go_at_call 154; (with_reducible refine (HZ.out _).mono ?_); rintro e w' ⟨rfl, rfl⟩)
    go_ret2
    exact ⟨rfl, rfl⟩
  · have h1 : accE xs.length a n ≠ 0 := by unfold numE at he; rw [if_pos hs] at he; exact he
    have hn0 : 0 ≤ n := by rcases sized_cases hs with h | h | h | h <;> omega
    have e : numE xs.length a n = 15 := by
      unfold numE
      rw [if_pos hs]
      unfold accE at h1 ⊢
      rw [if_neg (by omega)] at h1 ⊢
      split
      · rfl
      · rename_i hh
        rw [if_neg hh] at h1
        exact absurd rfl h1
    rw [e]
    have hz := rsized_any n
    rw [hs] at hz
    have HZ := Lib.hid hz
    have HF := Lib.hid (fits_no h a n ha ha' hn' h1)
    clear hz h he e hs h1
    go_enter Tryz.func149, Tryz.ntmps149
    go_wp2_with (first
      | (go_at_call 154; (with_reducible refine (HZ.out _).mono ?_); rintro e w' ⟨rfl, rfl⟩)
      | (go_at_call 125; (with_reducible refine HF.out.mono ?_); rintro e w' ⟨rfl, rfl⟩))
    go_ret2
    exact ⟨rfl, rfl⟩
set_option maxHeartbeats 1000000 in
theorem rload_ok {mb bb c : Nat} {xs : List Int} {w : World} (h : RefAt w mb bb c xs) (k m : Nat) (hk : 16 ≤ k) (hkm : k + m ≤ xs.length) (hs : sizedB m = true) :
    Calls Tryz.prog 149 #[.pointer (some ⟨mb, 0, none⟩), .int .u64 k, .int .i64 m] w fun e w' => e = .returned (.tuple #[.int .u64 (numV (partL xs k m)), .int .i64 0]) ∧ w = w' := by
  have hm8 : m ≤ 8 := by rcases sized_cases hs with h | h | h | h <;> omega
  have hl := h.hi
  have hz := rsized_any m
  rw [hs] at hz
  have HZ := Lib.hid hz
  have HF := Lib.hid (fits_yes h k m hk hkm)
  have h0 := h.cell0
  have hcap := h.rowcap
  have hcells : ∀ j, j < m → w.cell? ⟨bb, k + j, none⟩ = some (.int .u8 ((partL xs k m).getD j 0)) := fun j hj => by rw [getD_part hj]; exact h.row.cell (by omega)
  have hlen := partL_len hkm
  have hpb := partL_bd h.bd k m
  obtain ⟨P, hP⟩ : ∃ P, P = partL xs k m := ⟨_, rfl⟩
  rw [← hP] at hcells hlen hpb ⊢
  obtain ⟨L, hL⟩ : ∃ L, L = xs.length := ⟨_, rfl⟩
  rw [← hL] at h0 hl hkm hcap
  have HC := Lib.hid hcells
  have HLEN := Lib.hid hlen
  have HPB := Lib.hid hpb
  clear hcells hlen hpb hP hL h hs hz
  go_enter Tryz.func149, Tryz.ntmps149
  go_wp2_with (first
    | (go_at_call 154; (with_reducible refine (HZ.out _).mono ?_); rintro e w' ⟨rfl, rfl⟩)
    | (go_at_call 125; (with_reducible refine HF.out.mono ?_); rintro e w' ⟨rfl, rfl⟩))
  go_loop [8, 9] (fun x i => ∃ q : Nat, q ≤ m ∧ i = .int .i64 ((q : Int) - 1) ∧ x = .int .u64 (numV (P.drop q))) (fun _ i => (intOf i + 1).toNat)
  case atStart => exact ⟨m, by omega, rfl, by rw [List.drop_of_length_le (by have := HLEN.out; omega)]; rfl⟩
  case round =>
    obtain ⟨q, hq, rfl, rfl⟩ := hrel
    by_cases hlt : 0 < q
    · obtain ⟨j, rfl⟩ : ∃ j, q = j + 1 := ⟨q - 1, by omega⟩
      have hcell := HC.out j (by omega)
      have hst : numV (P.drop j) = P.getD j 0 + 256 * numV (P.drop (j + 1)) := by rw [drop_cons' (k := j) (by have := HLEN.out; omega)]; rfl
      obtain ⟨y1, y2⟩ := getD_bd HPB.out (k := j) (by have := HLEN.out; omega)
      obtain ⟨z1, z2⟩ : 0 ≤ numV (P.drop (j + 1)) ∧ 256 * numV (P.drop (j + 1)) + 255 < 18446744073709551616 := by
        rcases drop_bd HPB.out (by have := HLEN.out; omega) j with h | h
        · exact h
        · have := HLEN.out; omega
      obtain ⟨y, hy⟩ : ∃ y, y = P.getD j 0 := ⟨_, rfl⟩
      obtain ⟨z, hz⟩ : ∃ z, z = numV (P.drop (j + 1)) := ⟨_, rfl⟩
      rw [← hy] at hcell y1 y2 hst
      rw [← hz] at z1 z2 hst ⊢
      have HST := Lib.hid hst
      have e1 : ((j + 1 : Nat) : Int) - 1 = (j : Int) := by omega
      rw [e1]
      have i1 : (k : Int) + (j : Int) < (L : Int) := by omega
      clear hst hy hz e1
      go_wp2
      go_round
      case rel => exact ⟨j, by omega, by go_num, by rw [HST.out]; first | done | (congr 1; omega)⟩
      case measure => simp [intOf]
    · obtain rfl : q = 0 := by omega
      go_wp2
      go_ret2
      exact ⟨ret_int2 (by simp) rfl, rfl⟩
theorem rload_any {mb bb c : Nat} {xs : List Int} {w : World} (h : RefAt w mb bb c xs) (a n : Int) (ha : 0 ≤ a) (ha' : a < 18446744073709551616) (hn' : n < 9223372036854775808) :
    Calls Tryz.prog 149 #[.pointer (some ⟨mb, 0, none⟩), .int .u64 a, .int .i64 n] w fun e w' => e = .returned (.tuple #[.int .u64 (loadV xs a n), .int .i64 (numE xs.length a n)]) ∧ w = w' := by
  by_cases he : numE xs.length a n = 0
  · obtain ⟨hs, h0, h1, h2, h3⟩ := numE_zero he
    unfold loadV
    rw [if_pos he, he]
    obtain ⟨k, rfl⟩ := nat_of ha
    obtain ⟨m, rfl⟩ := nat_of h0
    exact rload_ok h k m (by omega) (by omega) hs
  · unfold loadV
    rw [if_neg he]
    exact rload_bad h a n ha ha' hn' he
end Go.Proofs.YtkfdgpgildanbaaGreat
namespace Go.Proofs.YtkfdgpgildanbaaGreat
open Go.RowKit
set_option linter.unusedVariables false
def RStoreDone (w : World) (mb bb c : Nat) (xs' : List Int) (E : Int) (e : Ending) (w' : World) : Prop :=
  e = .returned (.int .i64 E) ∧ RefAt w' mb bb c xs' ∧ But (OneBlock bb) w w'
theorem numE_not0 {xs : List Int} {a n : Int} (hs : sizedB n = true) (he : numE xs.length a n ≠ 0) : accE xs.length a n ≠ 0 ∧ numE xs.length a n = 15 := by
  have h1 : accE xs.length a n ≠ 0 := by unfold numE at he; rw [if_pos hs] at he; exact he
  have hn0 : 0 ≤ n := by rcases sized_cases hs with h | h | h | h <;> omega
  refine ⟨h1, ?_⟩
  unfold numE
  rw [if_pos hs]
  unfold accE at h1 ⊢
  rw [if_neg (by omega)] at h1 ⊢
  split
  · rfl
  · rename_i hh
    rw [if_neg hh] at h1
    exact absurd rfl h1
theorem rstore_bad {mb bb c : Nat} {xs : List Int} {w : World} (h : RefAt w mb bb c xs) (a n v : Int) (ha : 0 ≤ a) (ha' : a < 18446744073709551616) (hn' : n < 9223372036854775808) (he : numE xs.length a n ≠ 0) :
    Calls Tryz.prog 93 #[.pointer (some ⟨mb, 0, none⟩), .int .u64 a, .int .i64 n, .int .u64 v] w fun e w' => e = .returned (.int .i64 (numE xs.length a n)) ∧ w = w' := by
  cases hs : sizedB n
  · have e : numE xs.length a n = 2 := by unfold numE; rw [if_neg (by simp [hs])]
    rw [e]
    have hz := rsized_any n
    rw [hs] at hz
    have HZ := Lib.hid hz
    clear hz h he e hs
    go_enter Tryz.func93, Tryz.ntmps93
    go_wp2_with (go_at_call 154; (with_reducible refine (HZ.out _).mono ?_); rintro e w' ⟨rfl, rfl⟩)
    go_ret
    exact ⟨rfl, rfl⟩
  · obtain ⟨h1, e⟩ := numE_not0 hs he
    rw [e]
    have hz := rsized_any n
    rw [hs] at hz
    have HZ := Lib.hid hz
    have HF := Lib.hid (fits_no h a n ha ha' hn' h1)
    clear hz h he e hs h1
    go_enter Tryz.func93, Tryz.ntmps93
    go_wp2_with (first
      | (go_at_call 154; (with_reducible refine (HZ.out _).mono ?_); rintro e w' ⟨rfl, rfl⟩)
      | (go_at_call 125; (with_reducible refine HF.out.mono ?_); rintro e w' ⟨rfl, rfl⟩))
    go_ret
    exact ⟨rfl, rfl⟩
theorem down_one (a : Int) (k : Nat) : a / 256 ^ k / 256 = a / 256 ^ (k + 1) := by
  rw [Int.pow_succ, Int.ediv_mul_of_nonneg (by have : (0 : Int) < 256 ^ k := Int.pow_pos (by omega); omega)]
theorem down_bound {a : Int} (ha : 0 ≤ a) (k : Nat) : 0 ≤ a / 256 ^ k ∧ a / 256 ^ k ≤ a := ediv_bd ha (Int.pow_pos (by omega))
theorem layL_zero (xs : List Int) (a : Nat) (v : Int) : layL xs a (bytesV v 0) = xs := layL_nil xs a
theorem layL_next {xs : List Int} {a m j : Nat} (v : Int) (hj : j < m) (h : a + m ≤ xs.length) : layL xs a (bytesV v (j + 1)) = (layL xs a (bytesV v j)).set (a + j) (byteV v j) := by
  rw [bytesV_succ, layL_snoc _ (by rw [bytesV_len]; omega), bytesV_len]
theorem RefAt.cell_lay {w : World} {mb bb c : Nat} {xs ys : List Int} {k : Nat} (h : RefAt w mb bb c (layL xs k ys)) (hl : k + ys.length ≤ xs.length) : w.cell? ⟨mb, 0, none⟩ = some (.slice (some ⟨bb, 0, none⟩) xs.length c) := by
  have := h.cell0
  rw [layL_len hl] at this
  exact this
set_option maxHeartbeats 1000000 in
theorem rstore_ok {mb bb c : Nat} {xs : List Int} {w : World} (h : RefAt w mb bb c xs) (k m : Nat) (v : Int) (hv : 0 ≤ v) (hv' : v < 18446744073709551616) (hk : 16 ≤ k) (hkm : k + m ≤ xs.length) (hs : sizedB m = true) :
    Calls Tryz.prog 93 #[.pointer (some ⟨mb, 0, none⟩), .int .u64 k, .int .i64 m, .int .u64 v] w (RStoreDone w mb bb c (layL xs k (bytesV v m)) 0) := by
  have hm8 : m ≤ 8 := by rcases sized_cases hs with h | h | h | h <;> omega
  have hl := h.hi
  have hz := rsized_any m
  rw [hs] at hz
  have HZ := Lib.hid hz
  have HF := Lib.hid (fits_yes h k m hk hkm)
  have hcap := h.rowcap
  have HR := Lib.hid h
  obtain ⟨L, hL⟩ : ∃ L, L = xs.length := ⟨_, rfl⟩
  rw [← hL] at hl hkm hcap
  have HL := Lib.hid hL
  have e0 : v = v / 256 ^ 0 := by simp
  have E0 := Lib.hid e0
  have HX := Lib.hid (layL_zero xs k v)
  clear hL h hs hz e0
  go_enter Tryz.func93, Tryz.ntmps93
  go_wp2_with (first
    | (go_at_call 154; (with_reducible refine (HZ.out _).mono ?_); rintro e w' ⟨rfl, rfl⟩)
    | (go_at_call 125; (with_reducible refine HF.out.mono ?_); rintro e w' ⟨rfl, rfl⟩))
  go_loopw [3, 9] (fun x i wr => ∃ j : Nat, j ≤ m ∧ x = .int .u64 (v / 256 ^ j) ∧ i = .int .i64 j ∧ Hid (RefAt wr mb bb c (layL xs k (bytesV v j)) ∧ But (OneBlock bb) w wr)) (fun _ i _ => m - (intOf i).toNat)
  case atStart => exact ⟨0, by omega, congrArg (Value.int .u64) E0.out, rfl, by rw [HX.out]; exact ⟨HR.out, But.refl _ _⟩⟩
  case round =>
    obtain ⟨j, hj, rfl, rfl, hq⟩ := hrel
    have hd := down_one v j
    have HD := Lib.hid hd
    obtain ⟨d1, d2⟩ := down_bound hv j
    clear hd
    by_cases hlt : j < m
    · have hcl := hq.out.1.cell_lay (by rw [bytesV_len, ← HL.out]; omega)
      rw [← HL.out] at hcl
      have hfr := hq.out.1.row.free (k + j)
      have hold : wr.cell? ⟨bb, k + j, none⟩ = some (.int .u8 ((layL xs k (bytesV v j)).getD (k + j) 0)) := hq.out.1.row.cell (by rw [layL_len (by rw [bytesV_len, ← HL.out]; omega), ← HL.out]; omega)
      obtain ⟨old, ho⟩ : ∃ o, o = (layL xs k (bytesV v j)).getD (k + j) 0 := ⟨_, rfl⟩
      rw [← ho] at hold
      have HN := Lib.hid (layL_next (xs := xs) (a := k) (m := m) v hlt (by rw [← HL.out]; exact hkm))
      have i1 : (k : Int) + (j : Int) < (L : Int) := by omega
      clear ho
      go_wp2
      go_roundw
      case rel => exact ⟨j + 1, by omega, congrArg (Value.int .u64) HD.out, by go_num, by rw [HN.out]; exact ⟨hq.out.1.set (by rw [layL_len (by rw [bytesV_len, ← HL.out]; omega), ← HL.out]; omega) (byteV_bd v j), hq.out.2.setCell (p := ⟨bb, k + j, none⟩) (Or.inl rfl) _⟩⟩
      case measure => simp [intOf]; omega
    · obtain rfl : j = m := by omega
      go_wp2
      go_ret
      exact ⟨rfl, hq.out.1, hq.out.2⟩
theorem rstore_any {mb bb c : Nat} {xs : List Int} {w : World} (h : RefAt w mb bb c xs) (a n v : Int) (ha : 0 ≤ a) (ha' : a < 18446744073709551616) (hn' : n < 9223372036854775808) (hv : 0 ≤ v) (hv' : v < 18446744073709551616) :
    Calls Tryz.prog 93 #[.pointer (some ⟨mb, 0, none⟩), .int .u64 a, .int .i64 n, .int .u64 v] w (RStoreDone w mb bb c (storeL xs a n v) (numE xs.length a n)) := by
  by_cases he : numE xs.length a n = 0
  · obtain ⟨hs, h0, h1, h2, h3⟩ := numE_zero he
    unfold storeL
    rw [if_pos he, he]
    obtain ⟨k, rfl⟩ := nat_of ha
    obtain ⟨m, rfl⟩ := nat_of h0
    exact rstore_ok h k m v hv hv' (by omega) (by omega) hs
  · unfold storeL
    rw [if_neg he]
    exact (rstore_bad h a n v ha ha' hn' he).mono fun e w' ⟨h1, h2⟩ => by subst h2; exact ⟨h1, h, But.refl _ _⟩
theorem rlay_bad {mb bb c : Nat} {xs ys : List Int} {w : World} (h : RefAt w mb bb c xs) (a : Int) {Y : Value} {B : Nat} (hY : IsBytes w B Y ys) (ha : 0 ≤ a) (ha' : a < 18446744073709551616) (he : accE xs.length a ys.length ≠ 0) :
    Calls Tryz.prog 63 #[.pointer (some ⟨mb, 0, none⟩), .int .u64 a, Y] w fun e w' => e = .returned (.int .i64 (accE xs.length a ys.length)) ∧ w = w' := by
  obtain ⟨A, cap, rfl, hb⟩ := isBytes_value hY
  have e : accE xs.length a ys.length = 15 := by
    unfold accE at he ⊢
    rw [if_neg (by omega)] at he ⊢
    split
    · rfl
    · rename_i hh
      rw [if_neg hh] at he
      exact absurd rfl he
  have HF := Lib.hid (fits_no h a ys.length ha ha' (by omega) he)
  rw [e]
  obtain ⟨m, hm⟩ : ∃ m, m = ys.length := ⟨_, rfl⟩
  rw [← hm] at HF hb ⊢
  clear h he e hY hm
  go_enter Tryz.func63, Tryz.ntmps63
  go_wp2_with (go_at_call 125; (with_reducible refine HF.out.mono ?_); rintro e w' ⟨rfl, rfl⟩)
  go_ret
  exact ⟨rfl, rfl⟩
theorem layL_step {xs ys : List Int} {a j : Nat} (hj : j < ys.length) (h : a + ys.length ≤ xs.length) : layL xs a (ys.take (j + 1)) = (layL xs a (ys.take j)).set (a + j) (ys.getD j 0) := by
  have hl : (ys.take j).length = j := by simp; omega
  rw [take_snoc' hj, layL_snoc _ (by rw [hl]; omega), hl]
set_option maxHeartbeats 1000000 in
set_option maxRecDepth 100000 in
theorem rlay_ok {mb bb c : Nat} {xs ys : List Int} {w : World} (h : RefAt w mb bb c xs) (k : Nat) {Y : Value} {B : Nat} (hY : IsBytes w B Y ys) (hB : B ≤ w.heap.size) (hBb : B ≤ bb) (hk : 16 ≤ k) (hkm : k + ys.length ≤ xs.length) (hm : 0 < ys.length) :
    Calls Tryz.prog 63 #[.pointer (some ⟨mb, 0, none⟩), .int .u64 k, Y] w (RStoreDone w mb bb c (layL xs k ys) 0) := by
  have hl := h.hi
  obtain ⟨b, off, cap, rfl, hcap, hlt, hc⟩ := hY.plain hm
  have HF := Lib.hid (fits_yes h k ys.length hk hkm)
  have hrc := h.rowcap
  have HR := Lib.hid h
  have HYB := Lib.hid hY.1
  obtain ⟨m, hmm⟩ : ∃ m, m = ys.length := ⟨_, rfl⟩
  obtain ⟨L, hL⟩ : ∃ L, L = xs.length := ⟨_, rfl⟩
  rw [← hL] at hl hkm hrc
  rw [← hmm] at hcap hc HF hkm hm ⊢
  have HMM := Lib.hid hmm
  have HL := Lib.hid hL
  have HC := Lib.hid hc
  have HX := Lib.hid (layL_nil xs k)
  clear hL h hY hmm hc
  go_enter Tryz.func63, Tryz.ntmps63
  go_wp2_with (go_at_call 125; (with_reducible refine HF.out.mono ?_); rintro e w' ⟨rfl, rfl⟩)
  go_loopw [7] (fun i wr => ∃ j : Nat, j ≤ m ∧ i = .int .i64 j ∧ Hid (RefAt wr mb bb c (layL xs k (ys.take j)) ∧ But (OneBlock bb) w wr)) (fun i _ => m - (intOf i).toNat)
  case atStart => exact ⟨0, by omega, rfl, by rw [List.take_zero, HX.out]; exact ⟨HR.out, But.refl _ _⟩⟩
  case round =>
    obtain ⟨j, hj, rfl, hq⟩ := hrel
    by_cases hlt2 : j < m
    · have htl : (ys.take j).length = j := by have := HMM.out; simp; omega
      have hcl := hq.out.1.cell_lay (by rw [htl, ← HL.out]; omega)
      rw [← HL.out] at hcl
      have hfr := hq.out.1.row.free (k + j)
      have hold : wr.cell? ⟨bb, k + j, none⟩ = some (.int .u8 ((layL xs k (ys.take j)).getD (k + j) 0)) := hq.out.1.row.cell (by rw [layL_len (by rw [htl, ← HL.out]; omega), ← HL.out]; omega)
      have hsrc : wr.cell? ⟨b, off + j, none⟩ = some (.int .u8 (ys.getD j 0)) := by rw [hq.out.2.cell (p := ⟨b, _, none⟩) (show b < _ by omega) (oneBlock_not (show b ≠ bb by omega))]; exact HC.out j hlt2
      obtain ⟨y1, y2⟩ := getD_bd HYB.out (k := j) (by rw [← HMM.out]; exact hlt2)
      obtain ⟨old, ho⟩ : ∃ o, o = (layL xs k (ys.take j)).getD (k + j) 0 := ⟨_, rfl⟩
      rw [← ho] at hold
      have HN := Lib.hid (layL_step (xs := xs) (ys := ys) (a := k) (j := j) (by rw [← HMM.out]; exact hlt2) (by rw [← HL.out, ← HMM.out]; exact hkm))
      obtain ⟨y, hy⟩ : ∃ y, y = ys.getD j 0 := ⟨_, rfl⟩
      rw [← hy] at hsrc y1 y2 HN
      have HT := Lib.hid htl
      have i1 : (k : Int) + (j : Int) < (L : Int) := by omega
      have i2 : (j : Int) < (m : Int) := by omega
      have i3 : (0 : Int) ≤ (j : Int) := by omega
      have i4 : (0 : Int) ≤ (k : Int) + (j : Int) := by omega
      clear ho hy htl
      have hw1 : IntKind.i64.wrap (k : Int) = (k : Int) := by rw [IntKind.wrap_i64]; omega
      have hw2 : IntKind.i64.wrap ((k : Int) + (j : Int)) = (k : Int) + (j : Int) := by rw [IntKind.wrap_i64]; omega
      have hw3 : ((k : Int) + (j : Int)).toNat = k + j := by omega
      go_wp2_with fail
      go_still_tail 13, (by kernel_rfl)
      go_wp2
      clear hw1 hw2 hw3
      go_roundw
      case rel => exact ⟨j + 1, by omega, by go_num, by rw [HN.out]; exact ⟨(hq.out.1.but ((But.refl NoBlock _).drew) (noBlock_not _) (noBlock_not _)).set (by rw [layL_len (by rw [HT.out, ← HL.out]; omega), ← HL.out]; omega) ⟨y1, y2⟩, (hq.out.2.drew).setCell (p := ⟨bb, k + j, none⟩) (Or.inl rfl) _⟩⟩
      case measure => simp [intOf]; omega
    · obtain rfl : j = m := by omega
      go_wp2
      go_ret
      refine ⟨rfl, ?_, hq.out.2⟩
      have := hq.out.1
      rw [List.take_of_length_le (by have := HMM.out; omega)] at this
      exact this
theorem rlay_any {mb bb c : Nat} {xs ys : List Int} {w : World} (h : RefAt w mb bb c xs) (a : Int) {Y : Value} {B : Nat} (hY : IsBytes w B Y ys) (hB : B ≤ w.heap.size) (hBb : B ≤ bb) (ha : 0 ≤ a) (ha' : a < 18446744073709551616) :
    Calls Tryz.prog 63 #[.pointer (some ⟨mb, 0, none⟩), .int .u64 a, Y] w (RStoreDone w mb bb c (layB xs a ys) (accE xs.length a ys.length)) := by
  have hb := hY.2.1
  unfold maxLen at hb
  by_cases he : accE xs.length a ys.length = 0
  · obtain ⟨h0, h1, h2, h3⟩ := accE_zero he
    unfold layB
    rw [if_pos he, he]
    obtain ⟨k, rfl⟩ := nat_of ha
    by_cases hm : 0 < ys.length
    · exact rlay_ok h k hY hB hBb (by omega) (by omega) hm
    · obtain rfl : ys = [] := List.eq_nil_of_length_eq_zero (by omega)
      rw [layL_nil]
      have hf := fits_yes h k 0 (by omega) (by omega)
      obtain ⟨A, cap, rfl⟩ := hY.len
      have hf0 : Calls Tryz.prog 125 #[.pointer (some ⟨mb, 0, none⟩), .int .u64 k, .int .i64 0] w fun e w' => e = .returned (.bool true) ∧ w = w' := hf
      have HF0 := Lib.hid hf0
      have HR := Lib.hid h
      clear hf hf0 h hY he h0 h1 h2 h3 hb hB hBb ha ha' hm
      have hgo : Calls Tryz.prog 63 #[.pointer (some ⟨mb, 0, none⟩), .int .u64 k, .slice A 0 cap] w fun e w' => e = .returned (.int .i64 0) ∧ w = w' := by
        go_enter Tryz.func63, Tryz.ntmps63
        go_wp2_with (go_at_call 125; (with_reducible refine HF0.out.mono ?_); rintro e w' ⟨rfl, rfl⟩)
        go_loop [7] (fun i => i = .int .i64 0) (fun _ => 0)
        case atStart => rfl
        case round =>
          obtain rfl := hrel
          go_wp2
          go_ret
          exact ⟨rfl, rfl⟩
      exact hgo.mono fun e w' ⟨h1, h2⟩ => by subst h2; exact ⟨h1, HR.out, But.refl _ _⟩
  · unfold layB
    rw [if_neg he]
    exact (rlay_bad h a hY ha ha' he).mono fun e w' ⟨h1, h2⟩ => by subst h2; exact ⟨h1, h, But.refl _ _⟩
def RNewDone2 (w : World) (xs : List Int) (e : Ending) (w' : World) : Prop :=
  ∃ mb bb c, e = .returned (.tuple #[.pointer (some ⟨mb, 0, none⟩), .int .i64 0]) ∧ RefAt w' mb bb c xs ∧ w.heap.size ≤ mb ∧ w.heap.size ≤ bb ∧ Below w.heap.size w w'
set_option maxHeartbeats 1000000 in
theorem rnew_yes (n : Nat) (w : World) (h : 16 ≤ n) (h' : n ≤ 65536) : Calls Tryz.prog 62 #[.int .i64 n] w (RNewDone2 w (List.replicate n 0)) := by
  have hmk := make_zeros n h'
  have HM := Lib.hid (Row.made w n)
  obtain ⟨C, hC⟩ : ∃ C, C = ((List.replicate n (0 : Int)).map (Value.int .u8)).toArray := ⟨_, rfl⟩
  rw [← hC] at HM hmk
  have h1 : ¬ (n : Int) < 16 := by omega
  have h2 : ¬ (65536 : Int) < n := by omega
  have HN := Lib.hid h
  clear hC
  go_enter Tryz.func62, Tryz.ntmps62
  go_wp2
  go_ret2
  have hsz : (w.alloc (.cells C 5)).heap.size = w.heap.size + 1 := by simp
  have hhead := heap_alloc_new (w.alloc (.cells C 5)) (.cells #[.slice (some ⟨w.heap.size, 0, none⟩) n n] 169)
  rw [hsz] at hhead
  exact ⟨w.heap.size + 1, w.heap.size, n, rfl, ⟨by rw [List.length_replicate]; exact hhead, HM.out.but ((But.refl NoBlock _).alloc _) (noBlock_not _), replicate_bd n, by simpa using HN.out, by simpa using h', by unfold maxLen; omega⟩, by omega, by omega, ((Below.refl _ _).alloc (Nat.le_refl _) _).alloc (by simp) _⟩
end Go.Proofs.YtkfdgpgildanbaaGreat
