/- What Store, Bytes, Lay and New of the document's own way of layer 2 return and leave: contracts for any of its memories, any place, any number and any bytes, in whatever memory of the program. -/
import Derived.Test.YthcefpakjkojgaaRefA02
namespace Go.Proofs.Ythcefpakjkojgaa
open Go.RowKit
set_option linter.unusedVariables false

def RStoreDone (w : World) (mb bb c : Nat) (xs' : List Int) (E : Int) (e : Ending) (w' : World) : Prop :=
  e = .returned (.int .i64 E) ∧ RefAt w' mb bb c xs' ∧ But (OneBlock bb) w w'
theorem numE_not0 {xs : List Int} {a n : Int} (hs : sizedB n = true) (he : numE xs.length a n ≠ 0) : accE xs.length a n ≠ 0 ∧ numE xs.length a n = 15 := by
  have h1 : accE xs.length a n ≠ 0 := by unfold numE at he; rw [if_pos hs] at he; exact he
  have hn0 : 0 ≤ n := by rcases sized_cases hs with h | h | h | h <;> omega
  refine ⟨h1, ?_⟩
  unfold numE
  rw [if_pos hs]
  unfold accE at h1 ⊢
  rw [if_neg (by omega)] at h1 ⊢
  split
  · rfl
  · rename_i hh
    rw [if_neg hh] at h1
    exact absurd rfl h1
theorem rstore_bad {mb bb c : Nat} {xs : List Int} {w : World} (h : RefAt w mb bb c xs) (a n v : Int) (ha : 0 ≤ a) (ha' : a < 18446744073709551616) (hn' : n < 9223372036854775808) (he : numE xs.length a n ≠ 0) :
    Calls Try.prog 35 #[.pointer (some ⟨mb, 0, none⟩), .int .u64 a, .int .i64 n, .int .u64 v] w fun e w' => e = .returned (.int .i64 (numE xs.length a n)) ∧ w = w' := by
  cases hs : sizedB n
  · have e : numE xs.length a n = 2 := by unfold numE; rw [if_neg (by simp [hs])]
    rw [e]
    have hz := rsized_any n
    rw [hs] at hz
    have HZ := Lib.hid hz
    clear hz h he e hs
    go_enter Try.func35, Try.ntmps35
    go_wp2_with (go_at_call 44; (with_reducible refine (HZ.out _).mono ?_); rintro e w' ⟨rfl, rfl⟩)
    go_ret
    exact ⟨rfl, rfl⟩
  · obtain ⟨h1, e⟩ := numE_not0 hs he
    rw [e]
    have hz := rsized_any n
    rw [hs] at hz
    have HZ := Lib.hid hz
    have HF := Lib.hid (fits_no h a n ha ha' hn' h1)
    clear hz h he e hs h1
    go_enter Try.func35, Try.ntmps35
    go_wp2_with (first
      | (go_at_call 44; (with_reducible refine (HZ.out _).mono ?_); rintro e w' ⟨rfl, rfl⟩)
      | (go_at_call 45; (with_reducible refine HF.out.mono ?_); rintro e w' ⟨rfl, rfl⟩))
    go_ret
    exact ⟨rfl, rfl⟩
theorem down_one (a : Int) (k : Nat) : a / 256 ^ k / 256 = a / 256 ^ (k + 1) := by
  rw [Int.pow_succ, Int.ediv_mul_of_nonneg (by have : (0 : Int) < 256 ^ k := Int.pow_pos (by omega); omega)]
theorem down_bound {a : Int} (ha : 0 ≤ a) (k : Nat) : 0 ≤ a / 256 ^ k ∧ a / 256 ^ k ≤ a := ediv_bd ha (Int.pow_pos (by omega))
theorem layL_zero (xs : List Int) (a : Nat) (v : Int) : layL xs a (bytesV v 0) = xs := layL_nil xs a
theorem layL_next {xs : List Int} {a m j : Nat} (v : Int) (hj : j < m) (h : a + m ≤ xs.length) : layL xs a (bytesV v (j + 1)) = (layL xs a (bytesV v j)).set (a + j) (byteV v j) := by
  rw [bytesV_succ, layL_snoc _ (by rw [bytesV_len]; omega), bytesV_len]
theorem RefAt.cell_lay {w : World} {mb bb c : Nat} {xs ys : List Int} {k : Nat} (h : RefAt w mb bb c (layL xs k ys)) (hl : k + ys.length ≤ xs.length) : w.cell? ⟨mb, 0, none⟩ = some (.slice (some ⟨bb, 0, none⟩) xs.length c) := by
  have := h.cell0
  rw [layL_len hl] at this
  exact this
set_option maxHeartbeats 1000000 in
theorem rstore_ok {mb bb c : Nat} {xs : List Int} {w : World} (h : RefAt w mb bb c xs) (k m : Nat) (v : Int) (hv : 0 ≤ v) (hv' : v < 18446744073709551616) (hk : 16 ≤ k) (hkm : k + m ≤ xs.length) (hs : sizedB m = true) :
    Calls Try.prog 35 #[.pointer (some ⟨mb, 0, none⟩), .int .u64 k, .int .i64 m, .int .u64 v] w (RStoreDone w mb bb c (layL xs k (bytesV v m)) 0) := by
  have hm8 : m ≤ 8 := by rcases sized_cases hs with h | h | h | h <;> omega
  have hl := h.hi
  have hz := rsized_any m
  rw [hs] at hz
  have HZ := Lib.hid hz
  have HF := Lib.hid (fits_yes h k m hk hkm)
  have hcap := h.rowcap
  have HR := Lib.hid h
  obtain ⟨L, hL⟩ : ∃ L, L = xs.length := ⟨_, rfl⟩
  rw [← hL] at hl hkm hcap
  have HL := Lib.hid hL
  have e0 : v = v / 256 ^ 0 := by simp
  have E0 := Lib.hid e0
  have HX := Lib.hid (layL_zero xs k v)
  clear hL h hs hz e0
  go_enter Try.func35, Try.ntmps35
  go_wp2_with (first
    | (go_at_call 44; (with_reducible refine (HZ.out _).mono ?_); rintro e w' ⟨rfl, rfl⟩)
    | (go_at_call 45; (with_reducible refine HF.out.mono ?_); rintro e w' ⟨rfl, rfl⟩))
  go_loopw [3, 9] (fun x i wr => ∃ j : Nat, j ≤ m ∧ x = .int .u64 (v / 256 ^ j) ∧ i = .int .i64 j ∧ Hid (RefAt wr mb bb c (layL xs k (bytesV v j)) ∧ But (OneBlock bb) w wr)) (fun _ i _ => m - (intOf i).toNat)
  case atStart => exact ⟨0, by omega, congrArg (Value.int .u64) E0.out, rfl, by rw [HX.out]; exact ⟨HR.out, But.refl _ _⟩⟩
  case round =>
    obtain ⟨j, hj, rfl, rfl, hq⟩ := hrel
    have hd := down_one v j
    have HD := Lib.hid hd
    obtain ⟨d1, d2⟩ := down_bound hv j
    clear hd
    by_cases hlt : j < m
    · have hcl := hq.out.1.cell_lay (by rw [bytesV_len, ← HL.out]; omega)
      rw [← HL.out] at hcl
      have hfr := hq.out.1.row.free (k + j)
      have hold : wr.cell? ⟨bb, k + j, none⟩ = some (.int .u8 ((layL xs k (bytesV v j)).getD (k + j) 0)) := hq.out.1.row.cell (by rw [layL_len (by rw [bytesV_len, ← HL.out]; omega), ← HL.out]; omega)
      obtain ⟨old, ho⟩ : ∃ o, o = (layL xs k (bytesV v j)).getD (k + j) 0 := ⟨_, rfl⟩
      rw [← ho] at hold
      have HN := Lib.hid (layL_next (xs := xs) (a := k) (m := m) v hlt (by rw [← HL.out]; exact hkm))
      have i1 : (k : Int) + (j : Int) < (L : Int) := by omega
      clear ho
      go_wp2
      go_roundw
      case rel => exact ⟨j + 1, by omega, congrArg (Value.int .u64) HD.out, by go_num, by rw [HN.out]; exact ⟨hq.out.1.set (by rw [layL_len (by rw [bytesV_len, ← HL.out]; omega), ← HL.out]; omega) (byteV_bd v j), hq.out.2.setCell (p := ⟨bb, k + j, none⟩) (Or.inl rfl) _⟩⟩
      case measure => simp [intOf]; omega
    · obtain rfl : j = m := by omega
      go_wp2
      go_ret
      exact ⟨rfl, hq.out.1, hq.out.2⟩
theorem rstore_any {mb bb c : Nat} {xs : List Int} {w : World} (h : RefAt w mb bb c xs) (a n v : Int) (ha : 0 ≤ a) (ha' : a < 18446744073709551616) (hn' : n < 9223372036854775808) (hv : 0 ≤ v) (hv' : v < 18446744073709551616) :
    Calls Try.prog 35 #[.pointer (some ⟨mb, 0, none⟩), .int .u64 a, .int .i64 n, .int .u64 v] w (RStoreDone w mb bb c (storeL xs a n v) (numE xs.length a n)) := by
  by_cases he : numE xs.length a n = 0
  · obtain ⟨hs, h0, h1, h2, h3⟩ := numE_zero he
    unfold storeL
    rw [if_pos he, he]
    obtain ⟨k, rfl⟩ := nat_of ha
    obtain ⟨m, rfl⟩ := nat_of h0
    exact rstore_ok h k m v hv hv' (by omega) (by omega) hs
  · unfold storeL
    rw [if_neg he]
    exact (rstore_bad h a n v ha ha' hn' he).mono fun e w' ⟨h1, h2⟩ => by subst h2; exact ⟨h1, h, But.refl _ _⟩

theorem slice_eq {a : Option Addr} {n n' c c' : Nat} (h : n = n') (h' : c = c') : Value.slice a n c = .slice a n' c' := by rw [h, h']
theorem rbytes_bad {mb bb c : Nat} {xs : List Int} {w : World} (h : RefAt w mb bb c xs) (a n : Int) (ha : 0 ≤ a) (ha' : a < 18446744073709551616) (hn' : n < 9223372036854775808) (he : accE xs.length a n ≠ 0) :
    Calls Try.prog 36 #[.pointer (some ⟨mb, 0, none⟩), .int .u64 a, .int .i64 n] w fun e w' => e = .returned (.tuple #[.slice none 0 0, .int .i64 (accE xs.length a n)]) ∧ w = w' := by
  by_cases hn : n < 0
  · have e : accE xs.length a n = 2 := by unfold accE; rw [if_pos hn]
    rw [e]
    clear h he e
    go_enter Try.func36, Try.ntmps36
    go_wp2
    go_ret2
    exact ⟨rfl, rfl⟩
  · have e : accE xs.length a n = 15 := by
      unfold accE at he ⊢
      rw [if_neg hn] at he ⊢
      split
      · rfl
      · rename_i hh
        rw [if_neg hh] at he
        exact absurd rfl he
    rw [e]
    have HF := Lib.hid (fits_no h a n ha ha' hn' he)
    clear h he e
    go_enter Try.func36, Try.ntmps36
    go_wp2_with (go_at_call 45; (with_reducible refine HF.out.mono ?_); rintro e w' ⟨rfl, rfl⟩)
    go_ret2
    exact ⟨rfl, rfl⟩
set_option maxHeartbeats 1000000 in
theorem rbytes_ok {mb bb c : Nat} {xs : List Int} {w : World} (h : RefAt w mb bb c xs) (k m : Nat) (hk : 16 ≤ k) (hkm : k + m ≤ xs.length) :
    Calls Try.prog 36 #[.pointer (some ⟨mb, 0, none⟩), .int .u64 k, .int .i64 m] w (BytesDone w (partL xs k m) 0) := by
  obtain ⟨i0, hi, hz0, hz1, hz2⟩ := info_parts u8_info
  have hl := h.hi
  have HI := Lib.hid hi
  have HZ0 := Lib.hid hz0
  have HZ1 := Lib.hid hz1
  have HZ2 := Lib.hid hz2
  have HF := Lib.hid (fits_yes h k m hk hkm)
  have h0 := h.cell0
  have hcap := h.rowcap
  have hcm := h.cap
  unfold maxLen at hcm
  have hmade := Owns.made w w.heap.size 5 1 IsU8 (Nat.le_refl _)
  have HM := Lib.hid hmade
  have hlen := partL_len hkm
  have HK := Lib.hid (u8_cells (partL_bd h.bd k m))
  have lt := h.lt
  obtain ⟨P, hP⟩ : ∃ P, P = partL xs k m := ⟨_, rfl⟩
  have news : ∀ (x : Addr), x = ⟨bb, k, none⟩ ∨ m = 0 → ∀ j u, (P.map (Value.int .u8))[j]? = some u → (w.alloc (.cells #[] 5)).cell? (x.add j) = some u := by
    intro x hx j u hj
    have hlP : P.length = m := by rw [hP]; exact hlen
    have hl : j < P.length := by
      rcases Nat.lt_or_ge j P.length with h | h
      · exact h
      · rw [List.getElem?_eq_none (by simpa using h)] at hj
        cases hj
    obtain rfl : x = ⟨bb, k, none⟩ := by rcases hx with hx | hx; exact hx; omega
    have e : (⟨bb, k, none⟩ : Addr).add j = ⟨bb, k + j, none⟩ := by unfold Addr.add; split <;> simp_all
    rw [e, World.cell?_alloc_lt w _ ⟨bb, k + j, none⟩ lt.2, h.row.cell (by omega)]
    simp [List.getElem?_eq_getElem hl] at hj
    subst hj
    have : P.getD j 0 = xs.getD (k + j) 0 := by rw [hP]; exact getD_part (by omega)
    rw [← this]
    simp [List.getD, List.getElem?_eq_getElem hl]
  rw [← hP] at hlen HK ⊢
  have HLEN := Lib.hid hlen
  have HN := Lib.hid news
  obtain ⟨L, hL⟩ : ∃ L, L = xs.length := ⟨_, rfl⟩
  rw [← hL] at h0 hl hkm hcap
  clear hi hz0 hz1 hz2 news hmade hP hlen hL h
  by_cases hend : k < c
  · go_enter Try.func36, Try.ntmps36
    go_wp2_with (first
      | (go_at_call 45; (with_reducible refine HF.out.mono ?_); rintro e w' ⟨rfl, rfl⟩)
      | (at_builtin; refine wpList_append_q _ rfl (.tmp 15) (.tmp 25) 33 rfl w.heap.size 5 i0 _ 1 1 Try.underlying33 HI.out HZ0.out HZ1.out HZ2.out rfl (by decide) IsU8 zero_u8 _ 0 [] rfl HM.out ⟨bb, k, none⟩ m (c - k) (P.map (Value.int .u8)) (slice_eq (by omega) rfl) (by simp [HLEN.out]) (HN.out _ (.inl rfl)) (ints_oneCell _ _) HK.out (by simp only [maxLen]; omega) (by omega) (by simp) ?_; intro v' w1 hown' hgrow; have R0 := Lib.hid hown'; have R1 := Lib.hid hgrow; clear hown' hgrow))
    go_ret2
    refine ⟨_, rfl, ?_, ((Below.refl _ _).alloc (Nat.le_refl _) _).grown R1.out (by simp) (fun g hg => (HM.out.lt hg).1)⟩
    have h := R0.out
    rw [HLEN.out]
    simpa using h
  · have hm0 : m = 0 := by omega
    have hkc : k = c := by omega
    subst hm0 hkc
    have hf0 : Calls Try.prog 45 #[.pointer (some ⟨mb, 0, none⟩), .int .u64 k, .int .i64 0] w fun e w' => e = .returned (.bool true) ∧ w = w' := HF.out
    have HF0 := Lib.hid hf0
    clear hf0
    obtain rfl : P = [] := List.eq_nil_of_length_eq_zero HLEN.out
    have hLk : L = k := by omega
    subst hLk
    clear HF HLEN hend hcap
    go_enter Try.func36, Try.ntmps36
    go_wp2_with (first
      | (go_at_call 45; (with_reducible refine HF0.out.mono ?_); rintro e w' ⟨rfl, rfl⟩)
      | (at_builtin; refine wpList_append_q _ rfl (.tmp 15) (.tmp 25) 33 rfl w.heap.size 5 i0 _ 1 1 Try.underlying33 HI.out HZ0.out HZ1.out HZ2.out rfl (by decide) IsU8 zero_u8 _ 0 [] rfl HM.out ⟨bb, 0, none⟩ 0 0 [] rfl rfl (by intro j u hj; simp at hj) (by simp) (by simp) (by simp only [maxLen]; omega) (by omega) (by simp) ?_; intro v' w1 hown' hgrow; have R0 := Lib.hid hown'; have R1 := Lib.hid hgrow; clear hown' hgrow))
    go_ret2
    exact ⟨_, rfl, R0.out, ((Below.refl _ _).alloc (Nat.le_refl _) _).grown R1.out (by simp) (fun g hg => (HM.out.lt hg).1)⟩
theorem rbytes_any {mb bb c : Nat} {xs : List Int} {w : World} (h : RefAt w mb bb c xs) (a n : Int) (ha : 0 ≤ a) (ha' : a < 18446744073709551616) (hn' : n < 9223372036854775808) :
    Calls Try.prog 36 #[.pointer (some ⟨mb, 0, none⟩), .int .u64 a, .int .i64 n] w (BytesDone w (bytesL xs a n) (accE xs.length a n)) := by
  by_cases he : accE xs.length a n = 0
  · obtain ⟨h0, h1, h2, h3⟩ := accE_zero he
    unfold bytesL
    rw [if_pos he, he]
    obtain ⟨k, rfl⟩ := nat_of ha
    obtain ⟨m, rfl⟩ := nat_of h0
    exact rbytes_ok h k m (by omega) (by omega)
  · unfold bytesL
    rw [if_neg he]
    exact (rbytes_bad h a n ha ha' hn' he).mono fun e w' ⟨h1, h2⟩ => by subst h2; exact ⟨_, h1, Owns.nil _ _ _ _ _, Below.refl _ _⟩

theorem rlay_bad {mb bb c : Nat} {xs ys : List Int} {w : World} (h : RefAt w mb bb c xs) (a : Int) {Y : Value} {B : Nat} (hY : IsBytes w B Y ys) (ha : 0 ≤ a) (ha' : a < 18446744073709551616) (he : accE xs.length a ys.length ≠ 0) :
    Calls Try.prog 39 #[.pointer (some ⟨mb, 0, none⟩), .int .u64 a, Y] w fun e w' => e = .returned (.int .i64 (accE xs.length a ys.length)) ∧ w = w' := by
  obtain ⟨A, cap, rfl, hb⟩ := isBytes_value hY
  have e : accE xs.length a ys.length = 15 := by
    unfold accE at he ⊢
    rw [if_neg (by omega)] at he ⊢
    split
    · rfl
    · rename_i hh
      rw [if_neg hh] at he
      exact absurd rfl he
  have HF := Lib.hid (fits_no h a ys.length ha ha' (by omega) he)
  rw [e]
  obtain ⟨m, hm⟩ : ∃ m, m = ys.length := ⟨_, rfl⟩
  rw [← hm] at HF hb ⊢
  clear h he e hY hm
  go_enter Try.func39, Try.ntmps39
  go_wp2_with (go_at_call 45; (with_reducible refine HF.out.mono ?_); rintro e w' ⟨rfl, rfl⟩)
  go_ret
  exact ⟨rfl, rfl⟩
theorem layL_step {xs ys : List Int} {a j : Nat} (hj : j < ys.length) (h : a + ys.length ≤ xs.length) : layL xs a (ys.take (j + 1)) = (layL xs a (ys.take j)).set (a + j) (ys.getD j 0) := by
  have hl : (ys.take j).length = j := by simp; omega
  rw [take_snoc' hj, layL_snoc _ (by rw [hl]; omega), hl]
set_option maxHeartbeats 1000000 in
theorem rlay_ok {mb bb c : Nat} {xs ys : List Int} {w : World} (h : RefAt w mb bb c xs) (k : Nat) {Y : Value} {B : Nat} (hY : IsBytes w B Y ys) (hB : B ≤ w.heap.size) (hBb : B ≤ bb) (hk : 16 ≤ k) (hkm : k + ys.length ≤ xs.length) (hm : 0 < ys.length) :
    Calls Try.prog 39 #[.pointer (some ⟨mb, 0, none⟩), .int .u64 k, Y] w (RStoreDone w mb bb c (layL xs k ys) 0) := by
  have hl := h.hi
  obtain ⟨b, off, cap, rfl, hcap, hlt, hc⟩ := hY.plain hm
  have HF := Lib.hid (fits_yes h k ys.length hk hkm)
  have hrc := h.rowcap
  have HR := Lib.hid h
  have HYB := Lib.hid hY.1
  obtain ⟨m, hmm⟩ : ∃ m, m = ys.length := ⟨_, rfl⟩
  obtain ⟨L, hL⟩ : ∃ L, L = xs.length := ⟨_, rfl⟩
  rw [← hL] at hl hkm hrc
  rw [← hmm] at hcap hc HF hkm hm ⊢
  have HMM := Lib.hid hmm
  have HL := Lib.hid hL
  have HC := Lib.hid hc
  have HX := Lib.hid (layL_nil xs k)
  clear hL h hY hmm hc
  go_enter Try.func39, Try.ntmps39
  go_wp2_with (go_at_call 45; (with_reducible refine HF.out.mono ?_); rintro e w' ⟨rfl, rfl⟩)
  go_loopw [7] (fun i wr => ∃ j : Nat, j ≤ m ∧ i = .int .i64 j ∧ Hid (RefAt wr mb bb c (layL xs k (ys.take j)) ∧ But (OneBlock bb) w wr)) (fun i _ => m - (intOf i).toNat)
  case atStart => exact ⟨0, by omega, rfl, by rw [List.take_zero, HX.out]; exact ⟨HR.out, But.refl _ _⟩⟩
  case round =>
    obtain ⟨j, hj, rfl, hq⟩ := hrel
    by_cases hlt2 : j < m
    · have htl : (ys.take j).length = j := by have := HMM.out; simp; omega
      have hcl := hq.out.1.cell_lay (by rw [htl, ← HL.out]; omega)
      rw [← HL.out] at hcl
      have hfr := hq.out.1.row.free (k + j)
      have hold : wr.cell? ⟨bb, k + j, none⟩ = some (.int .u8 ((layL xs k (ys.take j)).getD (k + j) 0)) := hq.out.1.row.cell (by rw [layL_len (by rw [htl, ← HL.out]; omega), ← HL.out]; omega)
      have hsrc : wr.cell? ⟨b, off + j, none⟩ = some (.int .u8 (ys.getD j 0)) := by rw [hq.out.2.cell (p := ⟨b, _, none⟩) (show b < _ by omega) (oneBlock_not (show b ≠ bb by omega))]; exact HC.out j hlt2
      obtain ⟨y1, y2⟩ := getD_bd HYB.out (k := j) (by rw [← HMM.out]; exact hlt2)
      obtain ⟨old, ho⟩ : ∃ o, o = (layL xs k (ys.take j)).getD (k + j) 0 := ⟨_, rfl⟩
      rw [← ho] at hold
      have HN := Lib.hid (layL_step (xs := xs) (ys := ys) (a := k) (j := j) (by rw [← HMM.out]; exact hlt2) (by rw [← HL.out, ← HMM.out]; exact hkm))
      obtain ⟨y, hy⟩ : ∃ y, y = ys.getD j 0 := ⟨_, rfl⟩
      rw [← hy] at hsrc y1 y2 HN
      have HT := Lib.hid htl
      have i1 : (k : Int) + (j : Int) < (L : Int) := by omega
      have i2 : (j : Int) < (m : Int) := by omega
      have i3 : (0 : Int) ≤ (j : Int) := by omega
      have i4 : (0 : Int) ≤ (k : Int) + (j : Int) := by omega
      clear ho hy htl
      have hw1 : IntKind.i64.wrap (k : Int) = (k : Int) := by rw [IntKind.wrap_i64]; omega
      have hw2 : IntKind.i64.wrap ((k : Int) + (j : Int)) = (k : Int) + (j : Int) := by rw [IntKind.wrap_i64]; omega
      have hw3 : ((k : Int) + (j : Int)).toNat = k + j := by omega
      go_wp2_with fail
      go_still_tail 13, (by kernel_rfl)
      go_wp2
      clear hw1 hw2 hw3
      go_roundw
      case rel => exact ⟨j + 1, by omega, by go_num, by rw [HN.out]; exact ⟨(hq.out.1.but ((But.refl NoBlock _).drew) (noBlock_not _) (noBlock_not _)).set (by rw [layL_len (by rw [HT.out, ← HL.out]; omega), ← HL.out]; omega) ⟨y1, y2⟩, (hq.out.2.drew).setCell (p := ⟨bb, k + j, none⟩) (Or.inl rfl) _⟩⟩
      case measure => simp [intOf]; omega
    · obtain rfl : j = m := by omega
      go_wp2
      go_ret
      refine ⟨rfl, ?_, hq.out.2⟩
      have := hq.out.1
      rw [List.take_of_length_le (by have := HMM.out; omega)] at this
      exact this
theorem rlay_any {mb bb c : Nat} {xs ys : List Int} {w : World} (h : RefAt w mb bb c xs) (a : Int) {Y : Value} {B : Nat} (hY : IsBytes w B Y ys) (hB : B ≤ w.heap.size) (hBb : B ≤ bb) (ha : 0 ≤ a) (ha' : a < 18446744073709551616) :
    Calls Try.prog 39 #[.pointer (some ⟨mb, 0, none⟩), .int .u64 a, Y] w (RStoreDone w mb bb c (layB xs a ys) (accE xs.length a ys.length)) := by
  have hb := hY.2.1
  unfold maxLen at hb
  by_cases he : accE xs.length a ys.length = 0
  · obtain ⟨h0, h1, h2, h3⟩ := accE_zero he
    unfold layB
    rw [if_pos he, he]
    obtain ⟨k, rfl⟩ := nat_of ha
    by_cases hm : 0 < ys.length
    · exact rlay_ok h k hY hB hBb (by omega) (by omega) hm
    · obtain rfl : ys = [] := List.eq_nil_of_length_eq_zero (by omega)
      rw [layL_nil]
      have hf := fits_yes h k 0 (by omega) (by omega)
      obtain ⟨A, cap, rfl⟩ := hY.len
      have hf0 : Calls Try.prog 45 #[.pointer (some ⟨mb, 0, none⟩), .int .u64 k, .int .i64 0] w fun e w' => e = .returned (.bool true) ∧ w = w' := hf
      have HF0 := Lib.hid hf0
      have HR := Lib.hid h
      clear hf hf0 h hY he h0 h1 h2 h3 hb hB hBb ha ha' hm
      have hgo : Calls Try.prog 39 #[.pointer (some ⟨mb, 0, none⟩), .int .u64 k, .slice A 0 cap] w fun e w' => e = .returned (.int .i64 0) ∧ w = w' := by
        go_enter Try.func39, Try.ntmps39
        go_wp2_with (go_at_call 45; (with_reducible refine HF0.out.mono ?_); rintro e w' ⟨rfl, rfl⟩)
        go_loop [7] (fun i => i = .int .i64 0) (fun _ => 0)
        case atStart => rfl
        case round =>
          obtain rfl := hrel
          go_wp2
          go_ret
          exact ⟨rfl, rfl⟩
      exact hgo.mono fun e w' ⟨h1, h2⟩ => by subst h2; exact ⟨h1, HR.out, But.refl _ _⟩
  · unfold layB
    rw [if_neg he]
    exact (rlay_bad h a hY ha ha' he).mono fun e w' ⟨h1, h2⟩ => by subst h2; exact ⟨h1, h, But.refl _ _⟩

def RNewDone2 (w : World) (xs : List Int) (e : Ending) (w' : World) : Prop :=
  ∃ mb bb c, e = .returned (.tuple #[.pointer (some ⟨mb, 0, none⟩), .int .i64 0]) ∧ RefAt w' mb bb c xs ∧ w.heap.size ≤ mb ∧ w.heap.size ≤ bb ∧ Below w.heap.size w w'
set_option maxHeartbeats 1000000 in
theorem rnew_yes (n : Nat) (w : World) (h : 16 ≤ n) (h' : n ≤ 65536) : Calls Try.prog 11 #[.int .i64 n] w (RNewDone2 w (List.replicate n 0)) := by
  have hmk := make_zeros n h'
  have HM := Lib.hid (Row.made w n)
  obtain ⟨C, hC⟩ : ∃ C, C = ((List.replicate n (0 : Int)).map (Value.int .u8)).toArray := ⟨_, rfl⟩
  rw [← hC] at HM hmk
  have h1 : ¬ (n : Int) < 16 := by omega
  have h2 : ¬ (65536 : Int) < n := by omega
  have HN := Lib.hid h
  clear hC
  go_enter Try.func11, Try.ntmps11
  go_wp2
  go_ret2
  have hsz : (w.alloc (.cells C 5)).heap.size = w.heap.size + 1 := by simp
  have hhead := heap_alloc_new (w.alloc (.cells C 5)) (.cells #[.slice (some ⟨w.heap.size, 0, none⟩) n n] 62)
  rw [hsz] at hhead
  exact ⟨w.heap.size + 1, w.heap.size, n, rfl, ⟨by rw [List.length_replicate]; exact hhead, HM.out.but ((But.refl NoBlock _).alloc _) (noBlock_not _), replicate_bd n, by simpa using HN.out, by simpa using h', by unfold maxLen; omega⟩, by omega, by omega, ((Below.refl _ _).alloc (Nat.le_refl _) _).alloc (by simp) _⟩
theorem rnew_no (n : Int) (w : World) (h : n < 16 ∨ 65536 < n) : Calls Try.prog 11 #[.int .i64 n] w fun e w' => e = .returned (.tuple #[.pointer none, .int .i64 2]) ∧ w = w' := by
  by_cases h1 : n < 16
  · clear h
    go_enter Try.func11, Try.ntmps11
    go_wp2
    go_ret2
    exact ⟨rfl, rfl⟩
  · have h2 : (65536 : Int) < n := by omega
    clear h
    go_enter Try.func11, Try.ntmps11
    go_wp2
    go_ret2
    exact ⟨rfl, rfl⟩
end Go.Proofs.Ythcefpakjkojgaa
