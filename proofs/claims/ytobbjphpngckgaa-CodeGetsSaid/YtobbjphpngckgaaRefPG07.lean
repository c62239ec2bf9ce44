/- The document's own Put and Get of words: contracts for all numbers, sizes and slices of bytes. -/
import Derived.Test.YtobbjphpngckgaaPutGet
namespace Go.Proofs.Ytobbjphpngckgaa
open Go.RowKit
set_option linter.unusedVariables false

theorem sized_any (s : Int) (w : World) : Calls Try.prog 61 #[.int .i64 s] w fun e w' => e = .returned (.bool (sizedB s)) ∧ w = w' := by
  by_cases h1 : s = 1
  · subst h1
    go_enter Try.func61, Try.ntmps61
    go_wp2
    go_ret
    exact ⟨rfl, rfl⟩
  by_cases h2 : s = 2
  · subst h2
    go_enter Try.func61, Try.ntmps61
    go_wp2
    go_ret
    exact ⟨rfl, rfl⟩
  by_cases h4 : s = 4
  · subst h4
    go_enter Try.func61, Try.ntmps61
    go_wp2
    go_ret
    exact ⟨rfl, rfl⟩
  by_cases h8 : s = 8
  · subst h8
    go_enter Try.func61, Try.ntmps61
    go_wp2
    go_ret
    exact ⟨rfl, rfl⟩
  have e : sizedB s = false := by simp [sizedB, h1, h2, h4, h8]
  rw [e]
  clear e
  have b1 : (s == 1) = false := by simpa using h1
  have b2 : (s == 2) = false := by simpa using h2
  have b4 : (s == 4) = false := by simpa using h4
  have b8 : (s == 8) = false := by simpa using h8
  clear h1 h2 h4 h8
  go_enter Try.func61, Try.ntmps61
  go_wp2
  go_ret
  exact ⟨rfl, rfl⟩
theorem sized_any_no {s : Int} (h : sizedB s = false) (w : World) : Calls Try.prog 61 #[.int .i64 s] w fun e w' => e = .returned (.bool false) ∧ w = w' := by
  rw [← h]
  exact sized_any s w
theorem byteV_down (a : Int) (k : Nat) : a / 256 ^ k / 256 = a / 256 ^ (k + 1) := by
  rw [Int.pow_succ, Int.ediv_mul_of_nonneg (by have : (0 : Int) < 256 ^ k := Int.pow_pos (by omega); omega)]
theorem down_bd {a : Int} (ha : 0 ≤ a) (k : Nat) : 0 ≤ a / 256 ^ k ∧ a / 256 ^ k ≤ a := ediv_bd ha (Int.pow_pos (by omega))
set_option maxHeartbeats 1000000 in
theorem rput_yes (a : Int) (n : Nat) (w : World) (ha : 0 ≤ a) (ha' : a < 18446744073709551616) (hs : sizedB n = true) :
    Calls Try.prog 40 #[.int .u64 a, .int .i64 n] w (PutDone w (bytesV a n)) := by
  obtain ⟨i0, hi, hz0, hz1, hz2⟩ := info_parts u8_info
  have hn8 : n ≤ 8 := by rcases sized_cases hs with h | h | h | h <;> omega
  have cs : ∀ w, Calls Try.prog 61 #[.int .i64 n] w fun e w' => e = .returned (.bool true) ∧ w = w' := fun w => hs ▸ sized_any n w
  have CS := Lib.hid cs
  clear cs hs
  have HI := Lib.hid hi
  have HZ0 := Lib.hid hz0
  have HZ1 := Lib.hid hz1
  have HZ2 := Lib.hid hz2
  clear hi hz0 hz1 hz2
  have h0 : a = a / 256 ^ 0 := by simp
  have H0 := Lib.hid h0
  clear h0
  go_enter Try.func40, Try.ntmps40
  go_wp2_with (go_at_call 61; (with_reducible refine (CS.out _).mono ?_); rintro e w' ⟨rfl, rfl⟩)
  go_loopw [0, 6, 7] (fun x v i wr => ∃ k : Nat, k ≤ n ∧ x = .int .u64 (a / 256 ^ k) ∧ i = .int .i64 k ∧ Owns wr w.heap.size 5 1 IsU8 v k ((bytesV a k).map (Value.int .u8)) ∧ Below w.heap.size w wr) (fun _ _ i _ => n - (intOf i).toNat)
  case atStart => exact ⟨0, by omega, congrArg (Value.int .u64) H0.out, rfl, Owns.nil _ _ _ _ _, Below.refl _ _⟩
  case round =>
    obtain ⟨k, hk, rfl, rfl, hown, hb⟩ := hrel
    have hnx := hb.size
    have HO := Lib.hid hown
    have HB := Lib.hid hb
    have hd := byteV_down a k
    have HD := Lib.hid hd
    obtain ⟨d1, d2⟩ := down_bd ha k
    clear hown hb hd
    by_cases hlt : k < n
    · go_wp2_with (at_builtin; refine wpList_append_q _ rfl (.tmp 16) (.tmp 20) 26 rfl w.heap.size 5 i0 _ 1 1 Try.underlying26 HI.out HZ0.out HZ1.out HZ2.out rfl (by decide) IsU8 zero_u8 _ k _ rfl (HO.out.alloc _) ⟨wr.heap.size, 0, none⟩ 1 1 [.int .u8 (a / 256 ^ k % 256)] rfl rfl (news_one _ _ _) (by intro u hu; simp at hu; subst hu; rfl) (by intro u hu; simp at hu; subst hu; exact ⟨_, by omega, by omega, rfl⟩) (by simp only [maxLen]; omega) (by omega) (by simp; omega) ?_; intro v' w1 hown' hgrow; have R0 := Lib.hid (put_step (a := a) (k := k) rfl HB.out HO.out hown' hgrow); clear hown' hgrow)
      go_roundw
      case rel => exact ⟨k + 1, by omega, congrArg (Value.int .u64) HD.out, by go_num, R0.out.1, R0.out.2⟩
      case measure => simp [intOf]; omega
    · go_wp2
      go_ret2
      exact put_end HO.out HB.out (by omega)
theorem rput_no (a s : Int) (w : World) (hs : sizedB s = false) :
    Calls Try.prog 40 #[.int .u64 a, .int .i64 s] w fun e w' => e = .returned (.tuple #[.slice none 0 0, .int .i64 2]) ∧ w = w' := by
  have H := Lib.hid hs
  clear hs
  go_enter Try.func40, Try.ntmps40
  go_wp2_with (go_at_call 61; (with_reducible refine (sized_any_no H.out _).mono ?_); rintro e w' ⟨rfl, rfl⟩)
  go_ret2
  exact ⟨rfl, rfl⟩


theorem rget_long (X : Value) (xs : List Int) (w : World) (B : Nat) (hX : IsBytes w B X xs) (h : 8 < xs.length) :
    Calls Try.prog 48 #[X] w fun e w' => e = .returned (.tuple #[.int .u64 (getV xs), .int .i64 (getE xs)]) ∧ w = w' := by
  rw [show getV xs = 0 by unfold getV; rw [if_pos h], show getE xs = 3 by unfold getE; rw [if_pos h]]
  obtain ⟨A, cap, rfl⟩ := hX.len
  have hm := hX.2.1
  unfold maxLen at hm
  have h8 : (8 : Int) < (xs.length : Int) := by omega
  clear hX h
  go_enter Try.func48, Try.ntmps48
  go_wp2
  go_ret2
  exact ⟨rfl, rfl⟩
theorem rget_odd (X : Value) (xs : List Int) (w : World) (B : Nat) (hX : IsBytes w B X xs) (h : ¬ 8 < xs.length) (hs : sizedB xs.length = false) :
    Calls Try.prog 48 #[X] w fun e w' => e = .returned (.tuple #[.int .u64 (getV xs), .int .i64 (getE xs)]) ∧ w = w' := by
  rw [show getV xs = 0 by unfold getV; rw [if_neg h, if_neg (by simp [hs])], show getE xs = 2 by unfold getE; rw [if_neg h, if_neg (by simp [hs])]]
  obtain ⟨A, cap, rfl⟩ := hX.len
  have h8 : ¬ (8 : Int) < (xs.length : Int) := by omega
  have HS := Lib.hid hs
  clear hX h hs
  go_enter Try.func48, Try.ntmps48
  go_wp2_with (go_at_call 61; (with_reducible refine (sized_any_no HS.out _).mono ?_); rintro e w' ⟨rfl, rfl⟩)
  go_ret2
  exact ⟨rfl, rfl⟩

set_option maxHeartbeats 1000000 in
theorem rget_fit (X : Value) (xs : List Int) (w : World) (B : Nat) (hX : IsBytes w B X xs) (h : ¬ 8 < xs.length) (hs : sizedB xs.length = true) :
    Calls Try.prog 48 #[X] w fun e w' => e = .returned (.tuple #[.int .u64 (getV xs), .int .i64 (getE xs)]) ∧ w = w' := by
  rw [show getV xs = numV xs by unfold getV; rw [if_neg h, if_pos hs], show getE xs = 0 by unfold getE; rw [if_neg h, if_pos hs]]
  have hpos : 0 < xs.length := by rcases sized_cases hs with h | h | h | h <;> omega
  obtain ⟨b, off, cap, rfl, hcap, hlt, hc⟩ := hX.plain hpos
  have hx := hX.1
  have h8 : ¬ (8 : Int) < (xs.length : Int) := by omega
  have cs : ∀ w, Calls Try.prog 61 #[.int .i64 xs.length] w fun e w' => e = .returned (.bool true) ∧ w = w' := fun w => hs ▸ sized_any _ w
  have CS := Lib.hid cs
  have HC := Lib.hid hc
  have HX := Lib.hid hx
  obtain ⟨n, hn⟩ : ∃ n, n = xs.length := ⟨_, rfl⟩
  have hn8 : n ≤ 8 := by omega
  rw [← hn] at hcap h8 CS HC ⊢
  have HN := Lib.hid hn
  clear cs hs hc hx h hX hpos hlt hn
  go_enter Try.func48, Try.ntmps48
  go_wp2_with (go_at_call 61; (with_reducible refine (CS.out _).mono ?_); rintro e w' ⟨rfl, rfl⟩)
  go_loop [4, 5] (fun x i => ∃ k : Nat, k ≤ n ∧ i = .int .i64 ((k : Int) - 1) ∧ x = .int .u64 (numV (xs.drop k))) (fun _ i => (intOf i + 1).toNat)
  case atStart => exact ⟨n, by omega, rfl, by rw [List.drop_of_length_le (by have := HN.out; omega)]; rfl⟩
  case round =>
    obtain ⟨k, hk, rfl, rfl⟩ := hrel
    by_cases hlt : 0 < k
    · obtain ⟨j, rfl⟩ : ∃ j, k = j + 1 := ⟨k - 1, by omega⟩
      have hcell := HC.out j (by omega)
      have hst : numV (xs.drop j) = xs.getD j 0 + 256 * numV (xs.drop (j + 1)) := by rw [drop_cons' (k := j) (by have := HN.out; omega)]; rfl
      obtain ⟨y1, y2⟩ := getD_bd HX.out (k := j) (by have := HN.out; omega)
      obtain ⟨z1, z2⟩ : 0 ≤ numV (xs.drop (j + 1)) ∧ 256 * numV (xs.drop (j + 1)) + 255 < 18446744073709551616 := by
        rcases drop_bd HX.out (by have := HN.out; omega) j with h | h
        · exact h
        · have := HN.out; omega
      obtain ⟨y, hy⟩ : ∃ y, y = xs.getD j 0 := ⟨_, rfl⟩
      obtain ⟨z, hz⟩ : ∃ z, z = numV (xs.drop (j + 1)) := ⟨_, rfl⟩
      rw [← hy] at hcell y1 y2 hst
      rw [← hz] at z1 z2 hst ⊢
      have HST := Lib.hid hst
      have e1 : ((j + 1 : Nat) : Int) - 1 = (j : Int) := by omega
      rw [e1]
      clear hst hy hz e1
      go_wp2
      go_round
      case rel => exact ⟨j, by omega, by go_num, by rw [HST.out]; first | done | (congr 1; omega)⟩
      case measure => simp [intOf]
    · obtain rfl : k = 0 := by omega
      go_wp2
      go_ret2
      exact ⟨ret_int2 (by simp) rfl, rfl⟩

theorem rget_any (X : Value) (xs : List Int) (w : World) (B : Nat) (hX : IsBytes w B X xs) :
    Calls Try.prog 48 #[X] w fun e w' => e = .returned (.tuple #[.int .u64 (getV xs), .int .i64 (getE xs)]) ∧ w = w' := by
  by_cases h : 8 < xs.length
  · exact rget_long X xs w B hX h
  · cases hs : sizedB xs.length
    · exact rget_odd X xs w B hX h hs
    · exact rget_fit X xs w B hX h hs

end Go.Proofs.Ytobbjphpngckgaa
