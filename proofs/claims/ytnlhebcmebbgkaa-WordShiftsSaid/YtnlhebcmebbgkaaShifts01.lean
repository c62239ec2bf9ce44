/- The statement on moves and orders, walked: it answers true at any two numbers of 64 bits, and what was there stays as it was. -/
import Derived.Test.YtnlhebcmebbgkaaRows
import Derived.Test.YtnlhebcmebbgkaaMath01
import Derived.Test.YtnlhebcmebbgkaaOwn
import Derived.Test.YtnlhebcmebbgkaaLawMath01
import Derived.Test.YtnlhebcmebbgkaaLaws01
import Derived.Test.YtnlhebcmebbgkaaProducts01
import Derived.WalkKit
import Derived.WalkSpells
import Derived.WalkLawsBesides
import Derived.ProofKit
import Derived.Lib.Hide
namespace Go.Proofs.Ytnlhebcmebbgkaa
open Go.RowKit
set_option linter.unusedVariables false
theorem shl_twice (a : Int) (k : Nat) : IntKind.u64.wrap (shlV a k + shlV a k) = shlV a (k + 1) := by
  rw [shlV_succ, IntKind.wrap_u64]
  congr 1
  omega

set_option maxHeartbeats 4000000 in
theorem shifts_eq (a b : Int) (N : Nat) (w : World) (ha : 0 ≤ a) (ha' : a < 18446744073709551616) (hb : 0 ≤ b) (hb' : b < 18446744073709551616) (hN : b % 64 = N) (Ts : Told 14 a b (shlV a N)) (Tr : Told 15 a b (shrV a N)) (Ta : Told 16 a b (sarV a N)) (Tn : Told 14 a (b % 64) (shlV a N)) (T17 : Told 17 a b 0) (T17t : Told 17 b a 0) (T19 : Told 19 a b 1) (T18 : Told 18 a b 0) (T18t : Told 18 b a 0) (T20 : Told 20 a b 0)
    (g1 : (decide (9223372036854775808 ≤ a) == decide (9223372036854775808 ≤ b)) = true) (g2 : (a == b) = true) :
    Calls Try.prog 8 #[.int .u64 a, .int .u64 b] w fun e w' => e = .returned (.bool true) ∧ Below w.heap.size w w' := by
  have hR := Lib.hid (Below.refl w.heap.size w)
  have G1 := Lib.hid g1
  have G2 := Lib.hid g2
  have HN := Lib.hid hN
  have hN64 : N < 64 := by omega
  clear g1 g2 hN
  go_enter Try.func8, Try.ntmps8
  go_wp2_with (go_at_call 14; (with_reducible refine (awake_any _).mono ?_); rintro e wn ⟨rfl, hbl⟩; have hR := grow_step hR hbl; clear hbl)
  go_loop [7, 8, 9, 10] (fun u d s i => ∃ k : Nat, k ≤ N ∧ i = .int .u64 k ∧ u = .int .u64 (shlV a k) ∧ d = .int .u64 (shrV a k) ∧ s = .int .u64 (sarV a k)) (fun _ _ _ i => N - (intOf i).toNat)
  case atStart => exact ⟨0, by omega, rfl, by rw [shlV_zero ha ha'], by rw [shrV_zero], by rw [sarV_zero ha ha']⟩
  case round =>
    obtain ⟨k, hk, rfl, rfl, rfl, rfl⟩ := hrel
    have S1 := Lib.hid (shl_twice a k)
    have S2 := Lib.hid (shrV_succ a k)
    have S3 := Lib.hid (sarV_succ ha ha' k)
    obtain ⟨x1, x2⟩ := shrV_bd ha k
    obtain ⟨y1, y2⟩ := sarV_bd a k
    by_cases hlt : k < N
    · have hlt2 : (k : Int) < b % 64 := by rw [HN.out]; omega
      go_wp2
      go_round
      case rel => exact ⟨k + 1, by omega, by go_num, by rw [← S1.out], by rw [S2.out], by rw [S3.out]⟩
      case measure => simp [intOf]; omega
    · obtain rfl : k = N := by omega
      have hlt2 : ¬ (k : Int) < b % 64 := by rw [HN.out]; omega
      have g1 := G1.out
      have g2 := G2.out
      clear S1 S2 S3
      go_wp2_with (go_at_call 28; (first | (with_reducible refine (told_out Ts _).mono ?_) | (with_reducible refine (told_out Tr _).mono ?_) | (with_reducible refine (told_out Ta _).mono ?_) | (with_reducible refine (told_out Tn _).mono ?_) | (with_reducible refine (told_out T17 _).mono ?_) | (with_reducible refine (told_out T17t _).mono ?_) | (with_reducible refine (told_out T19 _).mono ?_) | (with_reducible refine (told_out T18 _).mono ?_) | (with_reducible refine (told_out T18t _).mono ?_) | (with_reducible refine (told_out T20 _).mono ?_)); rintro e wn ⟨rfl, hbl⟩; have hR := grow_step hR hbl; clear hbl)
      go_ret
      exact ⟨rfl, hR.out⟩
set_option maxHeartbeats 4000000 in
theorem shifts_lt (a b : Int) (N : Nat) (w : World) (ha : 0 ≤ a) (ha' : a < 18446744073709551616) (hb : 0 ≤ b) (hb' : b < 18446744073709551616) (hN : b % 64 = N) (Ts : Told 14 a b (shlV a N)) (Tr : Told 15 a b (shrV a N)) (Ta : Told 16 a b (sarV a N)) (Tn : Told 14 a (b % 64) (shlV a N)) (T17 : Told 17 a b 1) (T17t : Told 17 b a 0) (T19 : Told 19 a b 0) (T18 : Told 18 a b 1) (T18t : Told 18 b a 0) (T20 : Told 20 a b 1)
    (g1 : (decide (9223372036854775808 ≤ a) == decide (9223372036854775808 ≤ b)) = true) (g2 : (a == b) = false) :
    Calls Try.prog 8 #[.int .u64 a, .int .u64 b] w fun e w' => e = .returned (.bool true) ∧ Below w.heap.size w w' := by
  have hR := Lib.hid (Below.refl w.heap.size w)
  have G1 := Lib.hid g1
  have G2 := Lib.hid g2
  have HN := Lib.hid hN
  have hN64 : N < 64 := by omega
  clear g1 g2 hN
  go_enter Try.func8, Try.ntmps8
  go_wp2_with (go_at_call 14; (with_reducible refine (awake_any _).mono ?_); rintro e wn ⟨rfl, hbl⟩; have hR := grow_step hR hbl; clear hbl)
  go_loop [7, 8, 9, 10] (fun u d s i => ∃ k : Nat, k ≤ N ∧ i = .int .u64 k ∧ u = .int .u64 (shlV a k) ∧ d = .int .u64 (shrV a k) ∧ s = .int .u64 (sarV a k)) (fun _ _ _ i => N - (intOf i).toNat)
  case atStart => exact ⟨0, by omega, rfl, by rw [shlV_zero ha ha'], by rw [shrV_zero], by rw [sarV_zero ha ha']⟩
  case round =>
    obtain ⟨k, hk, rfl, rfl, rfl, rfl⟩ := hrel
    have S1 := Lib.hid (shl_twice a k)
    have S2 := Lib.hid (shrV_succ a k)
    have S3 := Lib.hid (sarV_succ ha ha' k)
    obtain ⟨x1, x2⟩ := shrV_bd ha k
    obtain ⟨y1, y2⟩ := sarV_bd a k
    by_cases hlt : k < N
    · have hlt2 : (k : Int) < b % 64 := by rw [HN.out]; omega
      go_wp2
      go_round
      case rel => exact ⟨k + 1, by omega, by go_num, by rw [← S1.out], by rw [S2.out], by rw [S3.out]⟩
      case measure => simp [intOf]; omega
    · obtain rfl : k = N := by omega
      have hlt2 : ¬ (k : Int) < b % 64 := by rw [HN.out]; omega
      have g1 := G1.out
      have g2 := G2.out
      clear S1 S2 S3
      go_wp2_with (go_at_call 28; (first | (with_reducible refine (told_out Ts _).mono ?_) | (with_reducible refine (told_out Tr _).mono ?_) | (with_reducible refine (told_out Ta _).mono ?_) | (with_reducible refine (told_out Tn _).mono ?_) | (with_reducible refine (told_out T17 _).mono ?_) | (with_reducible refine (told_out T17t _).mono ?_) | (with_reducible refine (told_out T19 _).mono ?_) | (with_reducible refine (told_out T18 _).mono ?_) | (with_reducible refine (told_out T18t _).mono ?_) | (with_reducible refine (told_out T20 _).mono ?_)); rintro e wn ⟨rfl, hbl⟩; have hR := grow_step hR hbl; clear hbl)
      go_ret
      exact ⟨rfl, hR.out⟩
set_option maxHeartbeats 4000000 in
theorem shifts_lx (a b : Int) (N : Nat) (w : World) (ha : 0 ≤ a) (ha' : a < 18446744073709551616) (hb : 0 ≤ b) (hb' : b < 18446744073709551616) (hN : b % 64 = N) (Ts : Told 14 a b (shlV a N)) (Tr : Told 15 a b (shrV a N)) (Ta : Told 16 a b (sarV a N)) (Tn : Told 14 a (b % 64) (shlV a N)) (T17 : Told 17 a b 0) (T17t : Told 17 b a 1) (T19 : Told 19 a b 0) (T18 : Told 18 a b 1) (T18t : Told 18 b a 0) (T20 : Told 20 a b 1)
    (g1 : (decide (9223372036854775808 ≤ a) == decide (9223372036854775808 ≤ b)) = false) (g2 : (a == b) = false) :
    Calls Try.prog 8 #[.int .u64 a, .int .u64 b] w fun e w' => e = .returned (.bool true) ∧ Below w.heap.size w w' := by
  have hR := Lib.hid (Below.refl w.heap.size w)
  have G1 := Lib.hid g1
  have G2 := Lib.hid g2
  have HN := Lib.hid hN
  have hN64 : N < 64 := by omega
  clear g1 g2 hN
  go_enter Try.func8, Try.ntmps8
  go_wp2_with (go_at_call 14; (with_reducible refine (awake_any _).mono ?_); rintro e wn ⟨rfl, hbl⟩; have hR := grow_step hR hbl; clear hbl)
  go_loop [7, 8, 9, 10] (fun u d s i => ∃ k : Nat, k ≤ N ∧ i = .int .u64 k ∧ u = .int .u64 (shlV a k) ∧ d = .int .u64 (shrV a k) ∧ s = .int .u64 (sarV a k)) (fun _ _ _ i => N - (intOf i).toNat)
  case atStart => exact ⟨0, by omega, rfl, by rw [shlV_zero ha ha'], by rw [shrV_zero], by rw [sarV_zero ha ha']⟩
  case round =>
    obtain ⟨k, hk, rfl, rfl, rfl, rfl⟩ := hrel
    have S1 := Lib.hid (shl_twice a k)
    have S2 := Lib.hid (shrV_succ a k)
    have S3 := Lib.hid (sarV_succ ha ha' k)
    obtain ⟨x1, x2⟩ := shrV_bd ha k
    obtain ⟨y1, y2⟩ := sarV_bd a k
    by_cases hlt : k < N
    · have hlt2 : (k : Int) < b % 64 := by rw [HN.out]; omega
      go_wp2
      go_round
      case rel => exact ⟨k + 1, by omega, by go_num, by rw [← S1.out], by rw [S2.out], by rw [S3.out]⟩
      case measure => simp [intOf]; omega
    · obtain rfl : k = N := by omega
      have hlt2 : ¬ (k : Int) < b % 64 := by rw [HN.out]; omega
      have g1 := G1.out
      have g2 := G2.out
      clear S1 S2 S3
      go_wp2_with (go_at_call 28; (first | (with_reducible refine (told_out Ts _).mono ?_) | (with_reducible refine (told_out Tr _).mono ?_) | (with_reducible refine (told_out Ta _).mono ?_) | (with_reducible refine (told_out Tn _).mono ?_) | (with_reducible refine (told_out T17 _).mono ?_) | (with_reducible refine (told_out T17t _).mono ?_) | (with_reducible refine (told_out T19 _).mono ?_) | (with_reducible refine (told_out T18 _).mono ?_) | (with_reducible refine (told_out T18t _).mono ?_) | (with_reducible refine (told_out T20 _).mono ?_)); rintro e wn ⟨rfl, hbl⟩; have hR := grow_step hR hbl; clear hbl)
      go_ret
      exact ⟨rfl, hR.out⟩
set_option maxHeartbeats 4000000 in
theorem shifts_gt (a b : Int) (N : Nat) (w : World) (ha : 0 ≤ a) (ha' : a < 18446744073709551616) (hb : 0 ≤ b) (hb' : b < 18446744073709551616) (hN : b % 64 = N) (Ts : Told 14 a b (shlV a N)) (Tr : Told 15 a b (shrV a N)) (Ta : Told 16 a b (sarV a N)) (Tn : Told 14 a (b % 64) (shlV a N)) (T17 : Told 17 a b 0) (T17t : Told 17 b a 1) (T19 : Told 19 a b 0) (T18 : Told 18 a b 0) (T18t : Told 18 b a 1) (T20 : Told 20 a b 1)
    (g1 : (decide (9223372036854775808 ≤ a) == decide (9223372036854775808 ≤ b)) = true) (g2 : (a == b) = false) :
    Calls Try.prog 8 #[.int .u64 a, .int .u64 b] w fun e w' => e = .returned (.bool true) ∧ Below w.heap.size w w' := by
  have hR := Lib.hid (Below.refl w.heap.size w)
  have G1 := Lib.hid g1
  have G2 := Lib.hid g2
  have HN := Lib.hid hN
  have hN64 : N < 64 := by omega
  clear g1 g2 hN
  go_enter Try.func8, Try.ntmps8
  go_wp2_with (go_at_call 14; (with_reducible refine (awake_any _).mono ?_); rintro e wn ⟨rfl, hbl⟩; have hR := grow_step hR hbl; clear hbl)
  go_loop [7, 8, 9, 10] (fun u d s i => ∃ k : Nat, k ≤ N ∧ i = .int .u64 k ∧ u = .int .u64 (shlV a k) ∧ d = .int .u64 (shrV a k) ∧ s = .int .u64 (sarV a k)) (fun _ _ _ i => N - (intOf i).toNat)
  case atStart => exact ⟨0, by omega, rfl, by rw [shlV_zero ha ha'], by rw [shrV_zero], by rw [sarV_zero ha ha']⟩
  case round =>
    obtain ⟨k, hk, rfl, rfl, rfl, rfl⟩ := hrel
    have S1 := Lib.hid (shl_twice a k)
    have S2 := Lib.hid (shrV_succ a k)
    have S3 := Lib.hid (sarV_succ ha ha' k)
    obtain ⟨x1, x2⟩ := shrV_bd ha k
    obtain ⟨y1, y2⟩ := sarV_bd a k
    by_cases hlt : k < N
    · have hlt2 : (k : Int) < b % 64 := by rw [HN.out]; omega
      go_wp2
      go_round
      case rel => exact ⟨k + 1, by omega, by go_num, by rw [← S1.out], by rw [S2.out], by rw [S3.out]⟩
      case measure => simp [intOf]; omega
    · obtain rfl : k = N := by omega
      have hlt2 : ¬ (k : Int) < b % 64 := by rw [HN.out]; omega
      have g1 := G1.out
      have g2 := G2.out
      clear S1 S2 S3
      go_wp2_with (go_at_call 28; (first | (with_reducible refine (told_out Ts _).mono ?_) | (with_reducible refine (told_out Tr _).mono ?_) | (with_reducible refine (told_out Ta _).mono ?_) | (with_reducible refine (told_out Tn _).mono ?_) | (with_reducible refine (told_out T17 _).mono ?_) | (with_reducible refine (told_out T17t _).mono ?_) | (with_reducible refine (told_out T19 _).mono ?_) | (with_reducible refine (told_out T18 _).mono ?_) | (with_reducible refine (told_out T18t _).mono ?_) | (with_reducible refine (told_out T20 _).mono ?_)); rintro e wn ⟨rfl, hbl⟩; have hR := grow_step hR hbl; clear hbl)
      go_ret
      exact ⟨rfl, hR.out⟩
set_option maxHeartbeats 4000000 in
theorem shifts_gx (a b : Int) (N : Nat) (w : World) (ha : 0 ≤ a) (ha' : a < 18446744073709551616) (hb : 0 ≤ b) (hb' : b < 18446744073709551616) (hN : b % 64 = N) (Ts : Told 14 a b (shlV a N)) (Tr : Told 15 a b (shrV a N)) (Ta : Told 16 a b (sarV a N)) (Tn : Told 14 a (b % 64) (shlV a N)) (T17 : Told 17 a b 1) (T17t : Told 17 b a 0) (T19 : Told 19 a b 0) (T18 : Told 18 a b 0) (T18t : Told 18 b a 1) (T20 : Told 20 a b 1)
    (g1 : (decide (9223372036854775808 ≤ a) == decide (9223372036854775808 ≤ b)) = false) (g2 : (a == b) = false) :
    Calls Try.prog 8 #[.int .u64 a, .int .u64 b] w fun e w' => e = .returned (.bool true) ∧ Below w.heap.size w w' := by
  have hR := Lib.hid (Below.refl w.heap.size w)
  have G1 := Lib.hid g1
  have G2 := Lib.hid g2
  have HN := Lib.hid hN
  have hN64 : N < 64 := by omega
  clear g1 g2 hN
  go_enter Try.func8, Try.ntmps8
  go_wp2_with (go_at_call 14; (with_reducible refine (awake_any _).mono ?_); rintro e wn ⟨rfl, hbl⟩; have hR := grow_step hR hbl; clear hbl)
  go_loop [7, 8, 9, 10] (fun u d s i => ∃ k : Nat, k ≤ N ∧ i = .int .u64 k ∧ u = .int .u64 (shlV a k) ∧ d = .int .u64 (shrV a k) ∧ s = .int .u64 (sarV a k)) (fun _ _ _ i => N - (intOf i).toNat)
  case atStart => exact ⟨0, by omega, rfl, by rw [shlV_zero ha ha'], by rw [shrV_zero], by rw [sarV_zero ha ha']⟩
  case round =>
    obtain ⟨k, hk, rfl, rfl, rfl, rfl⟩ := hrel
    have S1 := Lib.hid (shl_twice a k)
    have S2 := Lib.hid (shrV_succ a k)
    have S3 := Lib.hid (sarV_succ ha ha' k)
    obtain ⟨x1, x2⟩ := shrV_bd ha k
    obtain ⟨y1, y2⟩ := sarV_bd a k
    by_cases hlt : k < N
    · have hlt2 : (k : Int) < b % 64 := by rw [HN.out]; omega
      go_wp2
      go_round
      case rel => exact ⟨k + 1, by omega, by go_num, by rw [← S1.out], by rw [S2.out], by rw [S3.out]⟩
      case measure => simp [intOf]; omega
    · obtain rfl : k = N := by omega
      have hlt2 : ¬ (k : Int) < b % 64 := by rw [HN.out]; omega
      have g1 := G1.out
      have g2 := G2.out
      clear S1 S2 S3
      go_wp2_with (go_at_call 28; (first | (with_reducible refine (told_out Ts _).mono ?_) | (with_reducible refine (told_out Tr _).mono ?_) | (with_reducible refine (told_out Ta _).mono ?_) | (with_reducible refine (told_out Tn _).mono ?_) | (with_reducible refine (told_out T17 _).mono ?_) | (with_reducible refine (told_out T17t _).mono ?_) | (with_reducible refine (told_out T19 _).mono ?_) | (with_reducible refine (told_out T18 _).mono ?_) | (with_reducible refine (told_out T18t _).mono ?_) | (with_reducible refine (told_out T20 _).mono ?_)); rintro e wn ⟨rfl, hbl⟩; have hR := grow_step hR hbl; clear hbl)
      go_ret
      exact ⟨rfl, hR.out⟩

theorem b01 {p : Bool} {v : Int} (h : bitV p = v) {q : Bool} (e : p = q) : bitV q = v := e ▸ h
theorem do17 (x y : Int) : doV 17 x y = bitV (decide (sg x < sg y)) := by simp [doV]
theorem do18 (x y : Int) : doV 18 x y = bitV (decide (x < y)) := by simp [doV]
theorem do19 (x y : Int) : doV 19 x y = bitV (x == y) := by simp [doV]
theorem do20 (x y : Int) : doV 20 x y = bitV (!(x == y)) := by simp [doV]
theorem sg_half {x : Int} : sg x = x ∧ x < 9223372036854775808 ∨ sg x = x - 18446744073709551616 ∧ 9223372036854775808 ≤ x := by
  unfold sg
  split
  · exact .inl ⟨rfl, by assumption⟩
  · exact .inr ⟨rfl, by omega⟩
theorem bit_no {p : Prop} [Decidable p] (h : ¬ p) : bitV (decide p) = 0 := by rw [decide_eq_false h]; rfl
theorem bit_yes {p : Prop} [Decidable p] (h : p) : bitV (decide p) = 1 := by rw [decide_eq_true h]; rfl
theorem halves_same {a b : Int} (h : (9223372036854775808 ≤ a) ↔ (9223372036854775808 ≤ b)) : (decide (9223372036854775808 ≤ a) == decide (9223372036854775808 ≤ b)) = true := by
  rw [beq_iff_eq]
  exact decide_eq_decide.2 h
theorem halves_other {a b : Int} (h : ¬ ((9223372036854775808 ≤ a) ↔ (9223372036854775808 ≤ b))) : (decide (9223372036854775808 ≤ a) == decide (9223372036854775808 ≤ b)) = false := by
  rw [beq_eq_false_iff_ne]
  intro e
  exact h (decide_eq_decide.1 e)
theorem shifts_any (a b : Int) (w : World) (ha : 0 ≤ a) (ha' : a < 18446744073709551616) (hb : 0 ≤ b) (hb' : b < 18446744073709551616) : Calls Try.prog 8 #[.int .u64 a, .int .u64 b] w fun e w' => e = .returned (.bool true) ∧ Below w.heap.size w w' := by
  obtain ⟨N, hN⟩ : ∃ N : Nat, b % 64 = N := ⟨(b % 64).toNat, by omega⟩
  have e1 : (b % 64).toNat = N := by omega
  have e2 : (b % 64 % 64).toNat = N := by omega
  have Ts : Told 14 a b (shlV a N) := told_is (by omega) (by omega) ha ha' hb hb' (by simp [doV, e1])
  have Tr : Told 15 a b (shrV a N) := told_is (by omega) (by omega) ha ha' hb hb' (by simp [doV, e1])
  have Ta : Told 16 a b (sarV a N) := told_is (by omega) (by omega) ha ha' hb hb' (by simp [doV, e1])
  have Tn : Told 14 a (b % 64) (shlV a N) := told_is (by omega) (by omega) ha ha' (by omega) (by omega) (by rw [← e2]; simp [doV])
  have sa := sg_half (x := a)
  have sb := sg_half (x := b)
  by_cases c0 : a = b
  · have hq : (a == b) = true := by simpa using c0
    exact shifts_eq a b N w ha ha' hb hb' hN Ts Tr Ta Tn (told_is (by omega) (by omega) ha ha' hb hb' (by rw [do17]; exact bit_no (by omega))) (told_is (by omega) (by omega) hb hb' ha ha' (by rw [do17]; exact bit_no (by omega))) (told_is (by omega) (by omega) ha ha' hb hb' (by rw [do19, hq]; rfl)) (told_is (by omega) (by omega) ha ha' hb hb' (by rw [do18]; exact bit_no (by omega))) (told_is (by omega) (by omega) hb hb' ha ha' (by rw [do18]; exact bit_no (by omega))) (told_is (by omega) (by omega) ha ha' hb hb' (by rw [do20, hq]; rfl)) (halves_same (by omega)) hq
  have hq : (a == b) = false := by simpa using c0
  by_cases c1 : a < b
  · by_cases c2 : sg a < sg b
    · exact shifts_lt a b N w ha ha' hb hb' hN Ts Tr Ta Tn (told_is (by omega) (by omega) ha ha' hb hb' (by rw [do17]; exact bit_yes (by omega))) (told_is (by omega) (by omega) hb hb' ha ha' (by rw [do17]; exact bit_no (by omega))) (told_is (by omega) (by omega) ha ha' hb hb' (by rw [do19, hq]; rfl)) (told_is (by omega) (by omega) ha ha' hb hb' (by rw [do18]; exact bit_yes (by omega))) (told_is (by omega) (by omega) hb hb' ha ha' (by rw [do18]; exact bit_no (by omega))) (told_is (by omega) (by omega) ha ha' hb hb' (by rw [do20, hq]; rfl)) (halves_same (by omega)) hq
    · exact shifts_lx a b N w ha ha' hb hb' hN Ts Tr Ta Tn (told_is (by omega) (by omega) ha ha' hb hb' (by rw [do17]; exact bit_no (by omega))) (told_is (by omega) (by omega) hb hb' ha ha' (by rw [do17]; exact bit_yes (by omega))) (told_is (by omega) (by omega) ha ha' hb hb' (by rw [do19, hq]; rfl)) (told_is (by omega) (by omega) ha ha' hb hb' (by rw [do18]; exact bit_yes (by omega))) (told_is (by omega) (by omega) hb hb' ha ha' (by rw [do18]; exact bit_no (by omega))) (told_is (by omega) (by omega) ha ha' hb hb' (by rw [do20, hq]; rfl)) (halves_other (by omega)) hq
  · by_cases c2 : sg a < sg b
    · exact shifts_gx a b N w ha ha' hb hb' hN Ts Tr Ta Tn (told_is (by omega) (by omega) ha ha' hb hb' (by rw [do17]; exact bit_yes (by omega))) (told_is (by omega) (by omega) hb hb' ha ha' (by rw [do17]; exact bit_no (by omega))) (told_is (by omega) (by omega) ha ha' hb hb' (by rw [do19, hq]; rfl)) (told_is (by omega) (by omega) ha ha' hb hb' (by rw [do18]; exact bit_no (by omega))) (told_is (by omega) (by omega) hb hb' ha ha' (by rw [do18]; exact bit_yes (by omega))) (told_is (by omega) (by omega) ha ha' hb hb' (by rw [do20, hq]; rfl)) (halves_other (by omega)) hq
    · exact shifts_gt a b N w ha ha' hb hb' hN Ts Tr Ta Tn (told_is (by omega) (by omega) ha ha' hb hb' (by rw [do17]; exact bit_no (by omega))) (told_is (by omega) (by omega) hb hb' ha ha' (by rw [do17]; exact bit_yes (by omega))) (told_is (by omega) (by omega) ha ha' hb hb' (by rw [do19, hq]; rfl)) (told_is (by omega) (by omega) ha ha' hb hb' (by rw [do18]; exact bit_no (by omega))) (told_is (by omega) (by omega) hb hb' ha ha' (by rw [do18]; exact bit_yes (by omega))) (told_is (by omega) (by omega) ha ha' hb hb' (by rw [do20, hq]; rfl)) (halves_same (by omega)) hq
end Go.Proofs.Ytnlhebcmebbgkaa
