/- What the helpers of the statements of layer 2 return (made, loads, fails, cut, Pick), and that awake is true: contracts in whatever memory of the program. -/
import Derived.Test.YthcefpakjkojgaaMemE
namespace Go.Proofs.Ythcefpakjkojgaa
open Go.RowKit
set_option linter.unusedVariables false

theorem eqlP_nil (a : Addr) (w : World) : (binOp .eql 25 (.pointer (some a)) (.pointer none)).run Try.prog w = .ok (.bool false) w := run_eql_pointer_nil w _ _ Try.underlying25
theorem made_yes (n : Nat) (w : World) (h : 16 ≤ n) (h' : n ≤ 65536) : Calls Try.prog 21 #[.int .i64 n] w (NewDone w (List.replicate n 0)) := by
  have HN := Lib.hid (new_yes n w h h')
  clear h h'
  go_enter Try.func21, Try.ntmps21
  go_wp2_with (go_at_call 10; refine HN.out.mono ?_; rintro e w1 ⟨mb, bb, c, rfl, hm, h1, h2, hb⟩; have HM := Lib.hid hm; have HB := Lib.hid hb; clear hm hb)
  go_ret
  exact ⟨mb, bb, c, rfl, HM.out, h1, h2, HB.out⟩
theorem loads_yes {mb bb c : Nat} {xs : List Int} {w : World} (h : MemAt w mb bb c xs) (a n v : Int) (ha : 0 ≤ a) (ha' : a < 18446744073709551616) (hn' : n < 9223372036854775808) (he : numE xs.length a n = 0) (hv : loadV xs a n = v) :
    Calls Try.prog 24 #[.pointer (some ⟨mb, 0, none⟩), .int .u64 a, .int .i64 n, .int .u64 v] w fun e w' => e = .returned (.bool true) ∧ w = w' := by
  have hc := load_any h a n ha ha' hn'
  rw [he, hv] at hc
  have HC := Lib.hid hc
  clear hc h he hv
  go_enter Try.func24, Try.ntmps24
  go_wp2_with (go_at_call 18; (with_reducible refine HC.out.mono ?_); rintro e w' ⟨rfl, rfl⟩)
  go_ret
  exact ⟨rfl, rfl⟩
theorem fails_yes {mb bb c : Nat} {xs : List Int} {w : World} (h : MemAt w mb bb c xs) (a n E : Int) (ha : 0 ≤ a) (ha' : a < 18446744073709551616) (hn' : n < 9223372036854775808) (he : numE xs.length a n = E) (hE : E ≠ 0) :
    Calls Try.prog 23 #[.pointer (some ⟨mb, 0, none⟩), .int .u64 a, .int .i64 n, .int .i64 E] w fun e w' => e = .returned (.bool true) ∧ w = w' := by
  have hc := load_bad h a n ha ha' hn' (by rw [he]; exact hE)
  rw [he] at hc
  have HC := Lib.hid hc
  clear hc h he hE
  go_enter Try.func23, Try.ntmps23
  go_wp2_with (go_at_call 18; (with_reducible refine HC.out.mono ?_); rintro e w' ⟨rfl, rfl⟩)
  go_ret
  exact ⟨rfl, rfl⟩

/-- The chapter's memory of 32 bytes, behind its first store. -/
def zero32 : List Int := List.replicate 32 0
def exL : List Int := storeL zero32 16 4 16909060
theorem aw1 {mb bb c : Nat} {w : World} (h : MemAt w mb bb c exL) : Calls Try.prog 24 #[.pointer (some ⟨mb, 0, none⟩), .int .u64 16, .int .i64 1, .int .u64 4] w fun e w' => e = .returned (.bool true) ∧ w = w' :=
  loads_yes h 16 1 4 (by decide) (by decide) (by decide) (by decide +kernel) (by decide +kernel)
theorem aw2 {mb bb c : Nat} {w : World} (h : MemAt w mb bb c exL) : Calls Try.prog 24 #[.pointer (some ⟨mb, 0, none⟩), .int .u64 17, .int .i64 2, .int .u64 515] w fun e w' => e = .returned (.bool true) ∧ w = w' :=
  loads_yes h 17 2 515 (by decide) (by decide) (by decide) (by decide +kernel) (by decide +kernel)
theorem aw3 {mb bb c : Nat} {w : World} (h : MemAt w mb bb c exL) : Calls Try.prog 24 #[.pointer (some ⟨mb, 0, none⟩), .int .u64 16, .int .i64 8, .int .u64 16909060] w fun e w' => e = .returned (.bool true) ∧ w = w' :=
  loads_yes h 16 8 16909060 (by decide) (by decide) (by decide) (by decide +kernel) (by decide +kernel)
theorem aw4 {mb bb c : Nat} {w : World} (h : MemAt w mb bb c exL) : Calls Try.prog 23 #[.pointer (some ⟨mb, 0, none⟩), .int .u64 15, .int .i64 1, .int .i64 15] w fun e w' => e = .returned (.bool true) ∧ w = w' :=
  fails_yes h 15 1 15 (by decide) (by decide) (by decide) (by decide +kernel) (by decide)
theorem ex_store {mb bb c : Nat} {w : World} (h : MemAt w mb bb c (List.replicate 32 0)) : Calls Try.prog 15 #[.pointer (some ⟨mb, 0, none⟩), .int .u64 16, .int .i64 4, .int .u64 16909060] w (StoreDone w mb bb c exL 0) := by
  have e : numE (List.replicate 32 (0 : Int)).length 16 4 = 0 := by decide +kernel
  have := store_any h 16 4 16909060 (by decide) (by decide) (by decide) (by decide) (by decide)
  rw [e] at this
  exact this
set_option maxHeartbeats 1000000 in
theorem awake_any (w : World) : Calls Try.prog 9 #[] w fun e w' => e = .returned (.bool true) ∧ Below w.heap.size w w' := by
  go_enter Try.func9, Try.ntmps9
  go_wp2_with (first
    | (go_at_call 21; refine (made_yes 32 w (by decide) (by decide)).mono ?_; rintro e w1 ⟨mb, bb, c, rfl, hm, h1, h2, hb⟩; have HM := Lib.hid hm; have HB := Lib.hid hb; clear hm hb)
    | (go_at_call 15; refine (ex_store HM.out).mono ?_; rintro e w2 ⟨rfl, hm, hb⟩; have HM2 := Lib.hid hm; have HB2 := Lib.hid hb; clear hm hb)
    | (go_at_call 24; (with_reducible refine (aw1 HM2.out).mono ?_); rintro e w' ⟨rfl, rfl⟩)
    | (go_at_call 24; (with_reducible refine (aw2 HM2.out).mono ?_); rintro e w' ⟨rfl, rfl⟩)
    | (go_at_call 24; (with_reducible refine (aw3 HM2.out).mono ?_); rintro e w' ⟨rfl, rfl⟩)
    | (go_at_call 23; (with_reducible refine (aw4 HM2.out).mono ?_); rintro e w' ⟨rfl, rfl⟩))
  go_ret
  exact ⟨rfl, But.below HB.out HB2.out HB.out.size (fun k hk => by rw [show k = bb from hk]; exact h2)⟩

/-- The choice that a number says. -/
def pickV (x n : Int) : Int := (x.tmod n + n).tmod n
theorem pick_bd {x n : Int} (hn : 0 < n) : 0 ≤ pickV x n ∧ pickV x n < n := by
  unfold pickV
  have h1 : -n < x.tmod n := by
    have := Int.lt_tmod_of_pos x hn
    omega
  have h2 : 0 ≤ x.tmod n + n := by omega
  rw [Int.tmod_eq_emod_of_nonneg h2]
  exact ⟨Int.emod_nonneg _ (by omega), Int.emod_lt_of_pos _ hn⟩
theorem pick_any (x n : Int) (w : World) (hn : 0 < n) (hn' : n ≤ 1000000) (hx : -9223372036854775808 ≤ x) (hx' : x < 9223372036854775808) :
    Calls Try.prog 25 #[.int .i64 x, .int .i64 n] w fun e w' => e = .returned (.int .i64 (pickV x n)) ∧ w = w' := by
  have h1 : -n < x.tmod n := by
    have := Int.lt_tmod_of_pos x hn
    omega
  have h2 : x.tmod n < n := Int.tmod_lt_of_pos x hn
  have e : wrap64 (x.tmod n + n) = x.tmod n + n := by
    generalize x.tmod n = y at h1 h2
    unfold wrap64
    omega
  have E := Lib.hid e
  have n0 : (n == 0) = false := by simpa using (by omega : ¬ n = 0)
  clear e h1 h2
  go_enter Try.func25, Try.ntmps25
  go_wp2
  go_ret
  exact ⟨ret_int (by rw [E.out]; rfl), rfl⟩
/-- The lowest bytes of a number. -/
def cutV (v n : Int) : Int := if 8 ≤ n then v else v % 256 ^ n.toNat
theorem cut_low (v : Int) (n : Nat) (w : World) (hv : 0 ≤ v) (hv' : v < 18446744073709551616) (hn : n = 1 ∨ n = 2 ∨ n = 4 ∨ n = 8) :
    Calls Try.prog 26 #[.int .u64 v, .int .i64 n] w fun e w' => e = .returned (.int .u64 (cutV v n)) ∧ w = w' := by
  rcases hn with rfl | rfl | rfl | rfl
  · rw [show cutV v (1 : Nat) = v % 256 by simp [cutV]]
    go_enter Try.func26, Try.ntmps26
    go_wp2
    go_ret
    exact ⟨rfl, rfl⟩
  · rw [show cutV v (2 : Nat) = v % 65536 by simp [cutV]]
    go_enter Try.func26, Try.ntmps26
    go_wp2
    go_ret
    exact ⟨rfl, rfl⟩
  · rw [show cutV v (4 : Nat) = v % 4294967296 by simp [cutV]]
    go_enter Try.func26, Try.ntmps26
    go_wp2
    go_ret
    exact ⟨rfl, rfl⟩
  · rw [show cutV v (8 : Nat) = v by simp [cutV]]
    go_enter Try.func26, Try.ntmps26
    go_wp2
    go_ret
    exact ⟨rfl, rfl⟩
end Go.Proofs.Ythcefpakjkojgaa
