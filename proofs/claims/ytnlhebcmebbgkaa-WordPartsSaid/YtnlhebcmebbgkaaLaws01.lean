/- The statements of layer 1 and their helpers, walked: each answers true, and what was there stays as it was. No condition on the numbers; the lists of bytes are those that can be read. -/
import Derived.Test.YtnlhebcmebbgkaaRows
import Derived.Test.YtnlhebcmebbgkaaMath01
import Derived.Test.YtnlhebcmebbgkaaLawMath01
import Derived.Test.YtnlhebcmebbgkaaOwn
import Derived.Test.YtnlhebcmebbgkaaFns01
import Derived.Test.YtnlhebcmebbgkaaExt01
import Derived.Test.YtnlhebcmebbgkaaRefDo01
import Derived.Test.YtnlhebcmebbgkaaByte01
import Derived.WalkKit
import Derived.WalkSpells
import Derived.WalkLawsBesides
import Derived.ProofKit
import Derived.Lib.Hide
namespace Go.Proofs.Ytnlhebcmebbgkaa
open Go.RowKit
set_option linter.unusedVariables false

theorem is_yes (fn a b c : Int) (w : World) (h1 : 1 ≤ fn) (h2 : fn ≤ 20) (ha : 0 ≤ a) (ha' : a < 18446744073709551616) (hb : 0 ≤ b) (hb' : b < 18446744073709551616) (hv : doV fn a b = c) :
    Calls Try.prog 27 #[.int .i64 fn, .int .u64 a, .int .u64 b, .int .u64 c] w fun e w' => e = .returned (.bool true) ∧ Below w.heap.size w w' := by
  have hc := do_any fn a b w ha ha' hb hb'
  rw [doE_in h1 h2, hv] at hc
  have HC := Lib.hid hc
  clear hc hv
  go_enter Try.func27, Try.ntmps27
  go_wp2_with (go_at_call 10; (with_reducible refine HC.out.mono ?_); rintro e w' ⟨rfl, hbel⟩; have HB := Lib.hid hbel; clear hbel)
  go_ret
  exact ⟨rfl, HB.out⟩
theorem told_in (fn a b : Int) (w : World) (h1 : 1 ≤ fn) (h2 : fn ≤ 20) (ha : 0 ≤ a) (ha' : a < 18446744073709551616) (hb : 0 ≤ b) (hb' : b < 18446744073709551616) :
    Calls Try.prog 28 #[.int .i64 fn, .int .u64 a, .int .u64 b] w fun e w' => e = .returned (.int .u64 (doV fn a b)) ∧ Below w.heap.size w w' := by
  have hc := do_any fn a b w ha ha' hb hb'
  rw [doE_in h1 h2] at hc
  have HC := Lib.hid hc
  clear hc
  go_enter Try.func28, Try.ntmps28
  go_wp2_with (go_at_call 10; (with_reducible refine HC.out.mono ?_); rintro e w' ⟨rfl, hbel⟩; have HB := Lib.hid hbel; clear hbel)
  go_ret
  exact ⟨rfl, HB.out⟩

theorem one_258 : bytesV 258 2 = [2, 1] := by decide
theorem two_get : getV [2, 1] = 258 ∧ getE [2, 1] = 0 := by decide
theorem div_one : doV 7 18446744073709551609 2 = 18446744073709551613 := by decide +kernel
theorem mulhu_one : doV 5 18446744073709551615 18446744073709551615 = 18446744073709551614 := by decide +kernel
theorem sext_255 : sextV 255 1 = 18446744073709551615 := by decide +kernel
theorem sext_255_any (w : World) : Calls Try.prog 24 #[.int .u64 255, .int .i64 1] w fun e w' => e = .returned (.int .u64 18446744073709551615) ∧ w = w' := by
  rw [← sext_255]
  exact sext_1 255 w (by omega) (by omega)
theorem pair_new (w : World) (t : TypeId) (B : Nat) (hB : w.heap.size < B) (x y : Int) (hx : 0 ≤ x ∧ x < 256) (hy : 0 ≤ y ∧ y < 256) (ht : t = 5) :
    IsBytes (w.alloc (.cells #[.int .u8 x, .int .u8 y] t)) B (.slice (some ⟨w.heap.size, 0, none⟩) 2 2) [x, y] := by
  refine ⟨by intro z hz; simp at hz; rcases hz with rfl | rfl <;> assumption, by simp [maxLen], .inr ⟨⟨w.heap.size, 0, none⟩, 2, rfl, by simp, fun _ => hB, fun i hi => ?_⟩⟩
  have := World.news_of_block (cs := #[.int .u8 x, .int .u8 y]) (heap_alloc_new w (.cells #[.int .u8 x, .int .u8 y] t)) i (.int .u8 ([x, y].getD i 0)) (by
    have hi2 : i < 2 := by simpa using hi
    rcases i with _ | _ | i
    · rfl
    · rfl
    · omega)
  exact this
theorem get_pair (w : World) (t : TypeId) (ht : t = 5) : Calls Try.prog 18 #[.slice (some ⟨w.heap.size, 0, none⟩) 2 2] (w.alloc (.cells #[.int .u8 2, .int .u8 1] t)) fun e w' => e = .returned (.tuple #[.int .u64 258, .int .i64 0]) ∧ w.alloc (.cells #[.int .u8 2, .int .u8 1] t) = w' := by
  have h := get_any _ [2, 1] _ (w.heap.size + 1) (pair_new w t _ (by omega) 2 1 (by omega) (by omega) ht)
  rw [two_get.1, two_get.2] at h
  exact h
set_option maxHeartbeats 1000000 in
theorem awake_any (w : World) : Calls Try.prog 14 #[] w fun e w' => e = .returned (.bool true) ∧ Below w.heap.size w w' := by
  have P0 := Lib.hid (put_yes 258 2 w (by omega) (by omega) (by decide))
  go_enter Try.func14, Try.ntmps14
  go_wp2_with (first
    | (go_at_call 16; refine P0.out.mono ?_; rintro e w1 ⟨v, rfl, hown, hbel⟩; rw [one_258] at hown; have H1 := Lib.hid (IsBytes.of_owns hown (by intro x hx; simp at hx; omega) (Nat.le_refl _)); have B1 := Lib.hid hbel; have s1 := hbel.size; clear hown hbel)
    | (go_at_call 18; refine (get_pair w1 _ rfl).mono ?_; rintro e w' ⟨rfl, rfl⟩)
    | (go_at_call 27; (with_reducible refine (is_yes 7 18446744073709551609 2 18446744073709551613 _ (by omega) (by omega) (by omega) (by omega) (by omega) (by omega) div_one).mono ?_); rintro e w2 ⟨rfl, hb⟩; have B2 := Lib.hid (((Below.refl w1.heap.size w1).alloc (Nat.le_refl _) _).trans (hb.mono (by simp))); clear hb)
    | (go_at_call 27; (with_reducible refine (is_yes 5 18446744073709551615 18446744073709551615 18446744073709551614 _ (by omega) (by omega) (by omega) (by omega) (by omega) (by omega) mulhu_one).mono ?_); rintro e w3 ⟨rfl, hb⟩; have B3 := Lib.hid (B2.out.trans (hb.mono B2.out.size)); have s3 := B3.out.size; clear hb)
    | (go_at_call 24; refine (sext_255_any _).mono ?_; rintro e w' ⟨rfl, rfl⟩)
    | (go_at_call 20; refine (sameBytes_yes _ _ [2, 1] _ _ _ (H1.out.below (B3.out.alloc s3 _) (Nat.le_refl _)) (pair_new w3 _ _ (Nat.lt_succ_self _) 2 1 (by omega) (by omega) rfl)).mono ?_; rintro e w' ⟨rfl, rfl⟩))
  go_ret
  exact ⟨rfl, B1.out.trans ((B3.out.alloc s3 _).mono s1)⟩

theorem size_any (a : Int) (w : World) (ha : 0 ≤ a) (ha' : a < 18446744073709551616) : Calls Try.prog 29 #[.int .u64 a] w fun e w' => e = .returned (.int .u64 (magV a)) ∧ w = w' := by
  by_cases h : a < 9223372036854775808
  · have e := mag_up h
    rw [e]
    clear e
    go_enter Try.func29, Try.ntmps29
    go_wp2
    go_ret
    exact ⟨rfl, rfl⟩
  · have e := minus_mag (a := a) (by omega) ha'
    have E := Lib.hid e
    have h' : 9223372036854775808 ≤ a := by omega
    clear e h
    go_enter Try.func29, Try.ntmps29
    go_wp2
    go_ret
    exact ⟨ret_int (by rw [← E.out]; simp [IntKind.wrap_u64]), rfl⟩

/-- A memory that has grown, step by step. -/
theorem grow_step {w W W' : World} (hR : Hid (Below w.heap.size w W)) (hb : Below W.heap.size W W') : Hid (Below w.heap.size w W') := hR.out.trans (hb.mono hR.out.size)
theorem grow_alloc {w W : World} (hR : Hid (Below w.heap.size w W)) (o : Obj) : Hid (Below w.heap.size w (W.alloc o)) := hR.out.alloc hR.out.size o

theorem half_one : halfV 1 2147483647 1 = 18446744071562067968 ∧ halfE 1 = 0 := by decide +kernel
theorem half_xor : halfV 13 1 1 = 0 ∧ halfE 13 = 2 := by decide +kernel
theorem do_zero : doV 0 1 1 = 0 ∧ doE 0 = 2 := by decide +kernel
theorem get_none : getV [] = 0 ∧ getE [] = 2 := by decide +kernel
theorem get_nine : getV [0, 0, 0, 0, 0, 0, 0, 0, 0] = 0 ∧ getE [0, 0, 0, 0, 0, 0, 0, 0, 0] = 3 := by decide +kernel
theorem sext_127 (w : World) : Calls Try.prog 24 #[.int .u64 127, .int .i64 1] w fun e w' => e = .returned (.int .u64 127) ∧ w = w' := by
  rw [show (Ending.returned (Value.int .u64 127)) = .returned (.int .u64 (sextV 127 1)) by rw [show sextV 127 1 = 127 by decide +kernel]]
  exact sext_1 127 w (by omega) (by omega)
theorem sext_5 (w : World) : Calls Try.prog 24 #[.int .u64 5, .int .i64 3] w fun e w' => e = .returned (.int .u64 0) ∧ w = w' := by
  rw [show (Ending.returned (Value.int .u64 0)) = .returned (.int .u64 (sextV 5 3)) by rw [show sextV 5 3 = 0 by decide +kernel]]
  exact sext_no 5 3 w (by decide)
theorem zext_ones (w : World) : Calls Try.prog 22 #[.int .u64 18446744073709551615, .int .i64 4] w fun e w' => e = .returned (.int .u64 4294967295) ∧ w = w' := by
  rw [show (Ending.returned (Value.int .u64 4294967295)) = .returned (.int .u64 (zextV 18446744073709551615 4)) by rw [show zextV 18446744073709551615 4 = 4294967295 by decide +kernel]]
  exact zext_4 18446744073709551615 w (by omega) (by omega)
theorem half_known (w : World) : Calls Try.prog 12 #[.int .i64 1, .int .u64 2147483647, .int .u64 1] w fun e w' => e = .returned (.tuple #[.int .u64 18446744071562067968, .int .i64 0]) ∧ Below w.heap.size w w' := by
  have h := half_any 1 2147483647 1 w (by omega) (by omega) (by omega) (by omega)
  rw [half_one.1, half_one.2] at h
  exact h
theorem half_bad (w : World) : Calls Try.prog 12 #[.int .i64 13, .int .u64 1, .int .u64 1] w fun e w' => e = .returned (.tuple #[.int .u64 0, .int .i64 2]) ∧ Below w.heap.size w w' := by
  have h := half_any 13 1 1 w (by omega) (by omega) (by omega) (by omega)
  rw [half_xor.1, half_xor.2] at h
  exact h
theorem do_bad (w : World) : Calls Try.prog 10 #[.int .i64 0, .int .u64 1, .int .u64 1] w fun e w' => e = .returned (.tuple #[.int .u64 0, .int .i64 2]) ∧ Below w.heap.size w w' := by
  have h := do_any 0 1 1 w (by omega) (by omega) (by omega) (by omega)
  rw [do_zero.1, do_zero.2] at h
  exact h
theorem get_nil (w : World) : Calls Try.prog 18 #[.slice none 0 0] w fun e w' => e = .returned (.tuple #[.int .u64 0, .int .i64 2]) ∧ w = w' := by
  have h := get_any (.slice none 0 0) [] w 0 ⟨by simp, by simp, .inl ⟨rfl, rfl⟩⟩
  rw [get_none.1, get_none.2] at h
  exact h
def nine : Array Value := #[.int .u8 0, .int .u8 0, .int .u8 0, .int .u8 0, .int .u8 0, .int .u8 0, .int .u8 0, .int .u8 0, .int .u8 0]
theorem make_nine (w : World) : (Instr.makeSlice 28 (.int .i64 9) (.int .i64 9)).run Try.prog w = .ok (.slice (some ⟨w.heap.size, 0, none⟩) 9 9) (w.alloc (.cells nine 5)) := by kernel_rfl
theorem get_long9 (w : World) : Calls Try.prog 18 #[.slice (some ⟨w.heap.size, 0, none⟩) 9 9] (w.alloc (.cells nine 5)) fun e w' => e = .returned (.tuple #[.int .u64 0, .int .i64 3]) ∧ w.alloc (.cells nine 5) = w' := by
  have h := get_any (.slice (some ⟨w.heap.size, 0, none⟩) 9 9) [0, 0, 0, 0, 0, 0, 0, 0, 0] (w.alloc (.cells nine 5)) (w.heap.size + 1)
    ⟨by simp, by simp [maxLen], .inr ⟨⟨w.heap.size, 0, none⟩, 9, rfl, by simp, fun _ => Nat.lt_succ_self _, fun i hi => by
      have hi9 : i < 9 := by simpa using hi
      refine World.news_of_block (cs := nine) (heap_alloc_new w (.cells nine 5)) i _ ?_
      have hc : i = 0 ∨ i = 1 ∨ i = 2 ∨ i = 3 ∨ i = 4 ∨ i = 5 ∨ i = 6 ∨ i = 7 ∨ i = 8 := by omega
      rcases hc with rfl | rfl | rfl | rfl | rfl | rfl | rfl | rfl | rfl <;> rfl⟩⟩
  rw [get_nine.1, get_nine.2] at h
  exact h
set_option maxHeartbeats 2000000 in
theorem known_any (w : World) : Calls Try.prog 5 #[] w fun e w' => e = .returned (.bool true) ∧ Below w.heap.size w w' := by
  have hR := Lib.hid (Below.refl w.heap.size w)
  have mk := make_nine
  go_enter Try.func5, Try.ntmps5
  go_wp2_with (first
    | (go_at_call 24; (first | (with_reducible refine (sext_127 _).mono ?_) | (with_reducible refine (sext_5 _).mono ?_)); rintro e w' ⟨rfl, rfl⟩)
    | (go_at_call 22; (with_reducible refine (zext_ones _).mono ?_); rintro e w' ⟨rfl, rfl⟩)
    | (go_at_call 27; refine (is_yes _ _ _ _ _ (by omega) (by omega) (by omega) (by omega) (by omega) (by omega) (by decide +kernel)).mono ?_; rintro e wn ⟨rfl, hb⟩; have hR := grow_step hR hb; clear hb)
    | (go_at_call 10; (with_reducible refine (do_bad _).mono ?_); rintro e wn ⟨rfl, hb⟩; have hR := grow_step hR hb; clear hb)
    | (go_at_call 12; (first | (with_reducible refine (half_known _).mono ?_) | (with_reducible refine (half_bad _).mono ?_)); rintro e wn ⟨rfl, hb⟩; have hR := grow_step hR hb; clear hb)
    | (go_at_call 18; (first | (with_reducible refine (get_nil _).mono ?_) | (with_reducible refine (get_long9 _).mono ?_)); rintro e w' ⟨rfl, rfl⟩)
    | (go_at_call 14; (with_reducible refine (awake_any _).mono ?_); rintro e wn ⟨rfl, hb⟩; have hR := grow_step (grow_alloc hR _) hb; clear hb))
  go_ret
  exact ⟨rfl, hR.out⟩

set_option maxHeartbeats 2000000 in
theorem divides_zero (a : Int) (w : World) (ha : 0 ≤ a) (ha' : a < 18446744073709551616) : Calls Try.prog 6 #[.int .u64 a, .int .u64 0] w fun e w' => e = .returned (.bool true) ∧ Below w.heap.size w w' := by
  have hR := Lib.hid (Below.refl w.heap.size w)
  have T : ∀ fn v, 1 ≤ fn → fn ≤ 20 → doV fn a 0 = v → ∀ w, Calls Try.prog 28 #[.int .i64 fn, .int .u64 a, .int .u64 0] w fun e w' => e = .returned (.int .u64 v) ∧ Below w.heap.size w w' := fun fn v h1 h2 hv w => hv ▸ told_in fn a 0 w h1 h2 ha ha' (by omega) (by omega)
  have T8 := Lib.hid (T 8 18446744073709551615 (by omega) (by omega) (by simp [doV, divuV]))
  have T10 := Lib.hid (T 10 a (by omega) (by omega) (by simp [doV, remuV]))
  have T7 := Lib.hid (T 7 18446744073709551615 (by omega) (by omega) (by simp [doV, divV]))
  have T9 := Lib.hid (T 9 a (by omega) (by omega) (by simp [doV, remV]))
  clear T
  go_enter Try.func6, Try.ntmps6
  go_wp2_with (first
    | (go_at_call 5; (with_reducible refine (known_any _).mono ?_); rintro e wn ⟨rfl, hb⟩; have hR := grow_step hR hb; clear hb)
    | (go_at_call 28; (first | (with_reducible refine (T8.out _).mono ?_) | (with_reducible refine (T10.out _).mono ?_) | (with_reducible refine (T7.out _).mono ?_) | (with_reducible refine (T9.out _).mono ?_)); rintro e wn ⟨rfl, hb⟩; have hR := grow_step hR hb; clear hb))
  go_ret
  exact ⟨rfl, hR.out⟩
set_option maxHeartbeats 2000000 in
theorem divides_walk (a b q r s t : Int) (w : World) (ha : 0 ≤ a) (ha' : a < 18446744073709551616) (hb : 0 ≤ b) (hb' : b < 18446744073709551616) (h0 : (b == 0) = false) (ht : 0 ≤ t) (ht' : t < 18446744073709551616)
    (T8 : Hid (∀ w, Calls Try.prog 28 #[.int .i64 8, .int .u64 a, .int .u64 b] w fun e w' => e = .returned (.int .u64 q) ∧ Below w.heap.size w w'))
    (T10 : Hid (∀ w, Calls Try.prog 28 #[.int .i64 10, .int .u64 a, .int .u64 b] w fun e w' => e = .returned (.int .u64 r) ∧ Below w.heap.size w w'))
    (T7 : Hid (∀ w, Calls Try.prog 28 #[.int .i64 7, .int .u64 a, .int .u64 b] w fun e w' => e = .returned (.int .u64 s) ∧ Below w.heap.size w w'))
    (T9 : Hid (∀ w, Calls Try.prog 28 #[.int .i64 9, .int .u64 a, .int .u64 b] w fun e w' => e = .returned (.int .u64 t) ∧ Below w.heap.size w w'))
    (hq : IntKind.u64.wrap (IntKind.u64.wrap (q * b) + r) = a) (hr : r < b) (hs : IntKind.u64.wrap (IntKind.u64.wrap (s * b) + t) = a) (hm : magV t < magV b)
    (hsg : (t == 0) = true ∨ ((t == 0) = false ∧ (decide (9223372036854775808 ≤ t) = decide (9223372036854775808 ≤ a)))) :
    Calls Try.prog 6 #[.int .u64 a, .int .u64 b] w fun e w' => e = .returned (.bool true) ∧ Below w.heap.size w w' := by
  have hR := Lib.hid (Below.refl w.heap.size w)
  have Z := Lib.hid (size_any t · ht ht')
  have Zb := Lib.hid (size_any b · hb hb')
  have d1 : decide (b ≤ r) = false := by simp; omega
  have d2 : decide (magV b ≤ magV t) = false := by simp; omega
  have n1 : (IntKind.u64.wrap (IntKind.u64.wrap (q * b) + r) != a) = false := by rw [hq]; simp
  have n2 : (IntKind.u64.wrap (IntKind.u64.wrap (s * b) + t) != a) = false := by rw [hs]; simp
  clear hq hs hr hm ha ha' hb hb' ht ht'
  rcases hsg with h1 | ⟨h1, h2⟩
  · go_enter Try.func6, Try.ntmps6
    go_wp2_with (first
      | (go_at_call 5; (with_reducible refine (known_any _).mono ?_); rintro e wn ⟨rfl, hb⟩; have hR := grow_step hR hb; clear hb)
      | (go_at_call 28; (first | (with_reducible refine (T8.out _).mono ?_) | (with_reducible refine (T10.out _).mono ?_) | (with_reducible refine (T7.out _).mono ?_) | (with_reducible refine (T9.out _).mono ?_)); rintro e wn ⟨rfl, hb⟩; have hR := grow_step hR hb; clear hb)
      | (go_at_call 29; (first | (with_reducible refine (Z.out _).mono ?_) | (with_reducible refine (Zb.out _).mono ?_)); rintro e w' ⟨rfl, rfl⟩))
    go_ret
    exact ⟨rfl, hR.out⟩
  · go_enter Try.func6, Try.ntmps6
    go_wp2_with (first
      | (go_at_call 5; (with_reducible refine (known_any _).mono ?_); rintro e wn ⟨rfl, hb⟩; have hR := grow_step hR hb; clear hb)
      | (go_at_call 28; (first | (with_reducible refine (T8.out _).mono ?_) | (with_reducible refine (T10.out _).mono ?_) | (with_reducible refine (T7.out _).mono ?_) | (with_reducible refine (T9.out _).mono ?_)); rintro e wn ⟨rfl, hb⟩; have hR := grow_step hR hb; clear hb)
      | (go_at_call 29; (first | (with_reducible refine (Z.out _).mono ?_) | (with_reducible refine (Zb.out _).mono ?_)); rintro e w' ⟨rfl, rfl⟩))
    go_ret
    exact ⟨ret_bool (by simp), hR.out⟩
theorem divides_any (a b : Int) (w : World) (ha : 0 ≤ a) (ha' : a < 18446744073709551616) (hb : 0 ≤ b) (hb' : b < 18446744073709551616) : Calls Try.prog 6 #[.int .u64 a, .int .u64 b] w fun e w' => e = .returned (.bool true) ∧ Below w.heap.size w w' := by
  by_cases h0 : b = 0
  · subst h0
    exact divides_zero a w ha ha'
  have hp : 0 < b := by omega
  have hz := rem_size ha ha' hp hb'
  have ht := doV_bd (fn := 9) ha ha' hb hb'
  have T : ∀ fn, 1 ≤ fn → fn ≤ 20 → Hid (∀ w, Calls Try.prog 28 #[.int .i64 fn, .int .u64 a, .int .u64 b] w fun e w' => e = .returned (.int .u64 (doV fn a b)) ∧ Below w.heap.size w w') := fun fn h1 h2 w => told_in fn a b w h1 h2 ha ha' hb hb'
  refine divides_walk a b _ _ _ _ w ha ha' hb hb' (by simpa using h0) ht.1 ht.2 (T 8 (by omega) (by omega)) (T 10 (by omega) (by omega)) (T 7 (by omega) (by omega)) (T 9 (by omega) (by omega)) (divu_back ha ha' hp) (divu_rest hp) (div_back ha ha' hp) hz.1 ?_
  rcases hz.2 with h | h
  · exact .inl (by simpa using h)
  · cases hc : (doV 9 a b == 0)
    · exact .inr ⟨rfl, decide_eq_decide.2 h⟩
    · exact .inl rfl

set_option maxHeartbeats 2000000 in
theorem does_any (fn a b : Int) (w : World) (ha : 0 ≤ a) (ha' : a < 18446744073709551616) (hb : 0 ≤ b) (hb' : b < 18446744073709551616) : Calls Try.prog 3 #[.int .i64 fn, .int .u64 a, .int .u64 b] w fun e w' => e = .returned (.bool true) ∧ Below w.heap.size w w' := by
  have hR := Lib.hid (Below.refl w.heap.size w)
  go_enter Try.func3, Try.ntmps3
  go_wp2_with (first
    | (go_at_call 10; (with_reducible refine (do_any fn a b _ ha ha' hb hb').mono ?_); rintro e wn ⟨rfl, hbl⟩; have hR := grow_step hR hbl; clear hbl)
    | (go_at_call 12; (with_reducible refine (half_any fn a b _ ha ha' hb hb').mono ?_); rintro e wn ⟨rfl, hbl⟩; have hR := grow_step hR hbl; clear hbl)
    | (go_at_call 11; (with_reducible refine (rdo_any fn a b _ ha ha' hb hb').mono ?_); rintro e w' ⟨rfl, rfl⟩)
    | (go_at_call 13; (with_reducible refine (rhalf_any fn a b _ ha ha' hb hb').mono ?_); rintro e w' ⟨rfl, rfl⟩)
    | (go_at_call 14; (with_reducible refine (awake_any _).mono ?_); rintro e wn ⟨rfl, hbl⟩; have hR := grow_step hR hbl; clear hbl))
  go_ret
  exact ⟨rfl, hR.out⟩
end Go.Proofs.Ytnlhebcmebbgkaa

