/- The statements on low parts and bytes, and on what is put and got, walked: each answers true at any number, any size and any slice of bytes, and what was there stays as it was. -/
import Derived.Test.YtnlhebcmebbgkaaRows
import Derived.Test.YtnlhebcmebbgkaaMath01
import Derived.Test.YtnlhebcmebbgkaaOwn
import Derived.Test.YtnlhebcmebbgkaaByte01
import Derived.Test.YtnlhebcmebbgkaaRef01
import Derived.Test.YtnlhebcmebbgkaaLaws01
import Derived.WalkKit
import Derived.WalkSpells
import Derived.WalkLawsBesides
import Derived.ProofKit
import Derived.Lib.Hide
namespace Go.Proofs.Ytnlhebcmebbgkaa
open Go.RowKit
set_option linter.unusedVariables false

theorem IsBytes.lenle {w : World} {B : Nat} {X : Value} {xs : List Int} (h : IsBytes w B X xs) : (xs.length : Int) ≤ 9223372036854775807 := by
  have := h.2.1
  unfold maxLen at this
  omega
theorem parts_long (a s : Int) (X : Value) (xs : List Int) (w : World) (hX : IsBytes w w.heap.size X xs) (h : 40 < xs.length) :
    Calls Try.prog 4 #[.int .u64 a, .int .i64 s, X] w fun e w' => e = .returned (.bool true) ∧ Below w.heap.size w w' := by
  have hm := hX.lenle
  obtain ⟨A, cap, rfl⟩ := hX.len
  have h40 : (40 : Int) < (xs.length : Int) := by omega
  clear hX
  go_enter Try.func4, Try.ntmps4
  go_wp2_with (go_at_call 14; (with_reducible refine (awake_any _).mono ?_); rintro e wn ⟨rfl, hbl⟩; have HB := Lib.hid hbl; clear hbl)
  go_ret
  exact ⟨rfl, HB.out⟩
theorem put_nil_bytes (w : World) : IsBytes w 0 (.slice none 0 0) [] := ⟨by simp, by simp, .inl ⟨rfl, rfl⟩⟩
set_option maxHeartbeats 4000000 in
theorem parts_odd (a s : Int) (X : Value) (xs : List Int) (w : World) (ha : 0 ≤ a) (ha' : a < 18446744073709551616) (hX : IsBytes w w.heap.size X xs) (h : ¬ 40 < xs.length) (hs : sizedB s = false) :
    Calls Try.prog 4 #[.int .u64 a, .int .i64 s, X] w fun e w' => e = .returned (.bool true) ∧ Below w.heap.size w w' := by
  obtain ⟨A, cap, rfl⟩ := hX.len
  have h40 : ¬ (40 : Int) < (xs.length : Int) := by omega
  have HX := Lib.hid hX
  have HS := Lib.hid hs
  clear hX hs
  go_enter Try.func4, Try.ntmps4
  go_wp2_with (first
    | (go_at_call 15; refine (lent_any _ xs _ HX.out (by omega)).mono ?_; rintro e w1 ⟨g, rfl, hg, hL, hbl⟩; have hR := Lib.hid hbl; have HL := Lib.hid hL; have hs1 := hbl.size; have hg1 := hL.lt; clear hbl hL)
    | (go_at_call 16; (with_reducible refine (put_no a s _ HS.out).mono ?_); rintro e w' ⟨rfl, rfl⟩)
    | (go_at_call 17; (with_reducible refine (rput_no a s _ HS.out).mono ?_); rintro e w' ⟨rfl, rfl⟩)
    | (go_at_call 18; refine (get_any _ xs _ w1.heap.size (HL.out.bytes HX.out.1 HX.out.2.1 hg1 (by omega))).mono ?_; rintro e w' ⟨rfl, rfl⟩)
    | (go_at_call 19; refine (rget_any _ xs _ w.heap.size (HX.out.below hR.out (Nat.le_refl _))).mono ?_; rintro e w' ⟨rfl, rfl⟩)
    | (go_at_call 20; refine (sameBytes_yes _ _ [] _ _ _ (put_nil_bytes _) (put_nil_bytes _)).mono ?_; rintro e w' ⟨rfl, rfl⟩)
    | (go_at_call 21; refine (over_any _ 0 w1.heap.size [] _ (Owns.nil _ _ _ _ _)).mono ?_; rintro e w2 ⟨rfl, hbl⟩; have HB2 := Lib.hid hbl; clear hbl)
    | (go_at_call 22; (with_reducible refine (zext_any a s _ ha ha').mono ?_); rintro e w' ⟨rfl, rfl⟩)
    | (go_at_call 23; (with_reducible refine (rzext_any a s _ ha ha').mono ?_); rintro e w' ⟨rfl, rfl⟩)
    | (go_at_call 24; (with_reducible refine (sext_any a s _ ha ha').mono ?_); rintro e w' ⟨rfl, rfl⟩)
    | (go_at_call 25; (with_reducible refine (rsext_any a s _ ha ha').mono ?_); rintro e w' ⟨rfl, rfl⟩)
    | (go_at_call 26; refine (kept_yes _ xs g _ w.heap.size (HL.out.below HB2.out hg1) (HX.out.below (hR.out.trans (HB2.out.mono hs1)) (Nat.le_refl _)) (by omega)).mono ?_; rintro e w3 ⟨rfl, hbl⟩; have hR3 := grow_step (w := w) (hR.out.trans (HB2.out.mono hs1)) hbl; clear hbl)
    | (go_at_call 14; (with_reducible refine (awake_any _).mono ?_); rintro e wn ⟨rfl, hbl⟩; have hR4 := grow_step hR3 hbl; clear hbl))
  go_ret
  exact ⟨rfl, hR4.out⟩
set_option maxHeartbeats 4000000 in
theorem parts_fit (a : Int) (n : Nat) (X : Value) (xs : List Int) (w : World) (ha : 0 ≤ a) (ha' : a < 18446744073709551616) (hX : IsBytes w w.heap.size X xs) (h : ¬ 40 < xs.length) (hs : sizedB n = true) :
    Calls Try.prog 4 #[.int .u64 a, .int .i64 n, X] w fun e w' => e = .returned (.bool true) ∧ Below w.heap.size w w' := by
  obtain ⟨A, cap, rfl⟩ := hX.len
  have h40 : ¬ (40 : Int) < (xs.length : Int) := by omega
  have HX := Lib.hid hX
  have HS := Lib.hid hs
  clear hX hs
  go_enter Try.func4, Try.ntmps4
  go_wp2_with (first
    | (go_at_call 15; refine (lent_any _ xs _ HX.out (by omega)).mono ?_; rintro e w1 ⟨g, rfl, hg, hL, hbl⟩; have hR := Lib.hid hbl; have HL := Lib.hid hL; have hs1 := hbl.size; have hg1 := hL.lt; clear hbl hL)
    | (go_at_call 16; refine (put_yes a n _ ha ha' HS.out).mono ?_; rintro e w2 ⟨v2, rfl, hown, hbl⟩; have O2 := Lib.hid hown; have R2 := Lib.hid hbl; have hs2 := hbl.size; clear hown hbl)
    | (go_at_call 17; refine (rput_yes a n _ ha ha' HS.out).mono ?_; rintro e w3 ⟨v3, rfl, hown, hbl⟩; have O3 := Lib.hid hown; have R3 := Lib.hid hbl; have hs3 := hbl.size; have R13 := Lib.hid (R2.out.trans (hbl.mono hs2)); clear hown hbl)
    | (go_at_call 18; refine (get_any _ xs _ w1.heap.size ((HL.out.below R13.out hg1).bytes HX.out.1 HX.out.2.1 hg1 (by omega))).mono ?_; rintro e w' ⟨rfl, rfl⟩)
    | (go_at_call 19; refine (rget_any _ xs _ w.heap.size (HX.out.below (hR.out.trans (R13.out.mono hs1)) (Nat.le_refl _))).mono ?_; rintro e w' ⟨rfl, rfl⟩)
    | (go_at_call 20; refine (sameBytes_yes _ _ (bytesV a n) _ w2.heap.size w3.heap.size ((IsBytes.of_owns O2.out (bytesV_bd a n) (Nat.le_refl _)).below R3.out (Nat.le_refl _)) (IsBytes.of_owns O3.out (bytesV_bd a n) (Nat.le_refl _))).mono ?_; rintro e w' ⟨rfl, rfl⟩)
    | (go_at_call 21; refine (over_any _ _ w1.heap.size _ _ (O2.out.below R3.out (Nat.le_refl _))).mono ?_; rintro e w4 ⟨rfl, hbl⟩; have R14 := Lib.hid (R13.out.trans hbl); clear hbl)
    | (go_at_call 22; (with_reducible refine (zext_any a n _ ha ha').mono ?_); rintro e w' ⟨rfl, rfl⟩)
    | (go_at_call 23; (with_reducible refine (rzext_any a n _ ha ha').mono ?_); rintro e w' ⟨rfl, rfl⟩)
    | (go_at_call 24; (with_reducible refine (sext_any a n _ ha ha').mono ?_); rintro e w' ⟨rfl, rfl⟩)
    | (go_at_call 25; (with_reducible refine (rsext_any a n _ ha ha').mono ?_); rintro e w' ⟨rfl, rfl⟩)
    | (go_at_call 26; refine (kept_yes _ xs g _ w.heap.size (HL.out.below R14.out hg1) (HX.out.below (hR.out.trans (R14.out.mono hs1)) (Nat.le_refl _)) (by omega)).mono ?_; rintro e w5 ⟨rfl, hbl⟩; have hR3 := grow_step (w := w) (hR.out.trans (R14.out.mono hs1)) hbl; clear hbl)
    | (go_at_call 14; (with_reducible refine (awake_any _).mono ?_); rintro e wn ⟨rfl, hbl⟩; have hR4 := grow_step hR3 hbl; clear hbl))
  go_ret
  exact ⟨rfl, hR4.out⟩
theorem parts_any (a s : Int) (X : Value) (xs : List Int) (w : World) (ha : 0 ≤ a) (ha' : a < 18446744073709551616) (hX : IsBytes w w.heap.size X xs) :
    Calls Try.prog 4 #[.int .u64 a, .int .i64 s, X] w fun e w' => e = .returned (.bool true) ∧ Below w.heap.size w w' := by
  by_cases h : 40 < xs.length
  · exact parts_long a s X xs w hX h
  · cases hs : sizedB s
    · exact parts_odd a s X xs w ha ha' hX h hs
    · obtain ⟨n, rfl⟩ : ∃ n : Nat, s = n := ⟨s.toNat, by rcases sized_cases hs with h | h | h | h <;> omega⟩
      exact parts_fit a n X xs w ha ha' hX h hs
end Go.Proofs.Ytnlhebcmebbgkaa
