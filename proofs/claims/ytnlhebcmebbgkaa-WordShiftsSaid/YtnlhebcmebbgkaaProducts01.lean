/- The statement on products, walked: it answers true at any two numbers of 64 bits, and what was there stays as it was. -/
import Derived.Test.YtnlhebcmebbgkaaRows
import Derived.Test.YtnlhebcmebbgkaaMath01
import Derived.Test.YtnlhebcmebbgkaaLawMath01
import Derived.Test.YtnlhebcmebbgkaaLaws01
import Derived.WalkKit
import Derived.WalkSpells
import Derived.WalkLawsBesides
import Derived.ProofKit
import Derived.Lib.Hide
namespace Go.Proofs.Ytnlhebcmebbgkaa
open Go.RowKit
set_option linter.unusedVariables false
def Told (fn a b v : Int) : Prop := ∀ w, Calls Try.prog 28 #[.int .i64 fn, .int .u64 a, .int .u64 b] w fun e w' => e = .returned (.int .u64 v) ∧ Below w.heap.size w w'
theorem told_out {fn a b v : Int} (h : Told fn a b v) : ∀ w, Calls Try.prog 28 #[.int .i64 fn, .int .u64 a, .int .u64 b] w fun e w' => e = .returned (.int .u64 v) ∧ Below w.heap.size w w' := h
theorem told_is {fn a b v : Int} (h1 : 1 ≤ fn) (h2 : fn ≤ 20) (ha : 0 ≤ a) (ha' : a < 18446744073709551616) (hb : 0 ≤ b) (hb' : b < 18446744073709551616) (hv : doV fn a b = v) : Told fn a b v := fun w => hv ▸ told_in fn a b w h1 h2 ha ha' hb hb'

set_option maxHeartbeats 4000000 in
theorem products_0001 (a b l h m o lx h1 : Int) (w : World) (ha : 0 ≤ a) (ha' : a < 18446744073709551616) (hb : 0 ≤ b) (hb' : b < 18446744073709551615) (ca : a < 9223372036854775808) (cb : b < 9223372036854775808) (cl : l ≤ lx)
    (T3 : Told 3 a b l) (T3t : Told 3 b a l) (T5 : Told 5 a b h) (T5t : Told 5 b a h) (T4 : Told 4 a b h) (T4t : Told 4 b a h) (T6 : Told 6 a b h) (T50 : Told 5 a 0 0) (T3m : Told 3 a (b + 1) lx) (T5m : Told 5 a (b + 1) h)
    (hlx : IntKind.u64.wrap (l + a) = lx) (hh0 : IntKind.u64.wrap h = h) :
    Calls Try.prog 7 #[.int .u64 a, .int .u64 b] w fun e w' => e = .returned (.bool true) ∧ Below w.heap.size w w' := by
  have hR := Lib.hid (Below.refl w.heap.size w)
  have nb : (b != 18446744073709551615) = true := by simp; omega
  go_enter Try.func7, Try.ntmps7
  go_wp2_with (first
    | (go_at_call 14; (with_reducible refine (awake_any _).mono ?_); rintro e wn ⟨rfl, hbl⟩; have hR := grow_step hR hbl; clear hbl)
    | (go_at_call 28; (first | (with_reducible refine (told_out T3 _).mono ?_) | (with_reducible refine (told_out T3t _).mono ?_) | (with_reducible refine (told_out T5 _).mono ?_) | (with_reducible refine (told_out T5t _).mono ?_) | (with_reducible refine (told_out T4 _).mono ?_) | (with_reducible refine (told_out T4t _).mono ?_) | (with_reducible refine (told_out T6 _).mono ?_) | (with_reducible refine (told_out T50 _).mono ?_) | (with_reducible refine (told_out T3m _).mono ?_) | (with_reducible refine (told_out T5m _).mono ?_)); rintro e wn ⟨rfl, hbl⟩; have hR := grow_step hR hbl; clear hbl))
  go_ret
  exact ⟨rfl, hR.out⟩
set_option maxHeartbeats 4000000 in
theorem products_0011 (a b l h m o lx h1 : Int) (w : World) (ha : 0 ≤ a) (ha' : a < 18446744073709551616) (hb : 0 ≤ b) (hb' : b < 18446744073709551615) (ca : a < 9223372036854775808) (cb : b < 9223372036854775808) (cl : lx < l)
    (T3 : Told 3 a b l) (T3t : Told 3 b a l) (T5 : Told 5 a b h) (T5t : Told 5 b a h) (T4 : Told 4 a b h) (T4t : Told 4 b a h) (T6 : Told 6 a b h) (T50 : Told 5 a 0 0) (T3m : Told 3 a (b + 1) lx) (T5m : Told 5 a (b + 1) h1)
    (hlx : IntKind.u64.wrap (l + a) = lx) (hh1 : IntKind.u64.wrap (h + 1) = h1) :
    Calls Try.prog 7 #[.int .u64 a, .int .u64 b] w fun e w' => e = .returned (.bool true) ∧ Below w.heap.size w w' := by
  have hR := Lib.hid (Below.refl w.heap.size w)
  have nb : (b != 18446744073709551615) = true := by simp; omega
  go_enter Try.func7, Try.ntmps7
  go_wp2_with (first
    | (go_at_call 14; (with_reducible refine (awake_any _).mono ?_); rintro e wn ⟨rfl, hbl⟩; have hR := grow_step hR hbl; clear hbl)
    | (go_at_call 28; (first | (with_reducible refine (told_out T3 _).mono ?_) | (with_reducible refine (told_out T3t _).mono ?_) | (with_reducible refine (told_out T5 _).mono ?_) | (with_reducible refine (told_out T5t _).mono ?_) | (with_reducible refine (told_out T4 _).mono ?_) | (with_reducible refine (told_out T4t _).mono ?_) | (with_reducible refine (told_out T6 _).mono ?_) | (with_reducible refine (told_out T50 _).mono ?_) | (with_reducible refine (told_out T3m _).mono ?_) | (with_reducible refine (told_out T5m _).mono ?_)); rintro e wn ⟨rfl, hbl⟩; have hR := grow_step hR hbl; clear hbl))
  go_ret
  exact ⟨rfl, hR.out⟩
set_option maxHeartbeats 4000000 in
theorem products_0101 (a b l h m o lx h1 : Int) (w : World) (ha : 0 ≤ a) (ha' : a < 18446744073709551616) (hb : 0 ≤ b) (hb' : b < 18446744073709551615) (ca : a < 9223372036854775808) (cb : 9223372036854775808 ≤ b) (cl : l ≤ lx)
    (T3 : Told 3 a b l) (T3t : Told 3 b a l) (T5 : Told 5 a b h) (T5t : Told 5 b a h) (T4 : Told 4 a b o) (T4t : Told 4 b a o) (T6 : Told 6 a b h) (T50 : Told 5 a 0 0) (T3m : Told 3 a (b + 1) lx) (T5m : Told 5 a (b + 1) h)
    (hlx : IntKind.u64.wrap (l + a) = lx) (hh0 : IntKind.u64.wrap h = h) (ho : IntKind.u64.wrap (h - a) = o) :
    Calls Try.prog 7 #[.int .u64 a, .int .u64 b] w fun e w' => e = .returned (.bool true) ∧ Below w.heap.size w w' := by
  have hR := Lib.hid (Below.refl w.heap.size w)
  have nb : (b != 18446744073709551615) = true := by simp; omega
  go_enter Try.func7, Try.ntmps7
  go_wp2_with (first
    | (go_at_call 14; (with_reducible refine (awake_any _).mono ?_); rintro e wn ⟨rfl, hbl⟩; have hR := grow_step hR hbl; clear hbl)
    | (go_at_call 28; (first | (with_reducible refine (told_out T3 _).mono ?_) | (with_reducible refine (told_out T3t _).mono ?_) | (with_reducible refine (told_out T5 _).mono ?_) | (with_reducible refine (told_out T5t _).mono ?_) | (with_reducible refine (told_out T4 _).mono ?_) | (with_reducible refine (told_out T4t _).mono ?_) | (with_reducible refine (told_out T6 _).mono ?_) | (with_reducible refine (told_out T50 _).mono ?_) | (with_reducible refine (told_out T3m _).mono ?_) | (with_reducible refine (told_out T5m _).mono ?_)); rintro e wn ⟨rfl, hbl⟩; have hR := grow_step hR hbl; clear hbl))
  go_ret
  exact ⟨rfl, hR.out⟩
set_option maxHeartbeats 4000000 in
theorem products_0111 (a b l h m o lx h1 : Int) (w : World) (ha : 0 ≤ a) (ha' : a < 18446744073709551616) (hb : 0 ≤ b) (hb' : b < 18446744073709551615) (ca : a < 9223372036854775808) (cb : 9223372036854775808 ≤ b) (cl : lx < l)
    (T3 : Told 3 a b l) (T3t : Told 3 b a l) (T5 : Told 5 a b h) (T5t : Told 5 b a h) (T4 : Told 4 a b o) (T4t : Told 4 b a o) (T6 : Told 6 a b h) (T50 : Told 5 a 0 0) (T3m : Told 3 a (b + 1) lx) (T5m : Told 5 a (b + 1) h1)
    (hlx : IntKind.u64.wrap (l + a) = lx) (hh1 : IntKind.u64.wrap (h + 1) = h1) (ho : IntKind.u64.wrap (h - a) = o) :
    Calls Try.prog 7 #[.int .u64 a, .int .u64 b] w fun e w' => e = .returned (.bool true) ∧ Below w.heap.size w w' := by
  have hR := Lib.hid (Below.refl w.heap.size w)
  have nb : (b != 18446744073709551615) = true := by simp; omega
  go_enter Try.func7, Try.ntmps7
  go_wp2_with (first
    | (go_at_call 14; (with_reducible refine (awake_any _).mono ?_); rintro e wn ⟨rfl, hbl⟩; have hR := grow_step hR hbl; clear hbl)
    | (go_at_call 28; (first | (with_reducible refine (told_out T3 _).mono ?_) | (with_reducible refine (told_out T3t _).mono ?_) | (with_reducible refine (told_out T5 _).mono ?_) | (with_reducible refine (told_out T5t _).mono ?_) | (with_reducible refine (told_out T4 _).mono ?_) | (with_reducible refine (told_out T4t _).mono ?_) | (with_reducible refine (told_out T6 _).mono ?_) | (with_reducible refine (told_out T50 _).mono ?_) | (with_reducible refine (told_out T3m _).mono ?_) | (with_reducible refine (told_out T5m _).mono ?_)); rintro e wn ⟨rfl, hbl⟩; have hR := grow_step hR hbl; clear hbl))
  go_ret
  exact ⟨rfl, hR.out⟩
set_option maxHeartbeats 4000000 in
theorem products_1001 (a b l h m o lx h1 : Int) (w : World) (ha : 0 ≤ a) (ha' : a < 18446744073709551616) (hb : 0 ≤ b) (hb' : b < 18446744073709551615) (ca : 9223372036854775808 ≤ a) (cb : b < 9223372036854775808) (cl : l ≤ lx)
    (T3 : Told 3 a b l) (T3t : Told 3 b a l) (T5 : Told 5 a b h) (T5t : Told 5 b a h) (T4 : Told 4 a b m) (T4t : Told 4 b a m) (T6 : Told 6 a b m) (T50 : Told 5 a 0 0) (T3m : Told 3 a (b + 1) lx) (T5m : Told 5 a (b + 1) h)
    (hlx : IntKind.u64.wrap (l + a) = lx) (hh0 : IntKind.u64.wrap h = h) (hm : IntKind.u64.wrap (h - b) = m) :
    Calls Try.prog 7 #[.int .u64 a, .int .u64 b] w fun e w' => e = .returned (.bool true) ∧ Below w.heap.size w w' := by
  have hR := Lib.hid (Below.refl w.heap.size w)
  have nb : (b != 18446744073709551615) = true := by simp; omega
  go_enter Try.func7, Try.ntmps7
  go_wp2_with (first
    | (go_at_call 14; (with_reducible refine (awake_any _).mono ?_); rintro e wn ⟨rfl, hbl⟩; have hR := grow_step hR hbl; clear hbl)
    | (go_at_call 28; (first | (with_reducible refine (told_out T3 _).mono ?_) | (with_reducible refine (told_out T3t _).mono ?_) | (with_reducible refine (told_out T5 _).mono ?_) | (with_reducible refine (told_out T5t _).mono ?_) | (with_reducible refine (told_out T4 _).mono ?_) | (with_reducible refine (told_out T4t _).mono ?_) | (with_reducible refine (told_out T6 _).mono ?_) | (with_reducible refine (told_out T50 _).mono ?_) | (with_reducible refine (told_out T3m _).mono ?_) | (with_reducible refine (told_out T5m _).mono ?_)); rintro e wn ⟨rfl, hbl⟩; have hR := grow_step hR hbl; clear hbl))
  go_ret
  exact ⟨rfl, hR.out⟩
set_option maxHeartbeats 4000000 in
theorem products_1011 (a b l h m o lx h1 : Int) (w : World) (ha : 0 ≤ a) (ha' : a < 18446744073709551616) (hb : 0 ≤ b) (hb' : b < 18446744073709551615) (ca : 9223372036854775808 ≤ a) (cb : b < 9223372036854775808) (cl : lx < l)
    (T3 : Told 3 a b l) (T3t : Told 3 b a l) (T5 : Told 5 a b h) (T5t : Told 5 b a h) (T4 : Told 4 a b m) (T4t : Told 4 b a m) (T6 : Told 6 a b m) (T50 : Told 5 a 0 0) (T3m : Told 3 a (b + 1) lx) (T5m : Told 5 a (b + 1) h1)
    (hlx : IntKind.u64.wrap (l + a) = lx) (hh1 : IntKind.u64.wrap (h + 1) = h1) (hm : IntKind.u64.wrap (h - b) = m) :
    Calls Try.prog 7 #[.int .u64 a, .int .u64 b] w fun e w' => e = .returned (.bool true) ∧ Below w.heap.size w w' := by
  have hR := Lib.hid (Below.refl w.heap.size w)
  have nb : (b != 18446744073709551615) = true := by simp; omega
  go_enter Try.func7, Try.ntmps7
  go_wp2_with (first
    | (go_at_call 14; (with_reducible refine (awake_any _).mono ?_); rintro e wn ⟨rfl, hbl⟩; have hR := grow_step hR hbl; clear hbl)
    | (go_at_call 28; (first | (with_reducible refine (told_out T3 _).mono ?_) | (with_reducible refine (told_out T3t _).mono ?_) | (with_reducible refine (told_out T5 _).mono ?_) | (with_reducible refine (told_out T5t _).mono ?_) | (with_reducible refine (told_out T4 _).mono ?_) | (with_reducible refine (told_out T4t _).mono ?_) | (with_reducible refine (told_out T6 _).mono ?_) | (with_reducible refine (told_out T50 _).mono ?_) | (with_reducible refine (told_out T3m _).mono ?_) | (with_reducible refine (told_out T5m _).mono ?_)); rintro e wn ⟨rfl, hbl⟩; have hR := grow_step hR hbl; clear hbl))
  go_ret
  exact ⟨rfl, hR.out⟩
set_option maxHeartbeats 4000000 in
theorem products_1101 (a b l h m o lx h1 : Int) (w : World) (ha : 0 ≤ a) (ha' : a < 18446744073709551616) (hb : 0 ≤ b) (hb' : b < 18446744073709551615) (ca : 9223372036854775808 ≤ a) (cb : 9223372036854775808 ≤ b) (cl : l ≤ lx)
    (T3 : Told 3 a b l) (T3t : Told 3 b a l) (T5 : Told 5 a b h) (T5t : Told 5 b a h) (T4 : Told 4 a b o) (T4t : Told 4 b a o) (T6 : Told 6 a b m) (T50 : Told 5 a 0 0) (T3m : Told 3 a (b + 1) lx) (T5m : Told 5 a (b + 1) h)
    (hlx : IntKind.u64.wrap (l + a) = lx) (hh0 : IntKind.u64.wrap h = h) (hm : IntKind.u64.wrap (h - b) = m) (ho : IntKind.u64.wrap (m - a) = o) :
    Calls Try.prog 7 #[.int .u64 a, .int .u64 b] w fun e w' => e = .returned (.bool true) ∧ Below w.heap.size w w' := by
  have hR := Lib.hid (Below.refl w.heap.size w)
  have nb : (b != 18446744073709551615) = true := by simp; omega
  go_enter Try.func7, Try.ntmps7
  go_wp2_with (first
    | (go_at_call 14; (with_reducible refine (awake_any _).mono ?_); rintro e wn ⟨rfl, hbl⟩; have hR := grow_step hR hbl; clear hbl)
    | (go_at_call 28; (first | (with_reducible refine (told_out T3 _).mono ?_) | (with_reducible refine (told_out T3t _).mono ?_) | (with_reducible refine (told_out T5 _).mono ?_) | (with_reducible refine (told_out T5t _).mono ?_) | (with_reducible refine (told_out T4 _).mono ?_) | (with_reducible refine (told_out T4t _).mono ?_) | (with_reducible refine (told_out T6 _).mono ?_) | (with_reducible refine (told_out T50 _).mono ?_) | (with_reducible refine (told_out T3m _).mono ?_) | (with_reducible refine (told_out T5m _).mono ?_)); rintro e wn ⟨rfl, hbl⟩; have hR := grow_step hR hbl; clear hbl))
  go_ret
  exact ⟨rfl, hR.out⟩
set_option maxHeartbeats 4000000 in
theorem products_1111 (a b l h m o lx h1 : Int) (w : World) (ha : 0 ≤ a) (ha' : a < 18446744073709551616) (hb : 0 ≤ b) (hb' : b < 18446744073709551615) (ca : 9223372036854775808 ≤ a) (cb : 9223372036854775808 ≤ b) (cl : lx < l)
    (T3 : Told 3 a b l) (T3t : Told 3 b a l) (T5 : Told 5 a b h) (T5t : Told 5 b a h) (T4 : Told 4 a b o) (T4t : Told 4 b a o) (T6 : Told 6 a b m) (T50 : Told 5 a 0 0) (T3m : Told 3 a (b + 1) lx) (T5m : Told 5 a (b + 1) h1)
    (hlx : IntKind.u64.wrap (l + a) = lx) (hh1 : IntKind.u64.wrap (h + 1) = h1) (hm : IntKind.u64.wrap (h - b) = m) (ho : IntKind.u64.wrap (m - a) = o) :
    Calls Try.prog 7 #[.int .u64 a, .int .u64 b] w fun e w' => e = .returned (.bool true) ∧ Below w.heap.size w w' := by
  have hR := Lib.hid (Below.refl w.heap.size w)
  have nb : (b != 18446744073709551615) = true := by simp; omega
  go_enter Try.func7, Try.ntmps7
  go_wp2_with (first
    | (go_at_call 14; (with_reducible refine (awake_any _).mono ?_); rintro e wn ⟨rfl, hbl⟩; have hR := grow_step hR hbl; clear hbl)
    | (go_at_call 28; (first | (with_reducible refine (told_out T3 _).mono ?_) | (with_reducible refine (told_out T3t _).mono ?_) | (with_reducible refine (told_out T5 _).mono ?_) | (with_reducible refine (told_out T5t _).mono ?_) | (with_reducible refine (told_out T4 _).mono ?_) | (with_reducible refine (told_out T4t _).mono ?_) | (with_reducible refine (told_out T6 _).mono ?_) | (with_reducible refine (told_out T50 _).mono ?_) | (with_reducible refine (told_out T3m _).mono ?_) | (with_reducible refine (told_out T5m _).mono ?_)); rintro e wn ⟨rfl, hbl⟩; have hR := grow_step hR hbl; clear hbl))
  go_ret
  exact ⟨rfl, hR.out⟩
set_option maxHeartbeats 4000000 in
theorem products_0100 (a b l h m o lx h1 : Int) (w : World) (ha : 0 ≤ a) (ha' : a < 18446744073709551616) (ca : a < 9223372036854775808) (cl : l ≤ lx)
    (T3 : Told 3 a 18446744073709551615 l) (T3t : Told 3 18446744073709551615 a l) (T5 : Told 5 a 18446744073709551615 h) (T5t : Told 5 18446744073709551615 a h) (T4 : Told 4 a 18446744073709551615 o) (T4t : Told 4 18446744073709551615 a o) (T6 : Told 6 a 18446744073709551615 h) (T50 : Told 5 a 0 0)
    (hlx : IntKind.u64.wrap (l + a) = lx) (ho : IntKind.u64.wrap (h - a) = o) :
    Calls Try.prog 7 #[.int .u64 a, .int .u64 18446744073709551615] w fun e w' => e = .returned (.bool true) ∧ Below w.heap.size w w' := by
  have hR := Lib.hid (Below.refl w.heap.size w)
  go_enter Try.func7, Try.ntmps7
  go_wp2_with (first
    | (go_at_call 14; (with_reducible refine (awake_any _).mono ?_); rintro e wn ⟨rfl, hbl⟩; have hR := grow_step hR hbl; clear hbl)
    | (go_at_call 28; (first | (with_reducible refine (told_out T3 _).mono ?_) | (with_reducible refine (told_out T3t _).mono ?_) | (with_reducible refine (told_out T5 _).mono ?_) | (with_reducible refine (told_out T5t _).mono ?_) | (with_reducible refine (told_out T4 _).mono ?_) | (with_reducible refine (told_out T4t _).mono ?_) | (with_reducible refine (told_out T6 _).mono ?_) | (with_reducible refine (told_out T50 _).mono ?_)); rintro e wn ⟨rfl, hbl⟩; have hR := grow_step hR hbl; clear hbl))
  go_ret
  exact ⟨rfl, hR.out⟩
set_option maxHeartbeats 4000000 in
theorem products_0110 (a b l h m o lx h1 : Int) (w : World) (ha : 0 ≤ a) (ha' : a < 18446744073709551616) (ca : a < 9223372036854775808) (cl : lx < l)
    (T3 : Told 3 a 18446744073709551615 l) (T3t : Told 3 18446744073709551615 a l) (T5 : Told 5 a 18446744073709551615 h) (T5t : Told 5 18446744073709551615 a h) (T4 : Told 4 a 18446744073709551615 o) (T4t : Told 4 18446744073709551615 a o) (T6 : Told 6 a 18446744073709551615 h) (T50 : Told 5 a 0 0)
    (hlx : IntKind.u64.wrap (l + a) = lx) (ho : IntKind.u64.wrap (h - a) = o) :
    Calls Try.prog 7 #[.int .u64 a, .int .u64 18446744073709551615] w fun e w' => e = .returned (.bool true) ∧ Below w.heap.size w w' := by
  have hR := Lib.hid (Below.refl w.heap.size w)
  go_enter Try.func7, Try.ntmps7
  go_wp2_with (first
    | (go_at_call 14; (with_reducible refine (awake_any _).mono ?_); rintro e wn ⟨rfl, hbl⟩; have hR := grow_step hR hbl; clear hbl)
    | (go_at_call 28; (first | (with_reducible refine (told_out T3 _).mono ?_) | (with_reducible refine (told_out T3t _).mono ?_) | (with_reducible refine (told_out T5 _).mono ?_) | (with_reducible refine (told_out T5t _).mono ?_) | (with_reducible refine (told_out T4 _).mono ?_) | (with_reducible refine (told_out T4t _).mono ?_) | (with_reducible refine (told_out T6 _).mono ?_) | (with_reducible refine (told_out T50 _).mono ?_)); rintro e wn ⟨rfl, hbl⟩; have hR := grow_step hR hbl; clear hbl))
  go_ret
  exact ⟨rfl, hR.out⟩
set_option maxHeartbeats 4000000 in
theorem products_1100 (a b l h m o lx h1 : Int) (w : World) (ha : 0 ≤ a) (ha' : a < 18446744073709551616) (ca : 9223372036854775808 ≤ a) (cl : l ≤ lx)
    (T3 : Told 3 a 18446744073709551615 l) (T3t : Told 3 18446744073709551615 a l) (T5 : Told 5 a 18446744073709551615 h) (T5t : Told 5 18446744073709551615 a h) (T4 : Told 4 a 18446744073709551615 o) (T4t : Told 4 18446744073709551615 a o) (T6 : Told 6 a 18446744073709551615 m) (T50 : Told 5 a 0 0)
    (hlx : IntKind.u64.wrap (l + a) = lx) (hm : IntKind.u64.wrap (h - 18446744073709551615) = m) (ho : IntKind.u64.wrap (m - a) = o) :
    Calls Try.prog 7 #[.int .u64 a, .int .u64 18446744073709551615] w fun e w' => e = .returned (.bool true) ∧ Below w.heap.size w w' := by
  have hR := Lib.hid (Below.refl w.heap.size w)
  go_enter Try.func7, Try.ntmps7
  go_wp2_with (first
    | (go_at_call 14; (with_reducible refine (awake_any _).mono ?_); rintro e wn ⟨rfl, hbl⟩; have hR := grow_step hR hbl; clear hbl)
    | (go_at_call 28; (first | (with_reducible refine (told_out T3 _).mono ?_) | (with_reducible refine (told_out T3t _).mono ?_) | (with_reducible refine (told_out T5 _).mono ?_) | (with_reducible refine (told_out T5t _).mono ?_) | (with_reducible refine (told_out T4 _).mono ?_) | (with_reducible refine (told_out T4t _).mono ?_) | (with_reducible refine (told_out T6 _).mono ?_) | (with_reducible refine (told_out T50 _).mono ?_)); rintro e wn ⟨rfl, hbl⟩; have hR := grow_step hR hbl; clear hbl))
  go_ret
  exact ⟨rfl, hR.out⟩
set_option maxHeartbeats 4000000 in
theorem products_1110 (a b l h m o lx h1 : Int) (w : World) (ha : 0 ≤ a) (ha' : a < 18446744073709551616) (ca : 9223372036854775808 ≤ a) (cl : lx < l)
    (T3 : Told 3 a 18446744073709551615 l) (T3t : Told 3 18446744073709551615 a l) (T5 : Told 5 a 18446744073709551615 h) (T5t : Told 5 18446744073709551615 a h) (T4 : Told 4 a 18446744073709551615 o) (T4t : Told 4 18446744073709551615 a o) (T6 : Told 6 a 18446744073709551615 m) (T50 : Told 5 a 0 0)
    (hlx : IntKind.u64.wrap (l + a) = lx) (hm : IntKind.u64.wrap (h - 18446744073709551615) = m) (ho : IntKind.u64.wrap (m - a) = o) :
    Calls Try.prog 7 #[.int .u64 a, .int .u64 18446744073709551615] w fun e w' => e = .returned (.bool true) ∧ Below w.heap.size w w' := by
  have hR := Lib.hid (Below.refl w.heap.size w)
  go_enter Try.func7, Try.ntmps7
  go_wp2_with (first
    | (go_at_call 14; (with_reducible refine (awake_any _).mono ?_); rintro e wn ⟨rfl, hbl⟩; have hR := grow_step hR hbl; clear hbl)
    | (go_at_call 28; (first | (with_reducible refine (told_out T3 _).mono ?_) | (with_reducible refine (told_out T3t _).mono ?_) | (with_reducible refine (told_out T5 _).mono ?_) | (with_reducible refine (told_out T5t _).mono ?_) | (with_reducible refine (told_out T4 _).mono ?_) | (with_reducible refine (told_out T4t _).mono ?_) | (with_reducible refine (told_out T6 _).mono ?_) | (with_reducible refine (told_out T50 _).mono ?_)); rintro e wn ⟨rfl, hbl⟩; have hR := grow_step hR hbl; clear hbl))
  go_ret
  exact ⟨rfl, hR.out⟩
theorem products_any (a b : Int) (w : World) (ha : 0 ≤ a) (ha' : a < 18446744073709551616) (hb : 0 ≤ b) (hb' : b < 18446744073709551616) : Calls Try.prog 7 #[.int .u64 a, .int .u64 b] w fun e w' => e = .returned (.bool true) ∧ Below w.heap.size w w' := by
  have e6 := mulhsu_is ha ha' hb hb'
  have e4 := mulh_is a b
  have hbd := doV_bd (fn := 5) ha ha' hb hb'
  have hw : IntKind.u64.wrap (doV 5 a b) = doV 5 a b := by rw [IntKind.wrap_u64]; omega
  by_cases hy : b < 18446744073709551615
  · have e5 := mulhu_more ha ha' hb hy
    by_cases ca : a < 9223372036854775808
    · rw [if_pos ca] at e6
      by_cases cb : b < 9223372036854775808
      · rw [if_pos cb] at e4
        by_cases cl : IntKind.u64.wrap (doV 3 a b + a) < doV 3 a b
        · rw [if_pos cl] at e5
          exact products_0011 a b (doV 3 a b) (doV 5 a b) 0 0 (IntKind.u64.wrap (doV 3 a b + a)) (IntKind.u64.wrap (doV 5 a b + 1)) w ha ha' hb hy ca cb cl (told_is (by omega) (by omega) ha ha' hb hb' rfl) (told_is (by omega) (by omega) hb hb' ha ha' (mul_turn _ _)) (told_is (by omega) (by omega) ha ha' hb hb' rfl) (told_is (by omega) (by omega) hb hb' ha ha' (mulhu_turn _ _)) (told_is (by omega) (by omega) ha ha' hb hb' (e4.trans e6)) (told_is (by omega) (by omega) hb hb' ha ha' ((mulh_turn _ _).trans (e4.trans e6))) (told_is (by omega) (by omega) ha ha' hb hb' e6) (told_is (by omega) (by omega) ha ha' (by omega) (by omega) (mulhu_zero a)) (told_is (by omega) (by omega) ha ha' (by omega) (by omega) (mul_more a b)) (told_is (by omega) (by omega) ha ha' (by omega) (by omega) e5) rfl rfl
        · rw [if_neg cl, Int.add_zero, hw] at e5
          have cl : doV 3 a b ≤ IntKind.u64.wrap (doV 3 a b + a) := by omega
          exact products_0001 a b (doV 3 a b) (doV 5 a b) 0 0 (IntKind.u64.wrap (doV 3 a b + a)) 0 w ha ha' hb hy ca cb cl (told_is (by omega) (by omega) ha ha' hb hb' rfl) (told_is (by omega) (by omega) hb hb' ha ha' (mul_turn _ _)) (told_is (by omega) (by omega) ha ha' hb hb' rfl) (told_is (by omega) (by omega) hb hb' ha ha' (mulhu_turn _ _)) (told_is (by omega) (by omega) ha ha' hb hb' (e4.trans e6)) (told_is (by omega) (by omega) hb hb' ha ha' ((mulh_turn _ _).trans (e4.trans e6))) (told_is (by omega) (by omega) ha ha' hb hb' e6) (told_is (by omega) (by omega) ha ha' (by omega) (by omega) (mulhu_zero a)) (told_is (by omega) (by omega) ha ha' (by omega) (by omega) (mul_more a b)) (told_is (by omega) (by omega) ha ha' (by omega) (by omega) e5) rfl hw
      · rw [if_neg cb] at e4
        have cb : 9223372036854775808 ≤ b := by omega
        by_cases cl : IntKind.u64.wrap (doV 3 a b + a) < doV 3 a b
        · rw [if_pos cl] at e5
          exact products_0111 a b (doV 3 a b) (doV 5 a b) 0 (doV 4 a b) (IntKind.u64.wrap (doV 3 a b + a)) (IntKind.u64.wrap (doV 5 a b + 1)) w ha ha' hb hy ca cb cl (told_is (by omega) (by omega) ha ha' hb hb' rfl) (told_is (by omega) (by omega) hb hb' ha ha' (mul_turn _ _)) (told_is (by omega) (by omega) ha ha' hb hb' rfl) (told_is (by omega) (by omega) hb hb' ha ha' (mulhu_turn _ _)) (told_is (by omega) (by omega) ha ha' hb hb' rfl) (told_is (by omega) (by omega) hb hb' ha ha' (mulh_turn _ _)) (told_is (by omega) (by omega) ha ha' hb hb' e6) (told_is (by omega) (by omega) ha ha' (by omega) (by omega) (mulhu_zero a)) (told_is (by omega) (by omega) ha ha' (by omega) (by omega) (mul_more a b)) (told_is (by omega) (by omega) ha ha' (by omega) (by omega) e5) rfl rfl (by rw [e4, e6])
        · rw [if_neg cl, Int.add_zero, hw] at e5
          have cl : doV 3 a b ≤ IntKind.u64.wrap (doV 3 a b + a) := by omega
          exact products_0101 a b (doV 3 a b) (doV 5 a b) 0 (doV 4 a b) (IntKind.u64.wrap (doV 3 a b + a)) 0 w ha ha' hb hy ca cb cl (told_is (by omega) (by omega) ha ha' hb hb' rfl) (told_is (by omega) (by omega) hb hb' ha ha' (mul_turn _ _)) (told_is (by omega) (by omega) ha ha' hb hb' rfl) (told_is (by omega) (by omega) hb hb' ha ha' (mulhu_turn _ _)) (told_is (by omega) (by omega) ha ha' hb hb' rfl) (told_is (by omega) (by omega) hb hb' ha ha' (mulh_turn _ _)) (told_is (by omega) (by omega) ha ha' hb hb' e6) (told_is (by omega) (by omega) ha ha' (by omega) (by omega) (mulhu_zero a)) (told_is (by omega) (by omega) ha ha' (by omega) (by omega) (mul_more a b)) (told_is (by omega) (by omega) ha ha' (by omega) (by omega) e5) rfl hw (by rw [e4, e6])
    · rw [if_neg ca] at e6
      have ca : 9223372036854775808 ≤ a := by omega
      by_cases cb : b < 9223372036854775808
      · rw [if_pos cb] at e4
        by_cases cl : IntKind.u64.wrap (doV 3 a b + a) < doV 3 a b
        · rw [if_pos cl] at e5
          exact products_1011 a b (doV 3 a b) (doV 5 a b) (doV 6 a b) 0 (IntKind.u64.wrap (doV 3 a b + a)) (IntKind.u64.wrap (doV 5 a b + 1)) w ha ha' hb hy ca cb cl (told_is (by omega) (by omega) ha ha' hb hb' rfl) (told_is (by omega) (by omega) hb hb' ha ha' (mul_turn _ _)) (told_is (by omega) (by omega) ha ha' hb hb' rfl) (told_is (by omega) (by omega) hb hb' ha ha' (mulhu_turn _ _)) (told_is (by omega) (by omega) ha ha' hb hb' e4) (told_is (by omega) (by omega) hb hb' ha ha' ((mulh_turn _ _).trans e4)) (told_is (by omega) (by omega) ha ha' hb hb' rfl) (told_is (by omega) (by omega) ha ha' (by omega) (by omega) (mulhu_zero a)) (told_is (by omega) (by omega) ha ha' (by omega) (by omega) (mul_more a b)) (told_is (by omega) (by omega) ha ha' (by omega) (by omega) e5) rfl rfl e6.symm
        · rw [if_neg cl, Int.add_zero, hw] at e5
          have cl : doV 3 a b ≤ IntKind.u64.wrap (doV 3 a b + a) := by omega
          exact products_1001 a b (doV 3 a b) (doV 5 a b) (doV 6 a b) 0 (IntKind.u64.wrap (doV 3 a b + a)) 0 w ha ha' hb hy ca cb cl (told_is (by omega) (by omega) ha ha' hb hb' rfl) (told_is (by omega) (by omega) hb hb' ha ha' (mul_turn _ _)) (told_is (by omega) (by omega) ha ha' hb hb' rfl) (told_is (by omega) (by omega) hb hb' ha ha' (mulhu_turn _ _)) (told_is (by omega) (by omega) ha ha' hb hb' e4) (told_is (by omega) (by omega) hb hb' ha ha' ((mulh_turn _ _).trans e4)) (told_is (by omega) (by omega) ha ha' hb hb' rfl) (told_is (by omega) (by omega) ha ha' (by omega) (by omega) (mulhu_zero a)) (told_is (by omega) (by omega) ha ha' (by omega) (by omega) (mul_more a b)) (told_is (by omega) (by omega) ha ha' (by omega) (by omega) e5) rfl hw e6.symm
      · rw [if_neg cb] at e4
        have cb : 9223372036854775808 ≤ b := by omega
        by_cases cl : IntKind.u64.wrap (doV 3 a b + a) < doV 3 a b
        · rw [if_pos cl] at e5
          exact products_1111 a b (doV 3 a b) (doV 5 a b) (doV 6 a b) (doV 4 a b) (IntKind.u64.wrap (doV 3 a b + a)) (IntKind.u64.wrap (doV 5 a b + 1)) w ha ha' hb hy ca cb cl (told_is (by omega) (by omega) ha ha' hb hb' rfl) (told_is (by omega) (by omega) hb hb' ha ha' (mul_turn _ _)) (told_is (by omega) (by omega) ha ha' hb hb' rfl) (told_is (by omega) (by omega) hb hb' ha ha' (mulhu_turn _ _)) (told_is (by omega) (by omega) ha ha' hb hb' rfl) (told_is (by omega) (by omega) hb hb' ha ha' (mulh_turn _ _)) (told_is (by omega) (by omega) ha ha' hb hb' rfl) (told_is (by omega) (by omega) ha ha' (by omega) (by omega) (mulhu_zero a)) (told_is (by omega) (by omega) ha ha' (by omega) (by omega) (mul_more a b)) (told_is (by omega) (by omega) ha ha' (by omega) (by omega) e5) rfl rfl e6.symm (by rw [e4])
        · rw [if_neg cl, Int.add_zero, hw] at e5
          have cl : doV 3 a b ≤ IntKind.u64.wrap (doV 3 a b + a) := by omega
          exact products_1101 a b (doV 3 a b) (doV 5 a b) (doV 6 a b) (doV 4 a b) (IntKind.u64.wrap (doV 3 a b + a)) 0 w ha ha' hb hy ca cb cl (told_is (by omega) (by omega) ha ha' hb hb' rfl) (told_is (by omega) (by omega) hb hb' ha ha' (mul_turn _ _)) (told_is (by omega) (by omega) ha ha' hb hb' rfl) (told_is (by omega) (by omega) hb hb' ha ha' (mulhu_turn _ _)) (told_is (by omega) (by omega) ha ha' hb hb' rfl) (told_is (by omega) (by omega) hb hb' ha ha' (mulh_turn _ _)) (told_is (by omega) (by omega) ha ha' hb hb' rfl) (told_is (by omega) (by omega) ha ha' (by omega) (by omega) (mulhu_zero a)) (told_is (by omega) (by omega) ha ha' (by omega) (by omega) (mul_more a b)) (told_is (by omega) (by omega) ha ha' (by omega) (by omega) e5) rfl hw e6.symm (by rw [e4])
  · obtain rfl : b = 18446744073709551615 := by omega
    rw [if_neg (by omega)] at e4
    by_cases ca : a < 9223372036854775808
    · rw [if_pos ca] at e6
      by_cases cl : IntKind.u64.wrap (doV 3 a 18446744073709551615 + a) < doV 3 a 18446744073709551615
      · skip
        exact products_0110 a 0 (doV 3 a 18446744073709551615) (doV 5 a 18446744073709551615) 0 (doV 4 a 18446744073709551615) (IntKind.u64.wrap (doV 3 a 18446744073709551615 + a)) 0 w ha ha' ca cl (told_is (by omega) (by omega) ha ha' hb hb' rfl) (told_is (by omega) (by omega) hb hb' ha ha' (mul_turn _ _)) (told_is (by omega) (by omega) ha ha' hb hb' rfl) (told_is (by omega) (by omega) hb hb' ha ha' (mulhu_turn _ _)) (told_is (by omega) (by omega) ha ha' hb hb' rfl) (told_is (by omega) (by omega) hb hb' ha ha' (mulh_turn _ _)) (told_is (by omega) (by omega) ha ha' hb hb' e6) (told_is (by omega) (by omega) ha ha' (by omega) (by omega) (mulhu_zero a)) rfl (by rw [e4, e6])
      · have cl : doV 3 a 18446744073709551615 ≤ IntKind.u64.wrap (doV 3 a 18446744073709551615 + a) := by omega
        exact products_0100 a 0 (doV 3 a 18446744073709551615) (doV 5 a 18446744073709551615) 0 (doV 4 a 18446744073709551615) (IntKind.u64.wrap (doV 3 a 18446744073709551615 + a)) 0 w ha ha' ca cl (told_is (by omega) (by omega) ha ha' hb hb' rfl) (told_is (by omega) (by omega) hb hb' ha ha' (mul_turn _ _)) (told_is (by omega) (by omega) ha ha' hb hb' rfl) (told_is (by omega) (by omega) hb hb' ha ha' (mulhu_turn _ _)) (told_is (by omega) (by omega) ha ha' hb hb' rfl) (told_is (by omega) (by omega) hb hb' ha ha' (mulh_turn _ _)) (told_is (by omega) (by omega) ha ha' hb hb' e6) (told_is (by omega) (by omega) ha ha' (by omega) (by omega) (mulhu_zero a)) rfl (by rw [e4, e6])
    · rw [if_neg ca] at e6
      have ca : 9223372036854775808 ≤ a := by omega
      by_cases cl : IntKind.u64.wrap (doV 3 a 18446744073709551615 + a) < doV 3 a 18446744073709551615
      · skip
        exact products_1110 a 0 (doV 3 a 18446744073709551615) (doV 5 a 18446744073709551615) (doV 6 a 18446744073709551615) (doV 4 a 18446744073709551615) (IntKind.u64.wrap (doV 3 a 18446744073709551615 + a)) 0 w ha ha' ca cl (told_is (by omega) (by omega) ha ha' hb hb' rfl) (told_is (by omega) (by omega) hb hb' ha ha' (mul_turn _ _)) (told_is (by omega) (by omega) ha ha' hb hb' rfl) (told_is (by omega) (by omega) hb hb' ha ha' (mulhu_turn _ _)) (told_is (by omega) (by omega) ha ha' hb hb' rfl) (told_is (by omega) (by omega) hb hb' ha ha' (mulh_turn _ _)) (told_is (by omega) (by omega) ha ha' hb hb' rfl) (told_is (by omega) (by omega) ha ha' (by omega) (by omega) (mulhu_zero a)) rfl e6.symm (by rw [e4])
      · have cl : doV 3 a 18446744073709551615 ≤ IntKind.u64.wrap (doV 3 a 18446744073709551615 + a) := by omega
        exact products_1100 a 0 (doV 3 a 18446744073709551615) (doV 5 a 18446744073709551615) (doV 6 a 18446744073709551615) (doV 4 a 18446744073709551615) (IntKind.u64.wrap (doV 3 a 18446744073709551615 + a)) 0 w ha ha' ca cl (told_is (by omega) (by omega) ha ha' hb hb' rfl) (told_is (by omega) (by omega) hb hb' ha ha' (mul_turn _ _)) (told_is (by omega) (by omega) ha ha' hb hb' rfl) (told_is (by omega) (by omega) hb hb' ha ha' (mulhu_turn _ _)) (told_is (by omega) (by omega) ha ha' hb hb' rfl) (told_is (by omega) (by omega) hb hb' ha ha' (mulh_turn _ _)) (told_is (by omega) (by omega) ha ha' hb hb' rfl) (told_is (by omega) (by omega) ha ha' (by omega) (by omega) (mulhu_zero a)) rfl e6.symm (by rw [e4])
end Go.Proofs.Ytnlhebcmebbgkaa
