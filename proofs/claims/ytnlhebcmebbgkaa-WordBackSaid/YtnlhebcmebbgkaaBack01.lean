/- The statement on what is put and got, walked: it answers true at any number, any size and any slice of bytes, and what was there stays as it was. -/
import Derived.Test.YtnlhebcmebbgkaaRows
import Derived.Test.YtnlhebcmebbgkaaMath01
import Derived.Test.YtnlhebcmebbgkaaOwn
import Derived.Test.YtnlhebcmebbgkaaByte01
import Derived.Test.YtnlhebcmebbgkaaLaws01
import Derived.Test.YtnlhebcmebbgkaaParts01
import Derived.WalkKit
import Derived.WalkSpells
import Derived.WalkLawsBesides
import Derived.ProofKit
import Derived.Lib.Hide
namespace Go.Proofs.Ytnlhebcmebbgkaa
open Go.RowKit
set_option linter.unusedVariables false

theorem emod_split (a : Int) {p : Int} (hp : 0 < p) : a % (p * 256) = a % p + a / p % 256 * p := by
  have h1 := Int.mul_ediv_add_emod a p
  have h2 := Int.mul_ediv_add_emod (a / p) 256
  have h3 := Int.emod_nonneg a (by omega : p ≠ 0)
  have h4 := Int.emod_lt_of_pos a hp
  have h5 : 0 ≤ a / p % 256 ∧ a / p % 256 < 256 := by omega
  generalize a % p = r at *
  generalize hq : a / p = q at *
  generalize q % 256 = d at *
  generalize q / 256 = k at *
  have e : a = (r + d * p) + p * 256 * k := by rw [← h1, ← h2]; grind
  have hd : d * p ≤ 255 * p := Int.mul_le_mul_of_nonneg_right (by omega) (by omega)
  have hd0 : 0 ≤ d * p := Int.mul_nonneg h5.1 (by omega)
  rw [e, Int.add_mul_emod_self_left, Int.emod_eq_of_lt (by omega) (by omega)]
theorem numV_bytesV (a : Int) : ∀ n : Nat, numV (bytesV a n) = a % 256 ^ n
  | 0 => by simp [bytesV, numV]
  | n + 1 => by
    rw [bytesV_succ, numV_snoc, numV_bytesV a n, bytesV_len, Int.pow_succ, emod_split a (Int.pow_pos (by omega))]
    rfl
theorem bytesV_cons (a : Int) (n : Nat) : bytesV a (n + 1) = a % 256 :: bytesV (a / 256) n := by
  unfold bytesV
  rw [List.range_succ_eq_map, List.map_cons, List.map_map]
  have h0 : byteV a 0 = a % 256 := by unfold byteV; simp
  rw [h0]
  congr 1
  apply List.map_congr_left
  intro k _
  show byteV a (k + 1) = byteV (a / 256) k
  unfold byteV
  rw [Int.pow_succ, Int.mul_comm, Int.ediv_mul_of_nonneg (by omega)]
theorem bytesV_numV : ∀ xs : List Int, (∀ x ∈ xs, 0 ≤ x ∧ x < 256) → bytesV (numV xs) xs.length = xs
  | [], _ => rfl
  | x :: xs, h => by
    have hx := h x (by simp)
    rw [List.length_cons, bytesV_cons]
    have e1 : numV (x :: xs) % 256 = x := by simp only [numV]; omega
    have e2 : numV (x :: xs) / 256 = numV xs := by simp only [numV]; omega
    rw [e1, e2, bytesV_numV xs (fun y hy => h y (by simp [hy]))]
theorem get_put {a : Int} {n : Nat} (ha : 0 ≤ a) (ha' : a < 18446744073709551616) (hs : sizedB n = true) : getV (bytesV a n) = zextV a n ∧ getE (bytesV a n) = 0 := by
  have hn : n = 1 ∨ n = 2 ∨ n = 4 ∨ n = 8 := by rcases sized_cases hs with h | h | h | h <;> omega
  unfold getV getE
  rw [bytesV_len, if_neg (by omega), if_pos hs, if_neg (by omega), if_pos hs, numV_bytesV]
  refine ⟨?_, rfl⟩
  rcases hn with rfl | rfl | rfl | rfl
  · exact (zextV_1 a).symm
  · exact (zextV_2 a).symm
  · exact (zextV_4 a).symm
  · refine Eq.trans ?_ (zextV_8 a).symm
    have e : (256 : Int) ^ 8 = 18446744073709551616 := by decide
    rw [e]
    omega
theorem zext_sext {a : Int} {n : Nat} (ha : 0 ≤ a) (ha' : a < 18446744073709551616) (hs : sizedB n = true) : zextV (sextV a n) n = zextV a n := by
  have hn : n = 1 ∨ n = 2 ∨ n = 4 ∨ n = 8 := by rcases sized_cases hs with h | h | h | h <;> omega
  rcases hn with rfl | rfl | rfl | rfl
  · refine (zextV_1 _).trans (Eq.trans ?_ (zextV_1 a).symm)
    rw [show sextV a ((1 : Nat) : Int) = sext1 (a % 256) 128 from sextV_1 a]
    unfold sext1
    split <;> omega
  · refine (zextV_2 _).trans (Eq.trans ?_ (zextV_2 a).symm)
    rw [show sextV a ((2 : Nat) : Int) = sext1 (a % 65536) 32768 from sextV_2 a]
    unfold sext1
    split <;> omega
  · refine (zextV_4 _).trans (Eq.trans ?_ (zextV_4 a).symm)
    rw [show sextV a ((4 : Nat) : Int) = sext1 (a % 4294967296) 2147483648 from sextV_4 a]
    unfold sext1
    split <;> omega
  · refine (zextV_8 _).trans (Eq.trans ?_ (zextV_8 a).symm)
    exact sextV_8 a
theorem sext_zext {a : Int} {n : Nat} (hs : sizedB n = true) : sextV (zextV a n) n = sextV a n := by
  have hn : n = 1 ∨ n = 2 ∨ n = 4 ∨ n = 8 := by rcases sized_cases hs with h | h | h | h <;> omega
  rcases hn with rfl | rfl | rfl | rfl
  · rw [show zextV a ((1 : Nat) : Int) = a % 256 from zextV_1 a]
    exact (sextV_1 _).trans (by rw [show a % 256 % 256 = a % 256 by omega]; exact (sextV_1 a).symm)
  · rw [show zextV a ((2 : Nat) : Int) = a % 65536 from zextV_2 a]
    exact (sextV_2 _).trans (by rw [show a % 65536 % 65536 = a % 65536 by omega]; exact (sextV_2 a).symm)
  · rw [show zextV a ((4 : Nat) : Int) = a % 4294967296 from zextV_4 a]
    exact (sextV_4 _).trans (by rw [show a % 4294967296 % 4294967296 = a % 4294967296 by omega]; exact (sextV_4 a).symm)
  · rw [show zextV a ((8 : Nat) : Int) = a from zextV_8 a]
theorem own_form {w : World} {base n : Nat} {e : TypeId} {K : Value → Prop} {v : Value} {xs : List Value} (h : Owns w base e 1 K v n xs) : ∃ A cap, v = .slice A n cap := by
  rcases h.1.2 with ⟨rfl, rfl⟩ | ⟨g, cap, cur, rfl, _⟩
  · exact ⟨none, 0, rfl⟩
  · exact ⟨_, cap, rfl⟩
theorem get_got {xs : List Int} : (getE xs = 0 ∧ sizedB xs.length = true ∧ getV xs = numV xs) ∨ ((getE xs = 2 ∨ getE xs = 3) ∧ getV xs = 0) := by
  unfold getE getV
  by_cases h : 8 < xs.length
  · rw [if_pos h, if_pos h]
    exact .inr ⟨.inr rfl, rfl⟩
  · rw [if_neg h, if_neg h]
    cases hs : sizedB xs.length
    · exact .inr ⟨.inl rfl, rfl⟩
    · exact .inl ⟨rfl, rfl, rfl⟩

set_option maxHeartbeats 4000000 in
theorem back_odd_long (a s : Int) (X : Value) (xs : List Int) (w : World) (ha : 0 ≤ a) (ha' : a < 18446744073709551616) (hX : IsBytes w w.heap.size X xs) (hs : sizedB s = false) (h : 40 < xs.length) :
    Calls Try.prog 9 #[.int .u64 a, .int .i64 s, X] w fun e w' => e = .returned (.bool true) ∧ Below w.heap.size w w' := by
  have HS := Lib.hid hs
  have e1 := zextV_not (a := a) hs
  have e2 := sextV_not (a := a) hs
  have Z := Lib.hid (fun w => e1 ▸ zext_any a s w ha ha')
  have X1 := Lib.hid (fun w => e2 ▸ sext_any a s w ha ha')
  clear hs e1 e2
  have hm := hX.lenle
  have h40 : (40 : Int) < (xs.length : Int) := by omega
  obtain ⟨A, cap, rfl⟩ := hX.len
  clear hX
  go_enter Try.func9, Try.ntmps9
  go_wp2_with (first
    | (go_at_call 14; (with_reducible refine (awake_any _).mono ?_); rintro e w0 ⟨rfl, hbl⟩; have R0 := Lib.hid hbl; have hs0 := hbl.size; clear hbl)
    | (go_at_call 16; (with_reducible refine (put_no a s _ HS.out).mono ?_); rintro e w1 ⟨rfl, rfl⟩; have R1 := R0; have hs1 := hs0)
    | (go_at_call 22; (with_reducible refine (Z.out _).mono ?_); rintro e w' ⟨rfl, rfl⟩)
    | (go_at_call 24; (with_reducible refine (X1.out _).mono ?_); rintro e w' ⟨rfl, rfl⟩))
  go_ret
  exact ⟨rfl, R1.out⟩
set_option maxHeartbeats 4000000 in
theorem back_odd_got (a s : Int) (X : Value) (xs : List Int) (w : World) (ha : 0 ≤ a) (ha' : a < 18446744073709551616) (hX : IsBytes w w.heap.size X xs) (hs : sizedB s = false) (h : ¬ 40 < xs.length) (hg : getE xs = 0) (hz : sizedB xs.length = true) (hv : getV xs = numV xs) :
    Calls Try.prog 9 #[.int .u64 a, .int .i64 s, X] w fun e w' => e = .returned (.bool true) ∧ Below w.heap.size w w' := by
  have HS := Lib.hid hs
  have e1 := zextV_not (a := a) hs
  have e2 := sextV_not (a := a) hs
  have Z := Lib.hid (fun w => e1 ▸ zext_any a s w ha ha')
  have X1 := Lib.hid (fun w => e2 ▸ sext_any a s w ha ha')
  clear hs e1 e2
  have h40 : ¬ (40 : Int) < (xs.length : Int) := by omega
  have HX := Lib.hid hX
  have HZ := Lib.hid hz
  have GB := Lib.hid (get_bd hX.1)
  have eb := bytesV_numV xs hX.1
  rw [← hv] at eb
  have EB := Lib.hid eb
  have HG := Lib.hid hg
  clear hz hv eb hg
  obtain ⟨A, cap, rfl⟩ := hX.len
  clear hX
  go_enter Try.func9, Try.ntmps9
  go_wp2_with (first
    | (go_at_call 14; (with_reducible refine (awake_any _).mono ?_); rintro e w0 ⟨rfl, hbl⟩; have R0 := Lib.hid hbl; have hs0 := hbl.size; clear hbl)
    | (go_at_call 16; (with_reducible refine (put_no a s _ HS.out).mono ?_); rintro e w1 ⟨rfl, rfl⟩; have R1 := R0; have hs1 := hs0)
    | (go_at_call 22; (with_reducible refine (Z.out _).mono ?_); rintro e w' ⟨rfl, rfl⟩)
    | (go_at_call 24; (with_reducible refine (X1.out _).mono ?_); rintro e w' ⟨rfl, rfl⟩)
    | (go_at_call 18; refine (HG.out ▸ get_any _ xs _ w.heap.size (HX.out.below R1.out (Nat.le_refl _))).mono ?_; rintro e w' ⟨rfl, rfl⟩)
    | (go_at_call 16; refine (put_yes (getV xs) xs.length _ GB.out.1 GB.out.2 HZ.out).mono ?_; rw [EB.out]; rintro e w2 ⟨v2, rfl, hown, hbl⟩; have O2 := Lib.hid (IsBytes.of_owns hown HX.out.1 (Nat.le_refl _)); have R2 := grow_step R1 hbl; clear hown hbl)
    | (go_at_call 20; refine (sameBytes_yes _ _ xs _ w2.heap.size w.heap.size O2.out (HX.out.below R2.out (Nat.le_refl _))).mono ?_; rintro e w' ⟨rfl, rfl⟩))
  go_ret
  exact ⟨rfl, R2.out⟩
set_option maxHeartbeats 4000000 in
theorem back_odd_bad (a s : Int) (X : Value) (xs : List Int) (w : World) (ha : 0 ≤ a) (ha' : a < 18446744073709551616) (hX : IsBytes w w.heap.size X xs) (hs : sizedB s = false) (h : ¬ 40 < xs.length) (k : Int) (hg : getE xs = k) (hk : (k != 0) = true) (hv : getV xs = 0) :
    Calls Try.prog 9 #[.int .u64 a, .int .i64 s, X] w fun e w' => e = .returned (.bool true) ∧ Below w.heap.size w w' := by
  have HS := Lib.hid hs
  have e1 := zextV_not (a := a) hs
  have e2 := sextV_not (a := a) hs
  have Z := Lib.hid (fun w => e1 ▸ zext_any a s w ha ha')
  have X1 := Lib.hid (fun w => e2 ▸ sext_any a s w ha ha')
  clear hs e1 e2
  have h40 : ¬ (40 : Int) < (xs.length : Int) := by omega
  have HX := Lib.hid hX
  have HG := Lib.hid hg
  have HV := Lib.hid hv
  clear hg hv
  obtain ⟨A, cap, rfl⟩ := hX.len
  clear hX
  go_enter Try.func9, Try.ntmps9
  go_wp2_with (first
    | (go_at_call 14; (with_reducible refine (awake_any _).mono ?_); rintro e w0 ⟨rfl, hbl⟩; have R0 := Lib.hid hbl; have hs0 := hbl.size; clear hbl)
    | (go_at_call 16; (with_reducible refine (put_no a s _ HS.out).mono ?_); rintro e w1 ⟨rfl, rfl⟩; have R1 := R0; have hs1 := hs0)
    | (go_at_call 22; (with_reducible refine (Z.out _).mono ?_); rintro e w' ⟨rfl, rfl⟩)
    | (go_at_call 24; (with_reducible refine (X1.out _).mono ?_); rintro e w' ⟨rfl, rfl⟩)
    | (go_at_call 18; refine (HV.out ▸ HG.out ▸ get_any _ xs _ w.heap.size (HX.out.below R1.out (Nat.le_refl _))).mono ?_; rintro e w' ⟨rfl, rfl⟩))
  go_ret
  exact ⟨rfl, R1.out⟩
set_option maxHeartbeats 4000000 in
theorem back_fit_long (a : Int) (n : Nat) (X : Value) (xs : List Int) (w : World) (ha : 0 ≤ a) (ha' : a < 18446744073709551616) (hX : IsBytes w w.heap.size X xs) (hs : sizedB n = true) (h : 40 < xs.length) :
    Calls Try.prog 9 #[.int .u64 a, .int .i64 n, X] w fun e w' => e = .returned (.bool true) ∧ Below w.heap.size w w' := by
  have HS := Lib.hid hs
  have eg := get_put (n := n) ha ha' hs
  have EG := Lib.hid eg
  have zb := zextV_bd (s := n) ha ha'
  have sbd := sextV_bd (s := n) ha ha'
  have ezs := zext_sext (n := n) ha ha' hs
  have esz := sext_zext (a := a) (n := n) hs
  have Z := Lib.hid (fun w => zext_any a n w ha ha')
  have X1 := Lib.hid (fun w => sext_any a n w ha ha')
  have Z2 := Lib.hid (fun w => ezs ▸ zext_any (sextV a n) n w sbd.1 sbd.2)
  have X2 := Lib.hid (fun w => esz ▸ sext_any (zextV a n) n w zb.1 zb.2)
  clear hs eg zb sbd ezs esz
  have hm := hX.lenle
  have h40 : (40 : Int) < (xs.length : Int) := by omega
  obtain ⟨A, cap, rfl⟩ := hX.len
  clear hX
  go_enter Try.func9, Try.ntmps9
  go_wp2_with (first
    | (go_at_call 14; (with_reducible refine (awake_any _).mono ?_); rintro e w0 ⟨rfl, hbl⟩; have R0 := Lib.hid hbl; have hs0 := hbl.size; clear hbl)
    | (go_at_call 16; (with_reducible refine (put_yes a n _ ha ha' HS.out).mono ?_); rintro e w1 ⟨v1, rfl, hown, hbl⟩; rw [bytesV_len] at hown; obtain ⟨A1, cap1, rfl⟩ := own_form hown; have O1 := Lib.hid (IsBytes.of_owns hown (bytesV_bd a n) (Nat.le_refl _)); have R1 := grow_step R0 hbl; clear hown hbl)
    | (go_at_call 18; (with_reducible refine (EG.out.1 ▸ EG.out.2 ▸ get_any _ (bytesV a n) _ w1.heap.size O1.out).mono ?_); rintro e w' ⟨rfl, rfl⟩)
    | (go_at_call 22; (first | (with_reducible refine (Z.out _).mono ?_) | (with_reducible refine (Z2.out _).mono ?_)); rintro e w' ⟨rfl, rfl⟩)
    | (go_at_call 24; (first | (with_reducible refine (X1.out _).mono ?_) | (with_reducible refine (X2.out _).mono ?_)); rintro e w' ⟨rfl, rfl⟩))
  go_ret
  exact ⟨rfl, R1.out⟩
set_option maxHeartbeats 4000000 in
theorem back_fit_got (a : Int) (n : Nat) (X : Value) (xs : List Int) (w : World) (ha : 0 ≤ a) (ha' : a < 18446744073709551616) (hX : IsBytes w w.heap.size X xs) (hs : sizedB n = true) (h : ¬ 40 < xs.length) (hg : getE xs = 0) (hz : sizedB xs.length = true) (hv : getV xs = numV xs) :
    Calls Try.prog 9 #[.int .u64 a, .int .i64 n, X] w fun e w' => e = .returned (.bool true) ∧ Below w.heap.size w w' := by
  have HS := Lib.hid hs
  have eg := get_put (n := n) ha ha' hs
  have EG := Lib.hid eg
  have zb := zextV_bd (s := n) ha ha'
  have sbd := sextV_bd (s := n) ha ha'
  have ezs := zext_sext (n := n) ha ha' hs
  have esz := sext_zext (a := a) (n := n) hs
  have Z := Lib.hid (fun w => zext_any a n w ha ha')
  have X1 := Lib.hid (fun w => sext_any a n w ha ha')
  have Z2 := Lib.hid (fun w => ezs ▸ zext_any (sextV a n) n w sbd.1 sbd.2)
  have X2 := Lib.hid (fun w => esz ▸ sext_any (zextV a n) n w zb.1 zb.2)
  clear hs eg zb sbd ezs esz
  have h40 : ¬ (40 : Int) < (xs.length : Int) := by omega
  have HX := Lib.hid hX
  have HZ := Lib.hid hz
  have GB := Lib.hid (get_bd hX.1)
  have eb := bytesV_numV xs hX.1
  rw [← hv] at eb
  have EB := Lib.hid eb
  have HG := Lib.hid hg
  clear hz hv eb hg
  obtain ⟨A, cap, rfl⟩ := hX.len
  clear hX
  go_enter Try.func9, Try.ntmps9
  go_wp2_with (first
    | (go_at_call 14; (with_reducible refine (awake_any _).mono ?_); rintro e w0 ⟨rfl, hbl⟩; have R0 := Lib.hid hbl; have hs0 := hbl.size; clear hbl)
    | (go_at_call 16; (with_reducible refine (put_yes a n _ ha ha' HS.out).mono ?_); rintro e w1 ⟨v1, rfl, hown, hbl⟩; rw [bytesV_len] at hown; obtain ⟨A1, cap1, rfl⟩ := own_form hown; have O1 := Lib.hid (IsBytes.of_owns hown (bytesV_bd a n) (Nat.le_refl _)); have R1 := grow_step R0 hbl; clear hown hbl)
    | (go_at_call 18; (with_reducible refine (EG.out.1 ▸ EG.out.2 ▸ get_any _ (bytesV a n) _ w1.heap.size O1.out).mono ?_); rintro e w' ⟨rfl, rfl⟩)
    | (go_at_call 22; (first | (with_reducible refine (Z.out _).mono ?_) | (with_reducible refine (Z2.out _).mono ?_)); rintro e w' ⟨rfl, rfl⟩)
    | (go_at_call 24; (first | (with_reducible refine (X1.out _).mono ?_) | (with_reducible refine (X2.out _).mono ?_)); rintro e w' ⟨rfl, rfl⟩)
    | (go_at_call 18; refine (HG.out ▸ get_any _ xs _ w.heap.size (HX.out.below R1.out (Nat.le_refl _))).mono ?_; rintro e w' ⟨rfl, rfl⟩)
    | (go_at_call 16; refine (put_yes (getV xs) xs.length _ GB.out.1 GB.out.2 HZ.out).mono ?_; rw [EB.out]; rintro e w2 ⟨v2, rfl, hown, hbl⟩; have O2 := Lib.hid (IsBytes.of_owns hown HX.out.1 (Nat.le_refl _)); have R2 := grow_step R1 hbl; clear hown hbl)
    | (go_at_call 20; refine (sameBytes_yes _ _ xs _ w2.heap.size w.heap.size O2.out (HX.out.below R2.out (Nat.le_refl _))).mono ?_; rintro e w' ⟨rfl, rfl⟩))
  go_ret
  exact ⟨rfl, R2.out⟩
set_option maxHeartbeats 4000000 in
theorem back_fit_bad (a : Int) (n : Nat) (X : Value) (xs : List Int) (w : World) (ha : 0 ≤ a) (ha' : a < 18446744073709551616) (hX : IsBytes w w.heap.size X xs) (hs : sizedB n = true) (h : ¬ 40 < xs.length) (k : Int) (hg : getE xs = k) (hk : (k != 0) = true) (hv : getV xs = 0) :
    Calls Try.prog 9 #[.int .u64 a, .int .i64 n, X] w fun e w' => e = .returned (.bool true) ∧ Below w.heap.size w w' := by
  have HS := Lib.hid hs
  have eg := get_put (n := n) ha ha' hs
  have EG := Lib.hid eg
  have zb := zextV_bd (s := n) ha ha'
  have sbd := sextV_bd (s := n) ha ha'
  have ezs := zext_sext (n := n) ha ha' hs
  have esz := sext_zext (a := a) (n := n) hs
  have Z := Lib.hid (fun w => zext_any a n w ha ha')
  have X1 := Lib.hid (fun w => sext_any a n w ha ha')
  have Z2 := Lib.hid (fun w => ezs ▸ zext_any (sextV a n) n w sbd.1 sbd.2)
  have X2 := Lib.hid (fun w => esz ▸ sext_any (zextV a n) n w zb.1 zb.2)
  clear hs eg zb sbd ezs esz
  have h40 : ¬ (40 : Int) < (xs.length : Int) := by omega
  have HX := Lib.hid hX
  have HG := Lib.hid hg
  have HV := Lib.hid hv
  clear hg hv
  obtain ⟨A, cap, rfl⟩ := hX.len
  clear hX
  go_enter Try.func9, Try.ntmps9
  go_wp2_with (first
    | (go_at_call 14; (with_reducible refine (awake_any _).mono ?_); rintro e w0 ⟨rfl, hbl⟩; have R0 := Lib.hid hbl; have hs0 := hbl.size; clear hbl)
    | (go_at_call 16; (with_reducible refine (put_yes a n _ ha ha' HS.out).mono ?_); rintro e w1 ⟨v1, rfl, hown, hbl⟩; rw [bytesV_len] at hown; obtain ⟨A1, cap1, rfl⟩ := own_form hown; have O1 := Lib.hid (IsBytes.of_owns hown (bytesV_bd a n) (Nat.le_refl _)); have R1 := grow_step R0 hbl; clear hown hbl)
    | (go_at_call 18; (with_reducible refine (EG.out.1 ▸ EG.out.2 ▸ get_any _ (bytesV a n) _ w1.heap.size O1.out).mono ?_); rintro e w' ⟨rfl, rfl⟩)
    | (go_at_call 22; (first | (with_reducible refine (Z.out _).mono ?_) | (with_reducible refine (Z2.out _).mono ?_)); rintro e w' ⟨rfl, rfl⟩)
    | (go_at_call 24; (first | (with_reducible refine (X1.out _).mono ?_) | (with_reducible refine (X2.out _).mono ?_)); rintro e w' ⟨rfl, rfl⟩)
    | (go_at_call 18; refine (HV.out ▸ HG.out ▸ get_any _ xs _ w.heap.size (HX.out.below R1.out (Nat.le_refl _))).mono ?_; rintro e w' ⟨rfl, rfl⟩))
  go_ret
  exact ⟨rfl, R1.out⟩
theorem back_any (a s : Int) (X : Value) (xs : List Int) (w : World) (ha : 0 ≤ a) (ha' : a < 18446744073709551616) (hX : IsBytes w w.heap.size X xs) :
    Calls Try.prog 9 #[.int .u64 a, .int .i64 s, X] w fun e w' => e = .returned (.bool true) ∧ Below w.heap.size w w' := by
  cases hs : sizedB s
  · by_cases h : 40 < xs.length
    · exact back_odd_long a s X xs w ha ha' hX hs h
    · rcases get_got (xs := xs) with ⟨h1, h2, h3⟩ | ⟨h1 | h1, h3⟩
      · exact back_odd_got a s X xs w ha ha' hX hs h h1 h2 h3
      · exact back_odd_bad a s X xs w ha ha' hX hs h 2 h1 rfl h3
      · exact back_odd_bad a s X xs w ha ha' hX hs h 3 h1 rfl h3
  · obtain ⟨n, rfl⟩ : ∃ n : Nat, s = n := ⟨s.toNat, by rcases sized_cases hs with h | h | h | h <;> omega⟩
    by_cases h : 40 < xs.length
    · exact back_fit_long a n X xs w ha ha' hX hs h
    · rcases get_got (xs := xs) with ⟨h1, h2, h3⟩ | ⟨h1 | h1, h3⟩
      · exact back_fit_got a n X xs w ha ha' hX hs h h1 h2 h3
      · exact back_fit_bad a n X xs w ha ha' hX hs h 2 h1 rfl h3
      · exact back_fit_bad a n X xs w ha ha' hX hs h 3 h1 rfl h3
end Go.Proofs.Ytnlhebcmebbgkaa
