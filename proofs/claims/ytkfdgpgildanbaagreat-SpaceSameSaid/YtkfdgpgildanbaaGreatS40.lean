import Derived.Test.YtkfdgpgildanbaaGreatRows
import Derived.Test.YtkfdgpgildanbaaGreatS01
import Derived.WalkKit
import Derived.WalkSpells
import Derived.WalkLawsBesides
import Derived.ProofKit
import Derived.Lib.Hide
import Derived.LaidEqlPtr
import Derived.Laws.CopyOwn
namespace Go.Proofs.YtkfdgpgildanbaaGreat
open Go.RowKit
set_option linter.unusedVariables false
structure MemAt (w : World) (mb bb c : Nat) (xs : List Int) : Prop where
  head : w.heap[mb]? = some (.cells #[.pointer (some ⟨mb, 0, none⟩), .slice (some ⟨bb, 0, none⟩) xs.length c] 175 (0, 0))
  row : Row 5 w bb c xs
  bd : ∀ x ∈ xs, 0 ≤ x ∧ x < 256
  lo : 16 ≤ xs.length
  hi : xs.length ≤ 65536
  cap : c ≤ maxLen
theorem MemAt.ne {w : World} {mb bb c : Nat} {xs : List Int} (h : MemAt w mb bb c xs) : mb ≠ bb := by
  intro e
  subst e
  obtain ⟨cur, h1, _⟩ := h.row
  rw [h.head] at h1
  injection h1 with h1
  injection h1 with _ h1 _
  exact absurd h1 (by decide)
theorem MemAt.cell0 {w : World} {mb bb c : Nat} {xs : List Int} (h : MemAt w mb bb c xs) : w.cell? ⟨mb, 0, none⟩ = some (.pointer (some ⟨mb, 0, none⟩)) := by
  rw [cell_of_row w mb 0 _ _ _ h.head]; rfl
theorem MemAt.cell1 {w : World} {mb bb c : Nat} {xs : List Int} (h : MemAt w mb bb c xs) : w.cell? ⟨mb, 1, none⟩ = some (.slice (some ⟨bb, 0, none⟩) xs.length c) := by
  rw [cell_of_row w mb 1 _ _ _ h.head]; rfl
theorem MemAt.but {w w' : World} {mb bb c : Nat} {xs : List Int} {R : Nat → Prop} (h : MemAt w mb bb c xs) (hb : But R w w') (h1 : ¬ R mb) (h2 : ¬ R bb) : MemAt w' mb bb c xs :=
  ⟨hb.heap h.head h1, h.row.but hb h2, h.bd, h.lo, h.hi, h.cap⟩
theorem MemAt.lt {w : World} {mb bb c : Nat} {xs : List Int} (h : MemAt w mb bb c xs) : mb < w.heap.size ∧ bb < w.heap.size := ⟨heap_lt h.head, h.row.lt⟩
theorem MemAt.alloc {w : World} {mb bb c : Nat} {xs : List Int} (h : MemAt w mb bb c xs) (o : Obj) : MemAt (w.alloc o) mb bb c xs := h.but ((But.refl NoBlock _).alloc _) (noBlock_not _) (noBlock_not _)
theorem MemAt.below {w w' : World} {mb bb c : Nat} {xs : List Int} (h : MemAt w mb bb c xs) (hb : Below w.heap.size w w') : MemAt w' mb bb c xs := h.but (But.of_below (R := NoBlock) hb) (noBlock_not _) (noBlock_not _)
def accE (size at' n : Int) : Int := if n < 0 then 2 else if at' < 16 ∨ size < at' ∨ size - at' < n then 15 else 0
def numE (size at' n : Int) : Int := if sizedB n = true then accE size at' n else 2
theorem accE_ok {size at' n : Int} (h0 : 0 ≤ n) (h1 : 16 ≤ at') (h2 : at' ≤ size) (h3 : n ≤ size - at') : accE size at' n = 0 := by unfold accE; rw [if_neg (by omega), if_neg (by omega)]
theorem accE_zero {size at' n : Int} (h : accE size at' n = 0) : 0 ≤ n ∧ 16 ≤ at' ∧ at' ≤ size ∧ n ≤ size - at' := by
  unfold accE at h
  split at h
  · omega
  · split at h <;> omega
theorem numE_zero {size at' n : Int} (h : numE size at' n = 0) : sizedB n = true ∧ 0 ≤ n ∧ 16 ≤ at' ∧ at' ≤ size ∧ n ≤ size - at' := by
  unfold numE at h
  split at h
  · exact ⟨by assumption, accE_zero h⟩
  · omega
theorem mem_info : ∃ j, Tryz.prog.info? 175 = some j := Option.isSome_iff_exists.1 (by kernel_rfl)
theorem eql_self (a : Addr) (w : World) : (binOp .eql 71 (.pointer (some a)) (.pointer (some a))).run Tryz.prog w = .ok (.bool true) w := by
  obtain ⟨j, hj⟩ := mem_info
  exact run_eql_ptr_same w a Tryz.underlying71 hj
theorem valid_yes {mb bb c : Nat} {xs : List Int} {w : World} (h : MemAt w mb bb c xs) :
    Calls Tryz.prog 132 #[.pointer (some ⟨mb, 0, none⟩)] w fun e w' => e = .returned (.bool true) ∧ w = w' := by
  have h0 := h.cell0
  have he := eql_self
  clear h
  go_enter Tryz.func132, Tryz.ntmps132
  go_wp2
  go_ret
  exact ⟨rfl, rfl⟩
theorem checkBytes_any {mb bb c : Nat} {xs : List Int} {w : World} (h : MemAt w mb bb c xs) (a n : Int) (ha : 0 ≤ a) (ha' : a < 18446744073709551616) (hn' : n < 9223372036854775808) :
    Calls Tryz.prog 110 #[.pointer (some ⟨mb, 0, none⟩), .int .u64 a, .int .i64 n] w fun e w' => e = .returned (.int .i64 (accE xs.length a n)) ∧ w = w' := by
  have h1 := h.cell1
  have hl := h.hi
  obtain ⟨L, hL⟩ : ∃ L, L = xs.length := ⟨_, rfl⟩
  rw [← hL] at h1 hl ⊢
  clear h hL
  by_cases c1 : n < 0
  · rw [show accE L a n = 2 by unfold accE; rw [if_pos c1]]
    go_enter Tryz.func110, Tryz.ntmps110
    go_wp2
    go_ret
    exact ⟨rfl, rfl⟩
  have c1' : 0 ≤ n := by omega
  by_cases c2 : a < 16
  · rw [show accE L a n = 15 by unfold accE; rw [if_neg c1, if_pos (by omega)]]
    clear c1
    go_enter Tryz.func110, Tryz.ntmps110
    go_wp2
    go_ret
    exact ⟨rfl, rfl⟩
  by_cases c3 : (L : Int) < a
  · rw [show accE L a n = 15 by unfold accE; rw [if_neg c1, if_pos (by omega)]]
    have c2' : 16 ≤ a := by omega
    clear c1 c2
    go_enter Tryz.func110, Tryz.ntmps110
    go_wp2
    go_ret
    exact ⟨rfl, rfl⟩
  have c2' : 16 ≤ a := by omega
  have c3' : a ≤ (L : Int) := by omega
  by_cases c4 : (L : Int) - a < n
  · rw [show accE L a n = 15 by unfold accE; rw [if_neg c1, if_pos (by omega)]]
    clear c1 c2 c3
    go_enter Tryz.func110, Tryz.ntmps110
    go_wp2
    go_ret
    exact ⟨rfl, rfl⟩
  rw [show accE L a n = 0 by unfold accE; rw [if_neg c1, if_neg (by omega)]]
  have c4' : n ≤ (L : Int) - a := by omega
  clear c1 c2 c3 c4
  go_enter Tryz.func110, Tryz.ntmps110
  go_wp2
  go_ret
  exact ⟨rfl, rfl⟩
end Go.Proofs.YtkfdgpgildanbaaGreat
namespace Go.Proofs.YtkfdgpgildanbaaGreat
open Go.RowKit
set_option linter.unusedVariables false
theorem cut_eq {bb k m m' : Nat} (h : m' = m) : Ending.returned (.tuple #[.slice (some ⟨bb, k, none⟩) m' m', .int .i64 0]) = .returned (.tuple #[.slice (some ⟨bb, k, none⟩) m m, .int .i64 0]) := by rw [h]
theorem checkNumber_any {mb bb c : Nat} {xs : List Int} {w : World} (h : MemAt w mb bb c xs) (a n : Int) (ha : 0 ≤ a) (ha' : a < 18446744073709551616) (hn' : n < 9223372036854775808) :
    Calls Tryz.prog 111 #[.pointer (some ⟨mb, 0, none⟩), .int .u64 a, .int .i64 n] w fun e w' => e = .returned (.int .i64 (numE xs.length a n)) ∧ w = w' := by
  have HC := Lib.hid (checkBytes_any h a n ha ha' hn')
  have hE : ∀ z, numE xs.length a z = if sizedB z = true then accE xs.length a z else 2 := fun _ => rfl
  cases hs : sizedB n
  · rw [hE, if_neg (by simp [hs])]
    obtain ⟨h1, h2, h4, h8⟩ := sized_not hs
    have b1 : (n == 1) = false := by simpa using h1
    have b2 : (n == 2) = false := by simpa using h2
    have b4 : (n == 4) = false := by simpa using h4
    have b8 : (n == 8) = false := by simpa using h8
    clear hE h1 h2 h4 h8 hs h
    go_enter Tryz.func111, Tryz.ntmps111
    go_wp2
    go_ret
    exact ⟨rfl, rfl⟩
  · rw [hE, if_pos hs]
    clear hE h
    rcases sized_cases hs with rfl | rfl | rfl | rfl
    all_goals
      clear hs
      go_enter Tryz.func111, Tryz.ntmps111
      go_wp2_with (go_at_call 110; (with_reducible refine HC.out.mono ?_); rintro e w' ⟨rfl, rfl⟩)
      go_ret
      exact ⟨rfl, rfl⟩
theorem cutB_bad {mb bb c : Nat} {xs : List Int} {w : World} (h : MemAt w mb bb c xs) (a n : Int) (ha : 0 ≤ a) (ha' : a < 18446744073709551616) (hn' : n < 9223372036854775808) (he : accE xs.length a n ≠ 0) :
    Calls Tryz.prog 109 #[.pointer (some ⟨mb, 0, none⟩), .int .u64 a, .int .i64 n, .func (.func 110) #[.pointer (some ⟨mb, 0, none⟩)] #[]] w fun e w' => e = .returned (.tuple #[.slice none 0 0, .int .i64 (accE xs.length a n)]) ∧ w = w' := by
  have HV := Lib.hid (valid_yes h)
  have HC := Lib.hid (checkBytes_any h a n ha ha' hn')
  obtain ⟨E, hE⟩ : ∃ E, E = accE xs.length a n := ⟨_, rfl⟩
  rw [← hE] at HC he ⊢
  have he' : (E == 0) = false := by simpa using he
  clear h hE he
  go_enter Tryz.func109, Tryz.ntmps109
  go_wp2_with (first
    | (go_at_call 132; (with_reducible refine HV.out.mono ?_); rintro e w' ⟨rfl, rfl⟩)
    | (go_at_call 110; (with_reducible refine HC.out.mono ?_); rintro e w' ⟨rfl, rfl⟩))
  go_ret2
  exact ⟨rfl, rfl⟩
theorem cutB_ok {mb bb c : Nat} {xs : List Int} {w : World} (h : MemAt w mb bb c xs) (k m : Nat) (hk : 16 ≤ k) (hkm : k + m ≤ xs.length) (hm : 0 < m) :
    Calls Tryz.prog 109 #[.pointer (some ⟨mb, 0, none⟩), .int .u64 k, .int .i64 m, .func (.func 110) #[.pointer (some ⟨mb, 0, none⟩)] #[]] w fun e w' => e = .returned (.tuple #[.slice (some ⟨bb, k, none⟩) m m, .int .i64 0]) ∧ w = w' := by
  have hl := h.hi
  have HV := Lib.hid (valid_yes h)
  have hc := checkBytes_any h k m (by omega) (by omega) (by omega)
  rw [show accE xs.length k m = 0 by rw [accE_ok (by omega) (by omega) (by omega) (by omega)]] at hc
  have HC := Lib.hid hc
  have h1 := h.cell1
  have hcap := h.cap
  have hrow : xs.length ≤ c := by obtain ⟨_, _, _, _, h4⟩ := h.row; exact h4
  unfold maxLen at hcap
  obtain ⟨L, hL⟩ : ∃ L, L = xs.length := ⟨_, rfl⟩
  rw [← hL] at h1 hl hkm hrow
  clear h hL hc
  go_enter Tryz.func109, Tryz.ntmps109
  go_wp2_with (first
    | (go_at_call 132; (with_reducible refine HV.out.mono ?_); rintro e w' ⟨rfl, rfl⟩)
    | (go_at_call 110; (with_reducible refine HC.out.mono ?_); rintro e w' ⟨rfl, rfl⟩))
  go_ret2
  exact ⟨cut_eq (by omega), rfl⟩
theorem cutN_bad {mb bb c : Nat} {xs : List Int} {w : World} (h : MemAt w mb bb c xs) (a n : Int) (ha : 0 ≤ a) (ha' : a < 18446744073709551616) (hn' : n < 9223372036854775808) (he : numE xs.length a n ≠ 0) :
    Calls Tryz.prog 109 #[.pointer (some ⟨mb, 0, none⟩), .int .u64 a, .int .i64 n, .func (.func 111) #[.pointer (some ⟨mb, 0, none⟩)] #[]] w fun e w' => e = .returned (.tuple #[.slice none 0 0, .int .i64 (numE xs.length a n)]) ∧ w = w' := by
  have HV := Lib.hid (valid_yes h)
  have HC := Lib.hid (checkNumber_any h a n ha ha' hn')
  obtain ⟨E, hE⟩ : ∃ E, E = numE xs.length a n := ⟨_, rfl⟩
  rw [← hE] at HC he ⊢
  have he' : (E == 0) = false := by simpa using he
  clear h hE he
  go_enter Tryz.func109, Tryz.ntmps109
  go_wp2_with (first
    | (go_at_call 132; (with_reducible refine HV.out.mono ?_); rintro e w' ⟨rfl, rfl⟩)
    | (go_at_call 111; (with_reducible refine HC.out.mono ?_); rintro e w' ⟨rfl, rfl⟩))
  go_ret2
  exact ⟨rfl, rfl⟩
theorem cutN_ok {mb bb c : Nat} {xs : List Int} {w : World} (h : MemAt w mb bb c xs) (k m : Nat) (hk : 16 ≤ k) (hkm : k + m ≤ xs.length) (hs : sizedB m = true) (hm : 0 < m) :
    Calls Tryz.prog 109 #[.pointer (some ⟨mb, 0, none⟩), .int .u64 k, .int .i64 m, .func (.func 111) #[.pointer (some ⟨mb, 0, none⟩)] #[]] w fun e w' => e = .returned (.tuple #[.slice (some ⟨bb, k, none⟩) m m, .int .i64 0]) ∧ w = w' := by
  have hl := h.hi
  have HV := Lib.hid (valid_yes h)
  have hc := checkNumber_any h k m (by omega) (by omega) (by omega)
  rw [show numE xs.length k m = 0 by unfold numE; rw [if_pos hs, accE_ok (by omega) (by omega) (by omega) (by omega)]] at hc
  have HC := Lib.hid hc
  have h1 := h.cell1
  have hcap := h.cap
  have hrow : xs.length ≤ c := by obtain ⟨_, _, _, _, h4⟩ := h.row; exact h4
  unfold maxLen at hcap
  obtain ⟨L, hL⟩ : ∃ L, L = xs.length := ⟨_, rfl⟩
  rw [← hL] at h1 hl hkm hrow
  clear h hL hc
  go_enter Tryz.func109, Tryz.ntmps109
  go_wp2_with (first
    | (go_at_call 132; (with_reducible refine HV.out.mono ?_); rintro e w' ⟨rfl, rfl⟩)
    | (go_at_call 111; (with_reducible refine HC.out.mono ?_); rintro e w' ⟨rfl, rfl⟩))
  go_ret2
  exact ⟨cut_eq (by omega), rfl⟩
theorem cutB_nil {mb bb c : Nat} {xs : List Int} {w : World} (h : MemAt w mb bb c xs) (k : Nat) (hk : 16 ≤ k) (hkm : k ≤ xs.length) :
    Calls Tryz.prog 109 #[.pointer (some ⟨mb, 0, none⟩), .int .u64 k, .int .i64 0, .func (.func 110) #[.pointer (some ⟨mb, 0, none⟩)] #[]] w fun e w' => e = .returned (.tuple #[.slice (some ⟨bb, 0, none⟩) 0 0, .int .i64 0]) ∧ w = w' := by
  have hl := h.hi
  have HV := Lib.hid (valid_yes h)
  have hc := checkBytes_any h k 0 (by omega) (by omega) (by omega)
  rw [show accE xs.length k 0 = 0 by rw [accE_ok (by omega) (by omega) (by omega) (by omega)]] at hc
  have HC := Lib.hid hc
  have h1 := h.cell1
  have hcap := h.cap
  have hrow : xs.length ≤ c := by obtain ⟨_, _, _, _, h4⟩ := h.row; exact h4
  unfold maxLen at hcap
  obtain ⟨L, hL⟩ : ∃ L, L = xs.length := ⟨_, rfl⟩
  rw [← hL] at h1 hl hkm hrow
  clear h hL hc
  go_enter Tryz.func109, Tryz.ntmps109
  go_wp2_with (first
    | (go_at_call 132; (with_reducible refine HV.out.mono ?_); rintro e w' ⟨rfl, rfl⟩)
    | (go_at_call 110; (with_reducible refine HC.out.mono ?_); rintro e w' ⟨rfl, rfl⟩))
  go_ret2
  exact ⟨by simp, rfl⟩
end Go.Proofs.YtkfdgpgildanbaaGreat
namespace Go.Proofs.YtkfdgpgildanbaaGreat
open Go.RowKit
set_option linter.unusedVariables false
def partL (xs : List Int) (a n : Int) : List Int := (xs.drop a.toNat).take n.toNat
def loadV (xs : List Int) (a n : Int) : Int := if numE xs.length a n = 0 then numV (partL xs a n) else 0
def storeL (xs : List Int) (a n v : Int) : List Int := if numE xs.length a n = 0 then layL xs a.toNat (bytesV v n.toNat) else xs
def bytesL (xs : List Int) (a n : Int) : List Int := if accE xs.length a n = 0 then partL xs a n else []
def layB (xs : List Int) (a : Int) (ys : List Int) : List Int := if accE xs.length a ys.length = 0 then layL xs a.toNat ys else xs
theorem partL_len {xs : List Int} {k m : Nat} (h : k + m ≤ xs.length) : (partL xs k m).length = m := by simp [partL]; omega
theorem partL_nat (xs : List Int) (k m : Nat) : partL xs k m = (xs.drop k).take m := by simp [partL]
theorem nat_of {a : Int} (h : 0 ≤ a) : ∃ k : Nat, a = k := Int.eq_ofNat_of_zero_le h
theorem getV_sized {xs : List Int} (h : sizedB xs.length = true) : getV xs = numV xs ∧ getE xs = 0 := by
  have : ¬ 8 < xs.length := by rcases sized_cases h with h | h | h | h <;> omega
  unfold getV getE
  rw [if_neg this, if_neg this, if_pos h, if_pos h]
  exact ⟨rfl, rfl⟩
theorem u8_size : (Tryz.prog.info? 5).map (·.size) = some 1 := by kernel_rfl
theorem load_bad {mb bb c : Nat} {xs : List Int} {w : World} (h : MemAt w mb bb c xs) (a n : Int) (ha : 0 ≤ a) (ha' : a < 18446744073709551616) (hn' : n < 9223372036854775808) (he : numE xs.length a n ≠ 0) :
    Calls Tryz.prog 52 #[.pointer (some ⟨mb, 0, none⟩), .int .u64 a, .int .i64 n] w fun e w' => e = .returned (.tuple #[.int .u64 0, .int .i64 (numE xs.length a n)]) ∧ w = w' := by
  have HC := Lib.hid (cutN_bad h a n ha ha' hn' he)
  obtain ⟨E, hE⟩ : ∃ E, E = numE xs.length a n := ⟨_, rfl⟩
  rw [← hE] at HC he ⊢
  have he' : (E != 0) = true := by simpa using he
  clear h hE he
  go_enter Tryz.func52, Tryz.ntmps52
  go_wp2_with (go_at_call 109; (with_reducible refine HC.out.mono ?_); rintro e w' ⟨rfl, rfl⟩)
  go_ret2
  exact ⟨rfl, rfl⟩
theorem load_ok {mb bb c : Nat} {xs : List Int} {w : World} (h : MemAt w mb bb c xs) (k m : Nat) (hk : 16 ≤ k) (hkm : k + m ≤ xs.length) (hs : sizedB m = true) :
    Calls Tryz.prog 52 #[.pointer (some ⟨mb, 0, none⟩), .int .u64 k, .int .i64 m] w fun e w' => e = .returned (.tuple #[.int .u64 (numV (partL xs k m)), .int .i64 0]) ∧ w = w' := by
  have hm : 0 < m := by rcases sized_cases hs with h | h | h | h <;> omega
  have hl := h.hi
  have HC := Lib.hid (cutN_ok h k m hk hkm hs hm)
  have hB := h.row.bytes h.bd h.row.lt hkm (Nat.le_refl m) (by unfold maxLen; omega)
  have hg := get_any _ _ w _ hB
  have hlen : ((xs.drop k).take m).length = m := by simp; omega
  have hgs := getV_sized (xs := (xs.drop k).take m) (by rw [hlen]; exact hs)
  rw [hgs.1, hgs.2, ← partL_nat] at hg
  have HG := Lib.hid hg
  obtain ⟨z, hz⟩ : ∃ z, z = numV (partL xs k m) := ⟨_, rfl⟩
  rw [← hz] at HG ⊢
  clear h hB hg hgs hz hlen hs
  go_enter Tryz.func52, Tryz.ntmps52
  go_wp2_with (first
    | (go_at_call 109; (with_reducible refine HC.out.mono ?_); rintro e w' ⟨rfl, rfl⟩)
    | (go_at_call 115; (with_reducible refine HG.out.mono ?_); rintro e w' ⟨rfl, rfl⟩))
  go_ret2
  exact ⟨rfl, rfl⟩
theorem load_any {mb bb c : Nat} {xs : List Int} {w : World} (h : MemAt w mb bb c xs) (a n : Int) (ha : 0 ≤ a) (ha' : a < 18446744073709551616) (hn' : n < 9223372036854775808) :
    Calls Tryz.prog 52 #[.pointer (some ⟨mb, 0, none⟩), .int .u64 a, .int .i64 n] w fun e w' => e = .returned (.tuple #[.int .u64 (loadV xs a n), .int .i64 (numE xs.length a n)]) ∧ w = w' := by
  by_cases he : numE xs.length a n = 0
  · obtain ⟨hs, h0, h1, h2, h3⟩ := numE_zero he
    unfold loadV
    rw [if_pos he, he]
    obtain ⟨k, rfl⟩ := nat_of ha
    obtain ⟨m, rfl⟩ := nat_of h0
    exact load_ok h k m (by omega) (by omega) hs
  · unfold loadV
    rw [if_neg he]
    exact load_bad h a n ha ha' hn' he
def StoreDone (w : World) (mb bb c : Nat) (xs' : List Int) (E : Int) (e : Ending) (w' : World) : Prop :=
  e = .returned (.int .i64 E) ∧ MemAt w' mb bb c xs' ∧ But (OneBlock bb) w w'
theorem store_bad {mb bb c : Nat} {xs : List Int} {w : World} (h : MemAt w mb bb c xs) (a n v : Int) (ha : 0 ≤ a) (ha' : a < 18446744073709551616) (hn' : n < 9223372036854775808) (he : numE xs.length a n ≠ 0) :
    Calls Tryz.prog 48 #[.pointer (some ⟨mb, 0, none⟩), .int .u64 a, .int .i64 n, .int .u64 v] w fun e w' => e = .returned (.int .i64 (numE xs.length a n)) ∧ w = w' := by
  have HC := Lib.hid (cutN_bad h a n ha ha' hn' he)
  obtain ⟨E, hE⟩ : ∃ E, E = numE xs.length a n := ⟨_, rfl⟩
  rw [← hE] at HC he ⊢
  have he' : (E != 0) = true := by simpa using he
  clear h hE he
  go_enter Tryz.func48, Tryz.ntmps48
  go_wp2_with (go_at_call 109; (with_reducible refine HC.out.mono ?_); rintro e w' ⟨rfl, rfl⟩)
  go_ret
  exact ⟨rfl, rfl⟩
theorem MemAt.lay {w : World} {mb bb c : Nat} {xs ys : List Int} {a : Nat} (h : MemAt w mb bb c xs) (ha : a + ys.length ≤ xs.length) (hy : ∀ y ∈ ys, 0 ≤ y ∧ y < 256) {cur : Array Value} (hc : w.heap[bb]? = some (.cells cur 5 (0, 0))) :
    MemAt (w.setRow bb (cur.toList.take a ++ (ys.map (Value.int .u8) ++ cur.toList.drop (a + ys.length))).toArray) mb bb c (layL xs a ys) := by
  refine ⟨?_, h.row.lay ha hc, layL_bd a h.bd hy, by rw [layL_len ha]; exact h.lo, by rw [layL_len ha]; exact h.hi, h.cap⟩
  rw [setRow_other w bb mb _ h.ne, layL_len ha]
  exact h.head
theorem owns_cells {w : World} {base : Nat} {e : TypeId} {K : Value → Prop} {v : Value} {n : Nat} {xs : List Value} (h : Owns w base e 1 K v n xs) (hn : 0 < n) :
    ∃ g cap, v = .slice (some ⟨g, 0, none⟩) n cap ∧ base ≤ g ∧ g < w.heap.size ∧ ∀ j u, xs[j]? = some u → w.cell? ((⟨g, 0, none⟩ : Addr).add j) = some u := by
  rcases h.1.2 with ⟨rfl, h0⟩ | ⟨g, cap, cur, rfl, h1, h2, h3, h4, h5, h6⟩
  · omega
  · exact ⟨g, cap, rfl, h1, heap_lt h2, h.1.cells (g := g) rfl⟩
set_option maxHeartbeats 1000000 in
theorem store_ok {mb bb c : Nat} {xs : List Int} {w : World} (h : MemAt w mb bb c xs) (k m : Nat) (v : Int) (hv : 0 ≤ v) (hv' : v < 18446744073709551616) (hk : 16 ≤ k) (hkm : k + m ≤ xs.length) (hs : sizedB m = true) :
    Calls Tryz.prog 48 #[.pointer (some ⟨mb, 0, none⟩), .int .u64 k, .int .i64 m, .int .u64 v] w (StoreDone w mb bb c (layL xs k (bytesV v m)) 0) := by
  have hm : 0 < m := by rcases sized_cases hs with h | h | h | h <;> omega
  have hl := h.hi
  have HC := Lib.hid (cutN_ok h k m hk hkm hs hm)
  have HP := Lib.hid (put_yes v m w hv hv' hs)
  have HM := Lib.hid h
  clear h hs
  go_enter Tryz.func48, Tryz.ntmps48
  go_wp2_with (first
    | (go_at_call 109; (with_reducible refine HC.out.mono ?_); rintro e w' ⟨rfl, rfl⟩)
    | (go_at_call 112; refine HP.out.mono ?_; rintro e w1 ⟨q, rfl, hown, hbel⟩; rw [bytesV_len] at hown; obtain ⟨g, cap, rfl, g1, g2, g3⟩ := owns_cells hown hm; have hm1 := HM.out.but (But.of_below (R := NoBlock) hbel) (noBlock_not _) (noBlock_not _); obtain ⟨cur, hcur, hsz, htk, hcl⟩ := hm1.row; have HM1 := Lib.hid hm1; have HCUR := Lib.hid hcur; have HSZ := Lib.hid hsz; have HG3 := Lib.hid g3; have HB := Lib.hid hbel; clear hown hbel hm1 hcur hsz htk g3)
    | (with_reducible refine wpList_copy_own rfl (.tmp 30) (.tmp 31) 22 22 rfl 5 Tryz.underlying22 u8_size bb k m m ⟨g, 0, none⟩ m cap rfl rfl cur 5 HCUR.out ((bytesV v m).map (Value.int .u8)) (by simp [bytesV_len]) HG3.out (by simp [bytesV_len, HSZ.out]; omega) (ints_oneCell _ _) ?_))
  go_ret
  refine ⟨rfl, HM1.out.lay (by rw [bytesV_len]; exact hkm) (bytesV_bd v m) HCUR.out, ?_⟩
  exact (But.of_below (R := OneBlock bb) HB.out).setRow (.inl rfl) _
theorem store_any {mb bb c : Nat} {xs : List Int} {w : World} (h : MemAt w mb bb c xs) (a n v : Int) (ha : 0 ≤ a) (ha' : a < 18446744073709551616) (hn' : n < 9223372036854775808) (hv : 0 ≤ v) (hv' : v < 18446744073709551616) :
    Calls Tryz.prog 48 #[.pointer (some ⟨mb, 0, none⟩), .int .u64 a, .int .i64 n, .int .u64 v] w (StoreDone w mb bb c (storeL xs a n v) (numE xs.length a n)) := by
  by_cases he : numE xs.length a n = 0
  · obtain ⟨hs, h0, h1, h2, h3⟩ := numE_zero he
    unfold storeL
    rw [if_pos he, he]
    obtain ⟨k, rfl⟩ := nat_of ha
    obtain ⟨m, rfl⟩ := nat_of h0
    exact store_ok h k m v hv hv' (by omega) (by omega) hs
  · unfold storeL
    rw [if_neg he]
    exact (store_bad h a n v ha ha' hn' he).mono fun e w' ⟨h1, h2⟩ => by subst h2; exact ⟨h1, h, But.refl _ _⟩
end Go.Proofs.YtkfdgpgildanbaaGreat
