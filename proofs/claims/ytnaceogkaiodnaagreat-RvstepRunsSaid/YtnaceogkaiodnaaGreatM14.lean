/- Own lemmas. -/
import Derived.Test.YtnaceogkaiodnaaGreatM1
import Derived.Test.YtnaceogkaiodnaaGreatM2
import Derived.Test.YtnaceogkaiodnaaGreatM3
import Derived.Test.YtnaceogkaiodnaaGreatM4
import Derived.Test.YtnaceogkaiodnaaGreatM5
import Derived.Test.YtnaceogkaiodnaaGreatM6
import Derived.Test.YtnaceogkaiodnaaGreatM7
import Derived.Test.YtnaceogkaiodnaaGreatM8
import Derived.Test.YtnaceogkaiodnaaGreatM9
import Derived.Test.YtnaceogkaiodnaaGreatM10
import Derived.Test.YtnaceogkaiodnaaGreatM11
import Derived.Test.YtnaceogkaiodnaaGreatM12
import Derived.Test.YtnaceogkaiodnaaGreatM13
set_option linter.unusedVariables false
set_option linter.unusedSimpArgs false
namespace Go.Proofs.YtnaceogkaiodnaaGreat
open Go.RowKit
theorem sg_bd {a : Int} (h : 0 ≤ a) (h' : a < 18446744073709551616) : -9223372036854775808 ≤ sg a ∧ sg a < 9223372036854775808 := by
  unfold sg
  split <;> omega
end Go.Proofs.YtnaceogkaiodnaaGreat
namespace Go.Proofs.YtnaceogkaiodnaaGreat
open Go.RowKit
theorem sg_mod {a : Int} (h : 0 ≤ a) (h' : a < 18446744073709551616) : sg a % 18446744073709551616 = a := by
  unfold sg
  split <;> omega
end Go.Proofs.YtnaceogkaiodnaaGreat
namespace Go.Proofs.YtnaceogkaiodnaaGreat
open Go.RowKit
/-- What the document's way, by sizes and signs, makes of a division. -/
def magV (a : Int) : Int := if a < 9223372036854775808 then a else 18446744073709551616 - a
end Go.Proofs.YtnaceogkaiodnaaGreat
namespace Go.Proofs.YtnaceogkaiodnaaGreat
open Go.RowKit
theorem mag_bd {a : Int} (h : 0 ≤ a) (h' : a < 18446744073709551616) : 0 ≤ magV a ∧ magV a ≤ 9223372036854775808 := by
  unfold magV
  split <;> omega
end Go.Proofs.YtnaceogkaiodnaaGreat
namespace Go.Proofs.YtnaceogkaiodnaaGreat
open Go.RowKit
theorem sg_mag {a : Int} : sg a = if a < 9223372036854775808 then magV a else - magV a := by
  unfold sg magV
  split <;> omega
end Go.Proofs.YtnaceogkaiodnaaGreat
namespace Go.Proofs.YtnaceogkaiodnaaGreat
open Go.RowKit
theorem divV_same {a b : Int} (ha : 0 ≤ a) (ha' : a < 18446744073709551616) (hb : 0 < b) (hb' : b < 18446744073709551616) (hs : (a < 9223372036854775808) = (b < 9223372036854775808)) :
    divV a b = magV a / magV b := by
  have h1 := mag_bd ha ha'
  have h2 := mag_bd (a := b) (by omega) hb'
  have h3 : 0 < magV b := by unfold magV; split <;> omega
  have h4 := ediv_bd h1.1 h3
  unfold divV
  rw [if_neg (by omega), sg_mag, sg_mag]
  by_cases hc : b < 9223372036854775808
  · rw [if_pos hc, if_pos (by rw [hs]; exact hc), Int.tdiv_eq_ediv_of_nonneg h1.1]; omega
  · rw [if_neg hc, if_neg (by rw [hs]; exact hc), Int.neg_tdiv, Int.tdiv_neg, Int.tdiv_eq_ediv_of_nonneg h1.1]; omega
end Go.Proofs.YtnaceogkaiodnaaGreat
namespace Go.Proofs.YtnaceogkaiodnaaGreat
open Go.RowKit
theorem divV_other {a b : Int} (ha : 0 ≤ a) (ha' : a < 18446744073709551616) (hb : 0 < b) (hb' : b < 18446744073709551616) (hs : (a < 9223372036854775808) ≠ (b < 9223372036854775808)) :
    divV a b = (0 - magV a / magV b) % 18446744073709551616 := by
  have h1 := mag_bd ha ha'
  unfold divV
  rw [if_neg (by omega), sg_mag, sg_mag]
  by_cases hc : b < 9223372036854775808
  · have hd : ¬ a < 9223372036854775808 := fun h => hs (by simp [h, hc])
    rw [if_pos hc, if_neg hd, Int.neg_tdiv, Int.tdiv_eq_ediv_of_nonneg h1.1]; omega
  · have hd : a < 9223372036854775808 := by
      apply Classical.byContradiction
      intro h
      exact hs (by simp [h, hc])
    rw [if_neg hc, if_pos hd, Int.tdiv_neg, Int.tdiv_eq_ediv_of_nonneg h1.1]; omega
end Go.Proofs.YtnaceogkaiodnaaGreat
namespace Go.Proofs.YtnaceogkaiodnaaGreat
open Go.RowKit
theorem remV_up {a b : Int} (ha : 0 ≤ a) (ha' : a < 9223372036854775808) (hb : 0 < b) (hb' : b < 18446744073709551616) : remV a b = magV a % magV b := by
  have h1 := mag_bd ha (by omega)
  have h2 := mag_bd (a := b) (by omega) hb'
  have h3 : 0 < magV b := by unfold magV; split <;> omega
  have h4 := emod_bd (a := magV a) h3
  unfold remV
  rw [if_neg (by omega), sg_mag, sg_mag, if_pos ha']
  by_cases hc : b < 9223372036854775808
  · rw [if_pos hc, Int.tmod_eq_emod_of_nonneg h1.1]; omega
  · rw [if_neg hc, Int.tmod_neg, Int.tmod_eq_emod_of_nonneg h1.1]; omega
end Go.Proofs.YtnaceogkaiodnaaGreat
namespace Go.Proofs.YtnaceogkaiodnaaGreat
open Go.RowKit
theorem remV_down {a b : Int} (ha : 9223372036854775808 ≤ a) (ha' : a < 18446744073709551616) (hb : 0 < b) (hb' : b < 18446744073709551616) : remV a b = (0 - magV a % magV b) % 18446744073709551616 := by
  have h1 := mag_bd (a := a) (by omega) (by omega)
  unfold remV
  rw [if_neg (by omega), sg_mag, sg_mag, if_neg (by omega)]
  by_cases hc : b < 9223372036854775808
  · rw [if_pos hc, Int.neg_tmod, Int.tmod_eq_emod_of_nonneg h1.1]; omega
  · rw [if_neg hc, Int.neg_tmod, Int.tmod_neg, Int.tmod_eq_emod_of_nonneg h1.1]; omega
end Go.Proofs.YtnaceogkaiodnaaGreat
namespace Go.Proofs.YtnaceogkaiodnaaGreat
open Go.RowKit
theorem minus_mag {a : Int} (h : 9223372036854775808 ≤ a) (h' : a < 18446744073709551616) : (0 - a) % 18446744073709551616 = magV a := by
  unfold magV
  rw [if_neg (by omega)]
  omega
end Go.Proofs.YtnaceogkaiodnaaGreat
namespace Go.Proofs.YtnaceogkaiodnaaGreat
open Go.RowKit
theorem mag_up {a : Int} (h : a < 9223372036854775808) : magV a = a := by unfold magV; rw [if_pos h]
end Go.Proofs.YtnaceogkaiodnaaGreat
namespace Go.Proofs.YtnaceogkaiodnaaGreat
open Go.RowKit
theorem mag_pos {a : Int} (h : 0 < a) (h' : a < 18446744073709551616) : 0 < magV a := by unfold magV; split <;> omega

end Go.Proofs.YtnaceogkaiodnaaGreat
namespace Go.Proofs.YtnaceogkaiodnaaGreat
open Go.RowKit
theorem shrV_zero (a : Int) : shrV a 0 = a := by unfold shrV; simp
end Go.Proofs.YtnaceogkaiodnaaGreat
namespace Go.Proofs.YtnaceogkaiodnaaGreat
open Go.RowKit
theorem shrV_succ (a : Int) (n : Nat) : shrV a (n + 1) = shrV a n / 2 := by
  unfold shrV
  rw [Int.pow_succ, Int.ediv_mul_of_nonneg (by have := pow_pos' n; omega)]
end Go.Proofs.YtnaceogkaiodnaaGreat
namespace Go.Proofs.YtnaceogkaiodnaaGreat
open Go.RowKit
theorem shlV_zero {a : Int} (h : 0 ≤ a) (h' : a < 18446744073709551616) : shlV a 0 = a := by unfold shlV; simp; omega
end Go.Proofs.YtnaceogkaiodnaaGreat
namespace Go.Proofs.YtnaceogkaiodnaaGreat
open Go.RowKit
theorem shlV_succ (a : Int) (n : Nat) : shlV a (n + 1) = shlV a n * 2 % 18446744073709551616 := by
  unfold shlV
  rw [Int.pow_succ, ← Int.mul_assoc]
  generalize a * 2 ^ n = x
  omega
end Go.Proofs.YtnaceogkaiodnaaGreat
namespace Go.Proofs.YtnaceogkaiodnaaGreat
open Go.RowKit
theorem sarV_zero {a : Int} (h : 0 ≤ a) (h' : a < 18446744073709551616) : sarV a 0 = a := by
  unfold sarV
  rw [Int.pow_zero, Int.ediv_one, sg_mod h h']
end Go.Proofs.YtnaceogkaiodnaaGreat
namespace Go.Proofs.YtnaceogkaiodnaaGreat
open Go.RowKit
theorem sg_shr_bd {a : Int} (h : 0 ≤ a) (h' : a < 18446744073709551616) (n : Nat) : -9223372036854775808 ≤ sg a / 2 ^ n ∧ sg a / 2 ^ n < 9223372036854775808 := by
  have hb := sg_bd h h'
  have hp := pow_pos' n
  constructor
  · rw [Int.le_ediv_iff_mul_le hp]
    have : (1 : Int) ≤ 2 ^ n := hp
    have := Int.mul_le_mul_of_nonneg_left this (show (0 : Int) ≤ 9223372036854775808 by omega)
    omega
  · rw [Int.ediv_lt_iff_lt_mul hp]
    have : (1 : Int) ≤ 2 ^ n := hp
    have := Int.mul_le_mul_of_nonneg_left this (show (0 : Int) ≤ 9223372036854775808 by omega)
    omega
end Go.Proofs.YtnaceogkaiodnaaGreat
namespace Go.Proofs.YtnaceogkaiodnaaGreat
open Go.RowKit
theorem sarV_succ {a : Int} (h : 0 ≤ a) (h' : a < 18446744073709551616) (n : Nat) :
    sarV a (n + 1) = sarV a n / 2 + sarV a n / 9223372036854775808 * 9223372036854775808 := by
  have hb := sg_shr_bd h h' n
  unfold sarV
  rw [Int.pow_succ, Int.ediv_mul_of_nonneg (by have := pow_pos' n; omega)]
  generalize sg a / 2 ^ n = z at *
  omega
end Go.Proofs.YtnaceogkaiodnaaGreat
namespace Go.Proofs.YtnaceogkaiodnaaGreat
open Go.RowKit
theorem wf_u8 {a : Int} (h : (Lit.int .u8 a).wf = true) : 0 ≤ a ∧ a < 256 := by
  simp [Lit.wf, IntKind.min, IntKind.max, IntKind.signed, IntKind.bits] at h
  omega
end Go.Proofs.YtnaceogkaiodnaaGreat
namespace Go.Proofs.YtnaceogkaiodnaaGreat
open Go.RowKit
theorem IsBytes.of_row {w : World} {x : Addr} {len cap : Nat} {zs : List Int} (hl : len ≤ cap) (hm : cap ≤ maxLen) (hz : zs.length = cap) (hc : ∀ i, i < zs.length → w.cell? (x.add i) = some (.int .u8 (zs.getD i 0)))
    (hw : ∀ n ∈ zs, (Lit.int .u8 n).wf = true) : IsBytes w w.heap.size (.slice (some x) len cap) (zs.take len) := by
  have hlen : (zs.take len).length = len := by simp; omega
  refine ⟨fun y hy => wf_u8 (hw y (List.mem_of_mem_take hy)), by omega, .inr ⟨x, cap, by rw [hlen], by omega, fun hn => ?_, fun i hi => ?_⟩⟩
  · have h := block_lt_of_cell (hc 0 (by omega))
    have e : (x.add 0).block = x.block := by unfold Addr.add; split <;> rfl
    omega
  · rw [hlen] at hi
    rw [hc i (by omega)]
    simp [List.getD, hi]
end Go.Proofs.YtnaceogkaiodnaaGreat
namespace Go.Proofs.YtnaceogkaiodnaaGreat
open Go.RowKit
theorem sized_any (s : Int) (w : World) : Calls Tryz.prog 87 #[.int .i64 s] w fun e w' => e = .returned (.bool (sizedB s)) ∧ w = w' := by
  by_cases h1 : s = 1
  · subst h1
    go_enter Tryz.func87, Tryz.ntmps87
    go_wp2
    go_ret
    exact ⟨rfl, rfl⟩
  by_cases h2 : s = 2
  · subst h2
    go_enter Tryz.func87, Tryz.ntmps87
    go_wp2
    go_ret
    exact ⟨rfl, rfl⟩
  by_cases h4 : s = 4
  · subst h4
    go_enter Tryz.func87, Tryz.ntmps87
    go_wp2
    go_ret
    exact ⟨rfl, rfl⟩
  by_cases h8 : s = 8
  · subst h8
    go_enter Tryz.func87, Tryz.ntmps87
    go_wp2
    go_ret
    exact ⟨rfl, rfl⟩
  have e : sizedB s = false := by simp [sizedB, h1, h2, h4, h8]
  rw [e]
  clear e
  have b1 : (s == 1) = false := by simpa using h1
  have b2 : (s == 2) = false := by simpa using h2
  have b4 : (s == 4) = false := by simpa using h4
  have b8 : (s == 8) = false := by simpa using h8
  clear h1 h2 h4 h8
  go_enter Tryz.func87, Tryz.ntmps87
  go_wp2
  go_ret
  exact ⟨rfl, rfl⟩
end Go.Proofs.YtnaceogkaiodnaaGreat
namespace Go.Proofs.YtnaceogkaiodnaaGreat
open Go.RowKit
theorem sized_any_no {s : Int} (h : sizedB s = false) (w : World) : Calls Tryz.prog 87 #[.int .i64 s] w fun e w' => e = .returned (.bool false) ∧ w = w' := by
  rw [← h]
  exact sized_any s w
end Go.Proofs.YtnaceogkaiodnaaGreat
namespace Go.Proofs.YtnaceogkaiodnaaGreat
open Go.RowKit
def FormStr : RvForm → ByteArray
  | .R => ⟨#[82]⟩
  | .I => ⟨#[73]⟩
  | .X => ⟨#[88]⟩
  | .Y => ⟨#[89]⟩
  | .S => ⟨#[83]⟩
  | .B => ⟨#[66]⟩
  | .U => ⟨#[85]⟩
  | .J => ⟨#[74]⟩
  | .E => ⟨#[69]⟩

end Go.Proofs.YtnaceogkaiodnaaGreat
namespace Go.Proofs.YtnaceogkaiodnaaGreat
open Go.RowKit
theorem field_7_5 (x : Int) (w : World) (hx : 0 ≤ x) (hx' : x < 4294967296) :
    Calls Tryz.prog 122 #[.int .u32 x, .int .u64 7, .int .u64 5] w fun e w' => e = .returned (.int .i64 (x / 128 % 32)) ∧ w = w' := by
  go_enter Tryz.func122, Tryz.ntmps122
  go_wp2
  go_ret
  exact ⟨ret_int (by simp), rfl⟩
end Go.Proofs.YtnaceogkaiodnaaGreat
namespace Go.Proofs.YtnaceogkaiodnaaGreat
open Go.RowKit
theorem field_15_5 (x : Int) (w : World) (hx : 0 ≤ x) (hx' : x < 4294967296) :
    Calls Tryz.prog 122 #[.int .u32 x, .int .u64 15, .int .u64 5] w fun e w' => e = .returned (.int .i64 (x / 32768 % 32)) ∧ w = w' := by
  go_enter Tryz.func122, Tryz.ntmps122
  go_wp2
  go_ret
  exact ⟨ret_int (by simp), rfl⟩
end Go.Proofs.YtnaceogkaiodnaaGreat
namespace Go.Proofs.YtnaceogkaiodnaaGreat
open Go.RowKit
theorem field_20_5 (x : Int) (w : World) (hx : 0 ≤ x) (hx' : x < 4294967296) :
    Calls Tryz.prog 122 #[.int .u32 x, .int .u64 20, .int .u64 5] w fun e w' => e = .returned (.int .i64 (x / 1048576 % 32)) ∧ w = w' := by
  go_enter Tryz.func122, Tryz.ntmps122
  go_wp2
  go_ret
  exact ⟨ret_int (by simp), rfl⟩
end Go.Proofs.YtnaceogkaiodnaaGreat
namespace Go.Proofs.YtnaceogkaiodnaaGreat
open Go.RowKit
theorem field_20_12 (x : Int) (w : World) (hx : 0 ≤ x) (hx' : x < 4294967296) :
    Calls Tryz.prog 122 #[.int .u32 x, .int .u64 20, .int .u64 12] w fun e w' => e = .returned (.int .i64 (x / 1048576 % 4096)) ∧ w = w' := by
  go_enter Tryz.func122, Tryz.ntmps122
  go_wp2
  go_ret
  exact ⟨ret_int (by simp), rfl⟩
end Go.Proofs.YtnaceogkaiodnaaGreat
namespace Go.Proofs.YtnaceogkaiodnaaGreat
open Go.RowKit
theorem field_20_6 (x : Int) (w : World) (hx : 0 ≤ x) (hx' : x < 4294967296) :
    Calls Tryz.prog 122 #[.int .u32 x, .int .u64 20, .int .u64 6] w fun e w' => e = .returned (.int .i64 (x / 1048576 % 64)) ∧ w = w' := by
  go_enter Tryz.func122, Tryz.ntmps122
  go_wp2
  go_ret
  exact ⟨ret_int (by simp), rfl⟩
end Go.Proofs.YtnaceogkaiodnaaGreat
namespace Go.Proofs.YtnaceogkaiodnaaGreat
open Go.RowKit
theorem field_25_7 (x : Int) (w : World) (hx : 0 ≤ x) (hx' : x < 4294967296) :
    Calls Tryz.prog 122 #[.int .u32 x, .int .u64 25, .int .u64 7] w fun e w' => e = .returned (.int .i64 (x / 33554432 % 128)) ∧ w = w' := by
  go_enter Tryz.func122, Tryz.ntmps122
  go_wp2
  go_ret
  exact ⟨ret_int (by simp), rfl⟩
end Go.Proofs.YtnaceogkaiodnaaGreat
namespace Go.Proofs.YtnaceogkaiodnaaGreat
open Go.RowKit
theorem field_8_4 (x : Int) (w : World) (hx : 0 ≤ x) (hx' : x < 4294967296) :
    Calls Tryz.prog 122 #[.int .u32 x, .int .u64 8, .int .u64 4] w fun e w' => e = .returned (.int .i64 (x / 256 % 16)) ∧ w = w' := by
  go_enter Tryz.func122, Tryz.ntmps122
  go_wp2
  go_ret
  exact ⟨ret_int (by simp), rfl⟩
end Go.Proofs.YtnaceogkaiodnaaGreat
namespace Go.Proofs.YtnaceogkaiodnaaGreat
open Go.RowKit
theorem field_25_6 (x : Int) (w : World) (hx : 0 ≤ x) (hx' : x < 4294967296) :
    Calls Tryz.prog 122 #[.int .u32 x, .int .u64 25, .int .u64 6] w fun e w' => e = .returned (.int .i64 (x / 33554432 % 64)) ∧ w = w' := by
  go_enter Tryz.func122, Tryz.ntmps122
  go_wp2
  go_ret
  exact ⟨ret_int (by simp), rfl⟩
end Go.Proofs.YtnaceogkaiodnaaGreat
namespace Go.Proofs.YtnaceogkaiodnaaGreat
open Go.RowKit
theorem field_7_1 (x : Int) (w : World) (hx : 0 ≤ x) (hx' : x < 4294967296) :
    Calls Tryz.prog 122 #[.int .u32 x, .int .u64 7, .int .u64 1] w fun e w' => e = .returned (.int .i64 (x / 128 % 2)) ∧ w = w' := by
  go_enter Tryz.func122, Tryz.ntmps122
  go_wp2
  go_ret
  exact ⟨ret_int (by simp), rfl⟩
end Go.Proofs.YtnaceogkaiodnaaGreat
namespace Go.Proofs.YtnaceogkaiodnaaGreat
open Go.RowKit
theorem field_31_1 (x : Int) (w : World) (hx : 0 ≤ x) (hx' : x < 4294967296) :
    Calls Tryz.prog 122 #[.int .u32 x, .int .u64 31, .int .u64 1] w fun e w' => e = .returned (.int .i64 (x / 2147483648 % 2)) ∧ w = w' := by
  go_enter Tryz.func122, Tryz.ntmps122
  go_wp2
  go_ret
  exact ⟨ret_int (by simp), rfl⟩
end Go.Proofs.YtnaceogkaiodnaaGreat
namespace Go.Proofs.YtnaceogkaiodnaaGreat
open Go.RowKit
theorem field_12_20 (x : Int) (w : World) (hx : 0 ≤ x) (hx' : x < 4294967296) :
    Calls Tryz.prog 122 #[.int .u32 x, .int .u64 12, .int .u64 20] w fun e w' => e = .returned (.int .i64 (x / 4096 % 1048576)) ∧ w = w' := by
  go_enter Tryz.func122, Tryz.ntmps122
  go_wp2
  go_ret
  exact ⟨ret_int (by simp), rfl⟩
end Go.Proofs.YtnaceogkaiodnaaGreat
namespace Go.Proofs.YtnaceogkaiodnaaGreat
open Go.RowKit
theorem field_21_10 (x : Int) (w : World) (hx : 0 ≤ x) (hx' : x < 4294967296) :
    Calls Tryz.prog 122 #[.int .u32 x, .int .u64 21, .int .u64 10] w fun e w' => e = .returned (.int .i64 (x / 2097152 % 1024)) ∧ w = w' := by
  go_enter Tryz.func122, Tryz.ntmps122
  go_wp2
  go_ret
  exact ⟨ret_int (by simp), rfl⟩
end Go.Proofs.YtnaceogkaiodnaaGreat
namespace Go.Proofs.YtnaceogkaiodnaaGreat
open Go.RowKit
theorem field_20_1 (x : Int) (w : World) (hx : 0 ≤ x) (hx' : x < 4294967296) :
    Calls Tryz.prog 122 #[.int .u32 x, .int .u64 20, .int .u64 1] w fun e w' => e = .returned (.int .i64 (x / 1048576 % 2)) ∧ w = w' := by
  go_enter Tryz.func122, Tryz.ntmps122
  go_wp2
  go_ret
  exact ⟨ret_int (by simp), rfl⟩
end Go.Proofs.YtnaceogkaiodnaaGreat
namespace Go.Proofs.YtnaceogkaiodnaaGreat
open Go.RowKit
theorem field_12_8 (x : Int) (w : World) (hx : 0 ≤ x) (hx' : x < 4294967296) :
    Calls Tryz.prog 122 #[.int .u32 x, .int .u64 12, .int .u64 8] w fun e w' => e = .returned (.int .i64 (x / 4096 % 256)) ∧ w = w' := by
  go_enter Tryz.func122, Tryz.ntmps122
  go_wp2
  go_ret
  exact ⟨ret_int (by simp), rfl⟩
end Go.Proofs.YtnaceogkaiodnaaGreat
namespace Go.Proofs.YtnaceogkaiodnaaGreat
open Go.RowKit
theorem signed_12 (n : Int) (w : World) (hn : 0 ≤ n) (hn' : n < 4096) :
    Calls Tryz.prog 142 #[.int .i64 n, .int .u64 12] w fun e w' => e = .returned (.int .i64 (signedV n 2048)) ∧ w = w' := by
  by_cases h : 2048 ≤ n
  · go_enter Tryz.func142, Tryz.ntmps142
    go_wp2
    go_ret
    exact ⟨ret_int (by unfold signedV; rw [if_pos h]; omega), rfl⟩
  · go_enter Tryz.func142, Tryz.ntmps142
    go_wp2
    go_ret
    exact ⟨ret_int (by unfold signedV; rw [if_neg (by omega)]), rfl⟩
end Go.Proofs.YtnaceogkaiodnaaGreat
namespace Go.Proofs.YtnaceogkaiodnaaGreat
open Go.RowKit
theorem signed_13 (n : Int) (w : World) (hn : 0 ≤ n) (hn' : n < 8192) :
    Calls Tryz.prog 142 #[.int .i64 n, .int .u64 13] w fun e w' => e = .returned (.int .i64 (signedV n 4096)) ∧ w = w' := by
  by_cases h : 4096 ≤ n
  · go_enter Tryz.func142, Tryz.ntmps142
    go_wp2
    go_ret
    exact ⟨ret_int (by unfold signedV; rw [if_pos h]; omega), rfl⟩
  · go_enter Tryz.func142, Tryz.ntmps142
    go_wp2
    go_ret
    exact ⟨ret_int (by unfold signedV; rw [if_neg (by omega)]), rfl⟩
end Go.Proofs.YtnaceogkaiodnaaGreat
namespace Go.Proofs.YtnaceogkaiodnaaGreat
open Go.RowKit
theorem signed_20 (n : Int) (w : World) (hn : 0 ≤ n) (hn' : n < 1048576) :
    Calls Tryz.prog 142 #[.int .i64 n, .int .u64 20] w fun e w' => e = .returned (.int .i64 (signedV n 524288)) ∧ w = w' := by
  by_cases h : 524288 ≤ n
  · go_enter Tryz.func142, Tryz.ntmps142
    go_wp2
    go_ret
    exact ⟨ret_int (by unfold signedV; rw [if_pos h]; omega), rfl⟩
  · go_enter Tryz.func142, Tryz.ntmps142
    go_wp2
    go_ret
    exact ⟨ret_int (by unfold signedV; rw [if_neg (by omega)]), rfl⟩
end Go.Proofs.YtnaceogkaiodnaaGreat
namespace Go.Proofs.YtnaceogkaiodnaaGreat
open Go.RowKit
theorem signed_21 (n : Int) (w : World) (hn : 0 ≤ n) (hn' : n < 2097152) :
    Calls Tryz.prog 142 #[.int .i64 n, .int .u64 21] w fun e w' => e = .returned (.int .i64 (signedV n 1048576)) ∧ w = w' := by
  by_cases h : 1048576 ≤ n
  · go_enter Tryz.func142, Tryz.ntmps142
    go_wp2
    go_ret
    exact ⟨ret_int (by unfold signedV; rw [if_pos h]; omega), rfl⟩
  · go_enter Tryz.func142, Tryz.ntmps142
    go_wp2
    go_ret
    exact ⟨ret_int (by unfold signedV; rw [if_neg (by omega)]), rfl⟩
end Go.Proofs.YtnaceogkaiodnaaGreat
namespace Go.Proofs.YtnaceogkaiodnaaGreat
open Go.RowKit
theorem bits_0_12_20 (n : Int) (w : World) (hn : -9223372036854775808 ≤ n) (hn' : n < 9223372036854775808) :
    Calls Tryz.prog 145 #[.int .i64 n, .int .i64 0, .int .i64 12, .int .i64 20] w fun e w' => e = .returned (.int .u32 (n % 4096 * 1048576)) ∧ w = w' := by
  go_enter Tryz.func145, Tryz.ntmps145
  go_wp2
  go_ret
  refine ⟨ret_int ?_, rfl⟩
  simp only [IntKind.wrap_u64]
  rw [Int.tmod_eq_emod_of_nonneg (by omega)]
  omega
end Go.Proofs.YtnaceogkaiodnaaGreat
namespace Go.Proofs.YtnaceogkaiodnaaGreat
open Go.RowKit
theorem bits_0_6_20 (n : Int) (w : World) (hn : -9223372036854775808 ≤ n) (hn' : n < 9223372036854775808) :
    Calls Tryz.prog 145 #[.int .i64 n, .int .i64 0, .int .i64 6, .int .i64 20] w fun e w' => e = .returned (.int .u32 (n % 64 * 1048576)) ∧ w = w' := by
  go_enter Tryz.func145, Tryz.ntmps145
  go_wp2
  go_ret
  refine ⟨ret_int ?_, rfl⟩
  simp only [IntKind.wrap_u64]
  rw [Int.tmod_eq_emod_of_nonneg (by omega)]
  omega
end Go.Proofs.YtnaceogkaiodnaaGreat
namespace Go.Proofs.YtnaceogkaiodnaaGreat
open Go.RowKit
theorem bits_0_5_20 (n : Int) (w : World) (hn : -9223372036854775808 ≤ n) (hn' : n < 9223372036854775808) :
    Calls Tryz.prog 145 #[.int .i64 n, .int .i64 0, .int .i64 5, .int .i64 20] w fun e w' => e = .returned (.int .u32 (n % 32 * 1048576)) ∧ w = w' := by
  go_enter Tryz.func145, Tryz.ntmps145
  go_wp2
  go_ret
  refine ⟨ret_int ?_, rfl⟩
  simp only [IntKind.wrap_u64]
  rw [Int.tmod_eq_emod_of_nonneg (by omega)]
  omega
end Go.Proofs.YtnaceogkaiodnaaGreat
namespace Go.Proofs.YtnaceogkaiodnaaGreat
open Go.RowKit
theorem bits_0_5_7 (n : Int) (w : World) (hn : -9223372036854775808 ≤ n) (hn' : n < 9223372036854775808) :
    Calls Tryz.prog 145 #[.int .i64 n, .int .i64 0, .int .i64 5, .int .i64 7] w fun e w' => e = .returned (.int .u32 (n % 32 * 128)) ∧ w = w' := by
  go_enter Tryz.func145, Tryz.ntmps145
  go_wp2
  go_ret
  refine ⟨ret_int ?_, rfl⟩
  simp only [IntKind.wrap_u64]
  rw [Int.tmod_eq_emod_of_nonneg (by omega)]
  omega
end Go.Proofs.YtnaceogkaiodnaaGreat
namespace Go.Proofs.YtnaceogkaiodnaaGreat
open Go.RowKit
theorem bits_5_7_25 (n : Int) (w : World) (hn : -9223372036854775808 ≤ n) (hn' : n < 9223372036854775808) :
    Calls Tryz.prog 145 #[.int .i64 n, .int .i64 5, .int .i64 7, .int .i64 25] w fun e w' => e = .returned (.int .u32 (n / 32 % 128 * 33554432)) ∧ w = w' := by
  go_enter Tryz.func145, Tryz.ntmps145
  go_wp2
  go_ret
  refine ⟨ret_int ?_, rfl⟩
  simp only [IntKind.wrap_u64]
  rw [Int.tmod_eq_emod_of_nonneg (by omega)]
  omega
end Go.Proofs.YtnaceogkaiodnaaGreat
namespace Go.Proofs.YtnaceogkaiodnaaGreat
open Go.RowKit
theorem bits_11_1_7 (n : Int) (w : World) (hn : -9223372036854775808 ≤ n) (hn' : n < 9223372036854775808) :
    Calls Tryz.prog 145 #[.int .i64 n, .int .i64 11, .int .i64 1, .int .i64 7] w fun e w' => e = .returned (.int .u32 (n / 2048 % 2 * 128)) ∧ w = w' := by
  go_enter Tryz.func145, Tryz.ntmps145
  go_wp2
  go_ret
  refine ⟨ret_int ?_, rfl⟩
  simp only [IntKind.wrap_u64]
  rw [Int.tmod_eq_emod_of_nonneg (by omega)]
  omega
end Go.Proofs.YtnaceogkaiodnaaGreat
namespace Go.Proofs.YtnaceogkaiodnaaGreat
open Go.RowKit
theorem bits_1_4_8 (n : Int) (w : World) (hn : -9223372036854775808 ≤ n) (hn' : n < 9223372036854775808) :
    Calls Tryz.prog 145 #[.int .i64 n, .int .i64 1, .int .i64 4, .int .i64 8] w fun e w' => e = .returned (.int .u32 (n / 2 % 16 * 256)) ∧ w = w' := by
  go_enter Tryz.func145, Tryz.ntmps145
  go_wp2
  go_ret
  refine ⟨ret_int ?_, rfl⟩
  simp only [IntKind.wrap_u64]
  rw [Int.tmod_eq_emod_of_nonneg (by omega)]
  omega
end Go.Proofs.YtnaceogkaiodnaaGreat
namespace Go.Proofs.YtnaceogkaiodnaaGreat
open Go.RowKit
theorem bits_5_6_25 (n : Int) (w : World) (hn : -9223372036854775808 ≤ n) (hn' : n < 9223372036854775808) :
    Calls Tryz.prog 145 #[.int .i64 n, .int .i64 5, .int .i64 6, .int .i64 25] w fun e w' => e = .returned (.int .u32 (n / 32 % 64 * 33554432)) ∧ w = w' := by
  go_enter Tryz.func145, Tryz.ntmps145
  go_wp2
  go_ret
  refine ⟨ret_int ?_, rfl⟩
  simp only [IntKind.wrap_u64]
  rw [Int.tmod_eq_emod_of_nonneg (by omega)]
  omega
end Go.Proofs.YtnaceogkaiodnaaGreat
namespace Go.Proofs.YtnaceogkaiodnaaGreat
open Go.RowKit
theorem bits_12_1_31 (n : Int) (w : World) (hn : -9223372036854775808 ≤ n) (hn' : n < 9223372036854775808) :
    Calls Tryz.prog 145 #[.int .i64 n, .int .i64 12, .int .i64 1, .int .i64 31] w fun e w' => e = .returned (.int .u32 (n / 4096 % 2 * 2147483648)) ∧ w = w' := by
  go_enter Tryz.func145, Tryz.ntmps145
  go_wp2
  go_ret
  refine ⟨ret_int ?_, rfl⟩
  simp only [IntKind.wrap_u64]
  rw [Int.tmod_eq_emod_of_nonneg (by omega)]
  omega
end Go.Proofs.YtnaceogkaiodnaaGreat
namespace Go.Proofs.YtnaceogkaiodnaaGreat
open Go.RowKit
theorem bits_0_20_12 (n : Int) (w : World) (hn : -9223372036854775808 ≤ n) (hn' : n < 9223372036854775808) :
    Calls Tryz.prog 145 #[.int .i64 n, .int .i64 0, .int .i64 20, .int .i64 12] w fun e w' => e = .returned (.int .u32 (n % 1048576 * 4096)) ∧ w = w' := by
  go_enter Tryz.func145, Tryz.ntmps145
  go_wp2
  go_ret
  refine ⟨ret_int ?_, rfl⟩
  simp only [IntKind.wrap_u64]
  rw [Int.tmod_eq_emod_of_nonneg (by omega)]
  omega
end Go.Proofs.YtnaceogkaiodnaaGreat
namespace Go.Proofs.YtnaceogkaiodnaaGreat
open Go.RowKit
theorem bits_12_8_12 (n : Int) (w : World) (hn : -9223372036854775808 ≤ n) (hn' : n < 9223372036854775808) :
    Calls Tryz.prog 145 #[.int .i64 n, .int .i64 12, .int .i64 8, .int .i64 12] w fun e w' => e = .returned (.int .u32 (n / 4096 % 256 * 4096)) ∧ w = w' := by
  go_enter Tryz.func145, Tryz.ntmps145
  go_wp2
  go_ret
  refine ⟨ret_int ?_, rfl⟩
  simp only [IntKind.wrap_u64]
  rw [Int.tmod_eq_emod_of_nonneg (by omega)]
  omega
end Go.Proofs.YtnaceogkaiodnaaGreat
namespace Go.Proofs.YtnaceogkaiodnaaGreat
open Go.RowKit
theorem bits_11_1_20 (n : Int) (w : World) (hn : -9223372036854775808 ≤ n) (hn' : n < 9223372036854775808) :
    Calls Tryz.prog 145 #[.int .i64 n, .int .i64 11, .int .i64 1, .int .i64 20] w fun e w' => e = .returned (.int .u32 (n / 2048 % 2 * 1048576)) ∧ w = w' := by
  go_enter Tryz.func145, Tryz.ntmps145
  go_wp2
  go_ret
  refine ⟨ret_int ?_, rfl⟩
  simp only [IntKind.wrap_u64]
  rw [Int.tmod_eq_emod_of_nonneg (by omega)]
  omega
end Go.Proofs.YtnaceogkaiodnaaGreat
namespace Go.Proofs.YtnaceogkaiodnaaGreat
open Go.RowKit
theorem bits_1_10_21 (n : Int) (w : World) (hn : -9223372036854775808 ≤ n) (hn' : n < 9223372036854775808) :
    Calls Tryz.prog 145 #[.int .i64 n, .int .i64 1, .int .i64 10, .int .i64 21] w fun e w' => e = .returned (.int .u32 (n / 2 % 1024 * 2097152)) ∧ w = w' := by
  go_enter Tryz.func145, Tryz.ntmps145
  go_wp2
  go_ret
  refine ⟨ret_int ?_, rfl⟩
  simp only [IntKind.wrap_u64]
  rw [Int.tmod_eq_emod_of_nonneg (by omega)]
  omega
end Go.Proofs.YtnaceogkaiodnaaGreat
namespace Go.Proofs.YtnaceogkaiodnaaGreat
open Go.RowKit
theorem bits_20_1_31 (n : Int) (w : World) (hn : -9223372036854775808 ≤ n) (hn' : n < 9223372036854775808) :
    Calls Tryz.prog 145 #[.int .i64 n, .int .i64 20, .int .i64 1, .int .i64 31] w fun e w' => e = .returned (.int .u32 (n / 1048576 % 2 * 2147483648)) ∧ w = w' := by
  go_enter Tryz.func145, Tryz.ntmps145
  go_wp2
  go_ret
  refine ⟨ret_int ?_, rfl⟩
  simp only [IntKind.wrap_u64]
  rw [Int.tmod_eq_emod_of_nonneg (by omega)]
  omega
end Go.Proofs.YtnaceogkaiodnaaGreat
namespace Go.Proofs.YtnaceogkaiodnaaGreat
open Go.RowKit
theorem imm_R (n : Int) (w : World) (hn : -9223372036854775808 ≤ n) (hn' : n < 9223372036854775808) :
    Calls Tryz.prog 124 #[(.string ⟨#[82]⟩), .int .i64 n] w fun e w' => e = .returned (.int .u32 (immV .R n)) ∧ w = w' := by
  go_enter Tryz.func124, Tryz.ntmps124
  go_wp2_with fail
  go_ret
  exact ⟨ret_int (by simp [immV]), rfl⟩
end Go.Proofs.YtnaceogkaiodnaaGreat
namespace Go.Proofs.YtnaceogkaiodnaaGreat
open Go.RowKit
theorem imm_I (n : Int) (w : World) (hn : -9223372036854775808 ≤ n) (hn' : n < 9223372036854775808) :
    Calls Tryz.prog 124 #[(.string ⟨#[73]⟩), .int .i64 n] w fun e w' => e = .returned (.int .u32 (immV .I n)) ∧ w = w' := by
  have b0 : 0 ≤ n % 4096 * 1048576 ∧ n % 4096 * 1048576 ≤ 4293918720 := by omega
  go_enter Tryz.func124, Tryz.ntmps124
  go_wp2_with (first
    | (go_at_call 145; (with_reducible refine (bits_0_12_20 n _ hn hn').mono ?_); rintro e w' ⟨rfl, rfl⟩))
  go_ret
  exact ⟨ret_int (by simp [immV]), rfl⟩
end Go.Proofs.YtnaceogkaiodnaaGreat
namespace Go.Proofs.YtnaceogkaiodnaaGreat
open Go.RowKit
theorem imm_X (n : Int) (w : World) (hn : -9223372036854775808 ≤ n) (hn' : n < 9223372036854775808) :
    Calls Tryz.prog 124 #[(.string ⟨#[88]⟩), .int .i64 n] w fun e w' => e = .returned (.int .u32 (immV .X n)) ∧ w = w' := by
  have b0 : 0 ≤ n % 64 * 1048576 ∧ n % 64 * 1048576 ≤ 66060288 := by omega
  go_enter Tryz.func124, Tryz.ntmps124
  go_wp2_with (first
    | (go_at_call 145; (with_reducible refine (bits_0_6_20 n _ hn hn').mono ?_); rintro e w' ⟨rfl, rfl⟩))
  go_ret
  exact ⟨ret_int (by simp [immV]), rfl⟩
end Go.Proofs.YtnaceogkaiodnaaGreat
namespace Go.Proofs.YtnaceogkaiodnaaGreat
open Go.RowKit
theorem imm_Y (n : Int) (w : World) (hn : -9223372036854775808 ≤ n) (hn' : n < 9223372036854775808) :
    Calls Tryz.prog 124 #[(.string ⟨#[89]⟩), .int .i64 n] w fun e w' => e = .returned (.int .u32 (immV .Y n)) ∧ w = w' := by
  have b0 : 0 ≤ n % 32 * 1048576 ∧ n % 32 * 1048576 ≤ 32505856 := by omega
  go_enter Tryz.func124, Tryz.ntmps124
  go_wp2_with (first
    | (go_at_call 145; (with_reducible refine (bits_0_5_20 n _ hn hn').mono ?_); rintro e w' ⟨rfl, rfl⟩))
  go_ret
  exact ⟨ret_int (by simp [immV]), rfl⟩
end Go.Proofs.YtnaceogkaiodnaaGreat
namespace Go.Proofs.YtnaceogkaiodnaaGreat
open Go.RowKit
theorem imm_S (n : Int) (w : World) (hn : -9223372036854775808 ≤ n) (hn' : n < 9223372036854775808) :
    Calls Tryz.prog 124 #[(.string ⟨#[83]⟩), .int .i64 n] w fun e w' => e = .returned (.int .u32 (immV .S n)) ∧ w = w' := by
  have b0 : 0 ≤ n % 32 * 128 ∧ n % 32 * 128 ≤ 3968 := by omega
  have b1 : 0 ≤ n / 32 % 128 * 33554432 ∧ n / 32 % 128 * 33554432 ≤ 4261412864 := by omega
  go_enter Tryz.func124, Tryz.ntmps124
  go_wp2_with (first
    | (go_at_call 145; (with_reducible refine (bits_0_5_7 n _ hn hn').mono ?_); rintro e w' ⟨rfl, rfl⟩)
    | (go_at_call 145; (with_reducible refine (bits_5_7_25 n _ hn hn').mono ?_); rintro e w' ⟨rfl, rfl⟩))
  go_ret
  exact ⟨ret_int (by simp [immV]), rfl⟩
end Go.Proofs.YtnaceogkaiodnaaGreat
namespace Go.Proofs.YtnaceogkaiodnaaGreat
open Go.RowKit
theorem imm_B (n : Int) (w : World) (hn : -9223372036854775808 ≤ n) (hn' : n < 9223372036854775808) :
    Calls Tryz.prog 124 #[(.string ⟨#[66]⟩), .int .i64 n] w fun e w' => e = .returned (.int .u32 (immV .B n)) ∧ w = w' := by
  have b0 : 0 ≤ n / 2048 % 2 * 128 ∧ n / 2048 % 2 * 128 ≤ 128 := by omega
  have b1 : 0 ≤ n / 2 % 16 * 256 ∧ n / 2 % 16 * 256 ≤ 3840 := by omega
  have b2 : 0 ≤ n / 32 % 64 * 33554432 ∧ n / 32 % 64 * 33554432 ≤ 2113929216 := by omega
  have b3 : 0 ≤ n / 4096 % 2 * 2147483648 ∧ n / 4096 % 2 * 2147483648 ≤ 2147483648 := by omega
  go_enter Tryz.func124, Tryz.ntmps124
  go_wp2_with (first
    | (go_at_call 145; (with_reducible refine (bits_11_1_7 n _ hn hn').mono ?_); rintro e w' ⟨rfl, rfl⟩)
    | (go_at_call 145; (with_reducible refine (bits_1_4_8 n _ hn hn').mono ?_); rintro e w' ⟨rfl, rfl⟩)
    | (go_at_call 145; (with_reducible refine (bits_5_6_25 n _ hn hn').mono ?_); rintro e w' ⟨rfl, rfl⟩)
    | (go_at_call 145; (with_reducible refine (bits_12_1_31 n _ hn hn').mono ?_); rintro e w' ⟨rfl, rfl⟩))
  go_ret
  exact ⟨ret_int (by simp [immV]), rfl⟩
end Go.Proofs.YtnaceogkaiodnaaGreat
namespace Go.Proofs.YtnaceogkaiodnaaGreat
open Go.RowKit
theorem imm_U (n : Int) (w : World) (hn : -9223372036854775808 ≤ n) (hn' : n < 9223372036854775808) :
    Calls Tryz.prog 124 #[(.string ⟨#[85]⟩), .int .i64 n] w fun e w' => e = .returned (.int .u32 (immV .U n)) ∧ w = w' := by
  have b0 : 0 ≤ n % 1048576 * 4096 ∧ n % 1048576 * 4096 ≤ 4294963200 := by omega
  go_enter Tryz.func124, Tryz.ntmps124
  go_wp2_with (first
    | (go_at_call 145; (with_reducible refine (bits_0_20_12 n _ hn hn').mono ?_); rintro e w' ⟨rfl, rfl⟩))
  go_ret
  exact ⟨ret_int (by simp [immV]), rfl⟩
end Go.Proofs.YtnaceogkaiodnaaGreat
namespace Go.Proofs.YtnaceogkaiodnaaGreat
open Go.RowKit
theorem imm_J (n : Int) (w : World) (hn : -9223372036854775808 ≤ n) (hn' : n < 9223372036854775808) :
    Calls Tryz.prog 124 #[(.string ⟨#[74]⟩), .int .i64 n] w fun e w' => e = .returned (.int .u32 (immV .J n)) ∧ w = w' := by
  have b0 : 0 ≤ n / 4096 % 256 * 4096 ∧ n / 4096 % 256 * 4096 ≤ 1044480 := by omega
  have b1 : 0 ≤ n / 2048 % 2 * 1048576 ∧ n / 2048 % 2 * 1048576 ≤ 1048576 := by omega
  have b2 : 0 ≤ n / 2 % 1024 * 2097152 ∧ n / 2 % 1024 * 2097152 ≤ 2145386496 := by omega
  have b3 : 0 ≤ n / 1048576 % 2 * 2147483648 ∧ n / 1048576 % 2 * 2147483648 ≤ 2147483648 := by omega
  go_enter Tryz.func124, Tryz.ntmps124
  go_wp2_with (first
    | (go_at_call 145; (with_reducible refine (bits_12_8_12 n _ hn hn').mono ?_); rintro e w' ⟨rfl, rfl⟩)
    | (go_at_call 145; (with_reducible refine (bits_11_1_20 n _ hn hn').mono ?_); rintro e w' ⟨rfl, rfl⟩)
    | (go_at_call 145; (with_reducible refine (bits_1_10_21 n _ hn hn').mono ?_); rintro e w' ⟨rfl, rfl⟩)
    | (go_at_call 145; (with_reducible refine (bits_20_1_31 n _ hn hn').mono ?_); rintro e w' ⟨rfl, rfl⟩))
  go_ret
  exact ⟨ret_int (by simp [immV]), rfl⟩
end Go.Proofs.YtnaceogkaiodnaaGreat
namespace Go.Proofs.YtnaceogkaiodnaaGreat
open Go.RowKit
theorem imm_E (n : Int) (w : World) (hn : -9223372036854775808 ≤ n) (hn' : n < 9223372036854775808) :
    Calls Tryz.prog 124 #[(.string ⟨#[69]⟩), .int .i64 n] w fun e w' => e = .returned (.int .u32 (immV .E n)) ∧ w = w' := by
  go_enter Tryz.func124, Tryz.ntmps124
  go_wp2_with fail
  go_ret
  exact ⟨ret_int (by simp [immV]), rfl⟩
end Go.Proofs.YtnaceogkaiodnaaGreat
namespace Go.Proofs.YtnaceogkaiodnaaGreat
open Go.RowKit
theorem told_R (x : Int) (w : World) (hx : 0 ≤ x) (hx' : x < 4294967296) :
    Calls Tryz.prog 121 #[(.string ⟨#[82]⟩), .int .u32 x] w fun e w' => e = .returned (.int .i64 (toldV .R x)) ∧ w = w' := by
  go_enter Tryz.func121, Tryz.ntmps121
  go_wp2_with fail
  go_ret
  exact ⟨ret_int (by simp [toldV]), rfl⟩
end Go.Proofs.YtnaceogkaiodnaaGreat
namespace Go.Proofs.YtnaceogkaiodnaaGreat
open Go.RowKit
theorem told_I (x : Int) (w : World) (hx : 0 ≤ x) (hx' : x < 4294967296) :
    Calls Tryz.prog 121 #[(.string ⟨#[73]⟩), .int .u32 x] w fun e w' => e = .returned (.int .i64 (toldV .I x)) ∧ w = w' := by
  have b0 : 0 ≤ x / 1048576 % 4096 ∧ x / 1048576 % 4096 ≤ 4095 := by omega
  go_enter Tryz.func121, Tryz.ntmps121
  go_wp2_with (first
    | (go_at_call 122; (with_reducible refine (field_20_12 x _ hx hx').mono ?_); rintro e w' ⟨rfl, rfl⟩)
    | (go_at_call 142; (with_reducible refine (signed_12 (x / 1048576 % 4096) _ (by omega) (by omega)).mono ?_); rintro e w' ⟨rfl, rfl⟩))
  go_ret
  exact ⟨ret_int (by simp [toldV]), rfl⟩
end Go.Proofs.YtnaceogkaiodnaaGreat
namespace Go.Proofs.YtnaceogkaiodnaaGreat
open Go.RowKit
theorem told_X (x : Int) (w : World) (hx : 0 ≤ x) (hx' : x < 4294967296) :
    Calls Tryz.prog 121 #[(.string ⟨#[88]⟩), .int .u32 x] w fun e w' => e = .returned (.int .i64 (toldV .X x)) ∧ w = w' := by
  have b0 : 0 ≤ x / 1048576 % 64 ∧ x / 1048576 % 64 ≤ 63 := by omega
  go_enter Tryz.func121, Tryz.ntmps121
  go_wp2_with (first
    | (go_at_call 122; (with_reducible refine (field_20_6 x _ hx hx').mono ?_); rintro e w' ⟨rfl, rfl⟩))
  go_ret
  exact ⟨ret_int (by simp [toldV]), rfl⟩
end Go.Proofs.YtnaceogkaiodnaaGreat
namespace Go.Proofs.YtnaceogkaiodnaaGreat
open Go.RowKit
theorem told_Y (x : Int) (w : World) (hx : 0 ≤ x) (hx' : x < 4294967296) :
    Calls Tryz.prog 121 #[(.string ⟨#[89]⟩), .int .u32 x] w fun e w' => e = .returned (.int .i64 (toldV .Y x)) ∧ w = w' := by
  have b0 : 0 ≤ x / 1048576 % 32 ∧ x / 1048576 % 32 ≤ 31 := by omega
  go_enter Tryz.func121, Tryz.ntmps121
  go_wp2_with (first
    | (go_at_call 122; (with_reducible refine (field_20_5 x _ hx hx').mono ?_); rintro e w' ⟨rfl, rfl⟩))
  go_ret
  exact ⟨ret_int (by simp [toldV]), rfl⟩
end Go.Proofs.YtnaceogkaiodnaaGreat
namespace Go.Proofs.YtnaceogkaiodnaaGreat
open Go.RowKit
theorem told_S (x : Int) (w : World) (hx : 0 ≤ x) (hx' : x < 4294967296) :
    Calls Tryz.prog 121 #[(.string ⟨#[83]⟩), .int .u32 x] w fun e w' => e = .returned (.int .i64 (toldV .S x)) ∧ w = w' := by
  have b0 : 0 ≤ x / 128 % 32 ∧ x / 128 % 32 ≤ 31 := by omega
  have b1 : 0 ≤ x / 33554432 % 128 ∧ x / 33554432 % 128 ≤ 127 := by omega
  go_enter Tryz.func121, Tryz.ntmps121
  go_wp2_with (first
    | (go_at_call 122; (with_reducible refine (field_7_5 x _ hx hx').mono ?_); rintro e w' ⟨rfl, rfl⟩)
    | (go_at_call 122; (with_reducible refine (field_25_7 x _ hx hx').mono ?_); rintro e w' ⟨rfl, rfl⟩)
    | (go_at_call 142; (with_reducible refine (signed_12 (x / 128 % 32 + x / 33554432 % 128 * 32) _ (by omega) (by omega)).mono ?_); rintro e w' ⟨rfl, rfl⟩))
  go_ret
  exact ⟨ret_int (by simp [toldV]), rfl⟩
end Go.Proofs.YtnaceogkaiodnaaGreat
namespace Go.Proofs.YtnaceogkaiodnaaGreat
open Go.RowKit
theorem told_B (x : Int) (w : World) (hx : 0 ≤ x) (hx' : x < 4294967296) :
    Calls Tryz.prog 121 #[(.string ⟨#[66]⟩), .int .u32 x] w fun e w' => e = .returned (.int .i64 (toldV .B x)) ∧ w = w' := by
  have b0 : 0 ≤ x / 256 % 16 ∧ x / 256 % 16 ≤ 15 := by omega
  have b1 : 0 ≤ x / 33554432 % 64 ∧ x / 33554432 % 64 ≤ 63 := by omega
  have b2 : 0 ≤ x / 128 % 2 ∧ x / 128 % 2 ≤ 1 := by omega
  have b3 : 0 ≤ x / 2147483648 % 2 ∧ x / 2147483648 % 2 ≤ 1 := by omega
  go_enter Tryz.func121, Tryz.ntmps121
  go_wp2_with (first
    | (go_at_call 122; (with_reducible refine (field_8_4 x _ hx hx').mono ?_); rintro e w' ⟨rfl, rfl⟩)
    | (go_at_call 122; (with_reducible refine (field_25_6 x _ hx hx').mono ?_); rintro e w' ⟨rfl, rfl⟩)
    | (go_at_call 122; (with_reducible refine (field_7_1 x _ hx hx').mono ?_); rintro e w' ⟨rfl, rfl⟩)
    | (go_at_call 122; (with_reducible refine (field_31_1 x _ hx hx').mono ?_); rintro e w' ⟨rfl, rfl⟩)
    | (go_at_call 142; (with_reducible refine (signed_13 (x / 256 % 16 * 2 + x / 33554432 % 64 * 32 + x / 128 % 2 * 2048 + x / 2147483648 % 2 * 4096) _ (by omega) (by omega)).mono ?_); rintro e w' ⟨rfl, rfl⟩))
  go_ret
  exact ⟨ret_int (by simp [toldV]), rfl⟩
end Go.Proofs.YtnaceogkaiodnaaGreat
namespace Go.Proofs.YtnaceogkaiodnaaGreat
open Go.RowKit
theorem told_U (x : Int) (w : World) (hx : 0 ≤ x) (hx' : x < 4294967296) :
    Calls Tryz.prog 121 #[(.string ⟨#[85]⟩), .int .u32 x] w fun e w' => e = .returned (.int .i64 (toldV .U x)) ∧ w = w' := by
  have b0 : 0 ≤ x / 4096 % 1048576 ∧ x / 4096 % 1048576 ≤ 1048575 := by omega
  go_enter Tryz.func121, Tryz.ntmps121
  go_wp2_with (first
    | (go_at_call 122; (with_reducible refine (field_12_20 x _ hx hx').mono ?_); rintro e w' ⟨rfl, rfl⟩)
    | (go_at_call 142; (with_reducible refine (signed_20 (x / 4096 % 1048576) _ (by omega) (by omega)).mono ?_); rintro e w' ⟨rfl, rfl⟩))
  go_ret
  exact ⟨ret_int (by simp [toldV]), rfl⟩
end Go.Proofs.YtnaceogkaiodnaaGreat
namespace Go.Proofs.YtnaceogkaiodnaaGreat
open Go.RowKit
theorem told_J (x : Int) (w : World) (hx : 0 ≤ x) (hx' : x < 4294967296) :
    Calls Tryz.prog 121 #[(.string ⟨#[74]⟩), .int .u32 x] w fun e w' => e = .returned (.int .i64 (toldV .J x)) ∧ w = w' := by
  have b0 : 0 ≤ x / 2097152 % 1024 ∧ x / 2097152 % 1024 ≤ 1023 := by omega
  have b1 : 0 ≤ x / 1048576 % 2 ∧ x / 1048576 % 2 ≤ 1 := by omega
  have b2 : 0 ≤ x / 4096 % 256 ∧ x / 4096 % 256 ≤ 255 := by omega
  have b3 : 0 ≤ x / 2147483648 % 2 ∧ x / 2147483648 % 2 ≤ 1 := by omega
  go_enter Tryz.func121, Tryz.ntmps121
  go_wp2_with (first
    | (go_at_call 122; (with_reducible refine (field_21_10 x _ hx hx').mono ?_); rintro e w' ⟨rfl, rfl⟩)
    | (go_at_call 122; (with_reducible refine (field_20_1 x _ hx hx').mono ?_); rintro e w' ⟨rfl, rfl⟩)
    | (go_at_call 122; (with_reducible refine (field_12_8 x _ hx hx').mono ?_); rintro e w' ⟨rfl, rfl⟩)
    | (go_at_call 122; (with_reducible refine (field_31_1 x _ hx hx').mono ?_); rintro e w' ⟨rfl, rfl⟩)
    | (go_at_call 142; (with_reducible refine (signed_21 (x / 2097152 % 1024 * 2 + x / 1048576 % 2 * 2048 + x / 4096 % 256 * 4096 + x / 2147483648 % 2 * 1048576) _ (by omega) (by omega)).mono ?_); rintro e w' ⟨rfl, rfl⟩))
  go_ret
  exact ⟨ret_int (by simp [toldV]), rfl⟩
end Go.Proofs.YtnaceogkaiodnaaGreat
namespace Go.Proofs.YtnaceogkaiodnaaGreat
open Go.RowKit
theorem told_E (x : Int) (w : World) (hx : 0 ≤ x) (hx' : x < 4294967296) :
    Calls Tryz.prog 121 #[(.string ⟨#[69]⟩), .int .u32 x] w fun e w' => e = .returned (.int .i64 (toldV .E x)) ∧ w = w' := by
  go_enter Tryz.func121, Tryz.ntmps121
  go_wp2_with fail
  go_ret
  exact ⟨ret_int (by simp [toldV]), rfl⟩
end Go.Proofs.YtnaceogkaiodnaaGreat
namespace Go.Proofs.YtnaceogkaiodnaaGreat
open Go.RowKit
def formV (op : Int) : ByteArray := if 1 ≤ op ∧ op ≤ 63 then FormStr (rvRowN op.toNat).form else ⟨#[]⟩
end Go.Proofs.YtnaceogkaiodnaaGreat
namespace Go.Proofs.YtnaceogkaiodnaaGreat
open Go.RowKit
def TextDone (w : World) (s : ByteArray) (e : Ending) (w' : World) : Prop := e = .returned (.string s) ∧ Below w.heap.size w w'
end Go.Proofs.YtnaceogkaiodnaaGreat
