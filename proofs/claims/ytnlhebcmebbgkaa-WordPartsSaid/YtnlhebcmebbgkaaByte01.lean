/- What package word's Put and Get and the document's own return, and what the helpers of the statements do with slices of bytes: contracts for all numbers, sizes and slices of bytes, in whatever memory; what was there stays as it was. -/
import Derived.Test.YtnlhebcmebbgkaaRows
import Derived.Test.YtnlhebcmebbgkaaMath01
import Derived.Test.YtnlhebcmebbgkaaOwn
import Derived.Test.YtnlhebcmebbgkaaExt01
import Derived.WalkKit
import Derived.WalkSpells
import Derived.WalkLawsBesides
import Derived.ProofKit
import Derived.Lib.Hide
namespace Go.Proofs.Ytnlhebcmebbgkaa
open Go.RowKit
set_option linter.unusedVariables false

theorem u8_info : (Try.prog.info? 5).map (fun i => (i.zero, i.size, i.bytes)) = some (some (.int .u8 0), 1, 1) := by kernel_rfl
theorem zero_u8 : ∀ u ∈ (Value.int .u8 0).cells.toList, IsU8 u := by
  intro u hu
  simp [Value.cells] at hu
  subst hu
  exact ⟨0, by omega, by omega, rfl⟩

/-- The bytes of a number, the lowest first. -/
def byteV (a : Int) (k : Nat) : Int := a / 256 ^ k % 256
def bytesV (a : Int) (n : Nat) : List Int := (List.range n).map (byteV a)
theorem bytesV_len (a : Int) (n : Nat) : (bytesV a n).length = n := by simp [bytesV]
theorem bytesV_succ (a : Int) (n : Nat) : bytesV a (n + 1) = bytesV a n ++ [byteV a n] := by simp [bytesV, List.range_succ]
theorem byteV_bd (a : Int) (k : Nat) : 0 ≤ byteV a k ∧ byteV a k < 256 := by unfold byteV; omega
theorem bytesV_bd (a : Int) (n : Nat) : ∀ x ∈ bytesV a n, 0 ≤ x ∧ x < 256 := by
  intro x hx
  obtain ⟨k, _, rfl⟩ := List.mem_map.1 hx
  exact byteV_bd a k
theorem pow_256 (k : Nat) : (2 : Int) ^ (8 * k) = 256 ^ k := by rw [Int.pow_mul]; rfl

/-- What Put leaves: bytes of the call's own. -/
def PutDone (w : World) (xs : List Int) (e : Ending) (w' : World) : Prop :=
  ∃ v, e = .returned (.tuple #[v, .int .i64 0]) ∧ Owns w' w.heap.size 5 1 IsU8 v xs.length (xs.map (Value.int .u8)) ∧ Below w.heap.size w w'


theorem news_one (w : World) (x : Value) (t : TypeId) : ∀ j u, [x][j]? = some u → (w.alloc (.cells #[x] t)).cell? ((⟨w.heap.size, 0, none⟩ : Addr).add j) = some u := by
  exact World.news_of_block (cs := #[x]) (heap_alloc_new w _)
theorem byteV_shift (a : Int) (k : Nat) : a / 2 ^ (8 * k) % 256 = byteV a k := by rw [pow_256]; rfl
theorem put_step {w wr w1 : World} {v v' : Value} {a y : Int} {k : Nat} {t : TypeId} {o : Obj} (hy : y = byteV a k) (hb : Below w.heap.size w wr) (hown : Owns wr w.heap.size t 1 IsU8 v k ((bytesV a k).map (Value.int .u8)))
    (ho : Owns w1 w.heap.size t 1 IsU8 v' (k + 1) ((bytesV a k).map (Value.int .u8) ++ [.int .u8 y])) (hg : (wr.alloc o).grownBy w1 v.ownBlock) :
    Owns w1 w.heap.size t 1 IsU8 v' (k + 1) ((bytesV a (k + 1)).map (Value.int .u8)) ∧ Below w.heap.size w w1 := by
  refine ⟨?_, (hb.alloc hb.size o).grown hg (by have := hb.size; simp; omega) (fun g hg' => (hown.lt hg').1)⟩
  rw [bytesV_succ, List.map_append, ← hy]
  exact ho
theorem put_end {w w' : World} {v : Value} {a : Int} {k n : Nat} (h : Owns w' w.heap.size 5 1 IsU8 v k ((bytesV a k).map (Value.int .u8))) (hb : Below w.heap.size w w') (hk : k = n) : PutDone w (bytesV a n) (.returned (.tuple #[v, .int .i64 0])) w' := by
  subst hk
  exact ⟨v, rfl, by rw [bytesV_len]; exact h, hb⟩

set_option maxHeartbeats 1000000 in
theorem put_yes (a : Int) (n : Nat) (w : World) (ha : 0 ≤ a) (ha' : a < 18446744073709551616) (hs : sizedB n = true) :
    Calls Try.prog 16 #[.int .u64 a, .int .i64 n] w (PutDone w (bytesV a n)) := by
  obtain ⟨i0, hi, hz0, hz1, hz2⟩ := info_parts u8_info
  have hn8 : n ≤ 8 := by rcases sized_cases hs with h | h | h | h <;> omega
  have cs : ∀ w, Calls Try.prog 35 #[.int .i64 n] w fun e w' => e = .returned (.bool true) ∧ w = w' := fun w => hs ▸ isSize_any n w
  have CS := Lib.hid cs
  clear cs hs
  have HI := Lib.hid hi
  have HZ0 := Lib.hid hz0
  have HZ1 := Lib.hid hz1
  have HZ2 := Lib.hid hz2
  clear hi hz0 hz1 hz2
  go_enter Try.func16, Try.ntmps16
  go_wp2_with (go_at_call 35; (with_reducible refine (CS.out _).mono ?_); rintro e w' ⟨rfl, rfl⟩)
  go_loopw [6, 12] (fun v i wr => ∃ k : Nat, k ≤ n ∧ i = .int .i64 k ∧ Owns wr w.heap.size 5 1 IsU8 v k ((bytesV a k).map (Value.int .u8)) ∧ Below w.heap.size w wr) (fun _ i _ => n - (intOf i).toNat)
  case atStart => exact ⟨0, by omega, rfl, Owns.nil _ _ _ _ _, Below.refl _ _⟩
  case round =>
    obtain ⟨k, hk, rfl, hown, hb⟩ := hrel
    have hnx := hb.size
    have HO := Lib.hid hown
    have HB := Lib.hid hb
    clear hown hb
    by_cases hlt : k < n
    · go_wp2_with (at_builtin; refine wpList_append_q _ rfl (.tmp 15) (.tmp 21) 28 rfl w.heap.size 5 i0 _ 1 1 Try.underlying28 HI.out HZ0.out HZ1.out HZ2.out rfl (by decide) IsU8 zero_u8 _ k _ rfl (HO.out.alloc _) ⟨wr.heap.size, 0, none⟩ 1 1 [.int .u8 (a / 2 ^ (8 * k) % 256)] rfl rfl (news_one _ _ _) (by intro u hu; simp at hu; subst hu; rfl) (by intro u hu; simp at hu; subst hu; exact ⟨_, by omega, by omega, rfl⟩) (by simp only [maxLen]; omega) (by omega) (by simp; omega) ?_; intro v' w1 hown' hgrow; have R0 := Lib.hid (put_step (byteV_shift a k) HB.out HO.out hown' hgrow); clear hown' hgrow)
      go_roundw
      case rel => exact ⟨k + 1, by omega, by go_num, R0.out.1, R0.out.2⟩
      case measure => simp [intOf]; omega
    · go_wp2
      go_ret2
      exact put_end HO.out HB.out (by omega)
theorem put_no (a s : Int) (w : World) (hs : sizedB s = false) :
    Calls Try.prog 16 #[.int .u64 a, .int .i64 s] w fun e w' => e = .returned (.tuple #[.slice none 0 0, .int .i64 2]) ∧ w = w' := by
  have H := Lib.hid hs
  clear hs
  go_enter Try.func16, Try.ntmps16
  go_wp2_with (go_at_call 35; (with_reducible refine (isSize_any_no H.out _).mono ?_); rintro e w' ⟨rfl, rfl⟩)
  go_ret2
  exact ⟨rfl, rfl⟩

theorem byteV_down (a : Int) (k : Nat) : a / 256 ^ k / 256 = a / 256 ^ (k + 1) := by
  rw [Int.pow_succ, Int.ediv_mul_of_nonneg (by have : (0 : Int) < 256 ^ k := Int.pow_pos (by omega); omega)]
theorem down_bd {a : Int} (ha : 0 ≤ a) (k : Nat) : 0 ≤ a / 256 ^ k ∧ a / 256 ^ k ≤ a := ediv_bd ha (Int.pow_pos (by omega))
set_option maxHeartbeats 1000000 in
theorem rput_yes (a : Int) (n : Nat) (w : World) (ha : 0 ≤ a) (ha' : a < 18446744073709551616) (hs : sizedB n = true) :
    Calls Try.prog 17 #[.int .u64 a, .int .i64 n] w (PutDone w (bytesV a n)) := by
  obtain ⟨i0, hi, hz0, hz1, hz2⟩ := info_parts u8_info
  have hn8 : n ≤ 8 := by rcases sized_cases hs with h | h | h | h <;> omega
  have cs : ∀ w, Calls Try.prog 36 #[.int .i64 n] w fun e w' => e = .returned (.bool true) ∧ w = w' := fun w => hs ▸ sized_any n w
  have CS := Lib.hid cs
  clear cs hs
  have HI := Lib.hid hi
  have HZ0 := Lib.hid hz0
  have HZ1 := Lib.hid hz1
  have HZ2 := Lib.hid hz2
  clear hi hz0 hz1 hz2
  have h0 : a = a / 256 ^ 0 := by simp
  have H0 := Lib.hid h0
  clear h0
  go_enter Try.func17, Try.ntmps17
  go_wp2_with (go_at_call 36; (with_reducible refine (CS.out _).mono ?_); rintro e w' ⟨rfl, rfl⟩)
  go_loopw [0, 6, 7] (fun x v i wr => ∃ k : Nat, k ≤ n ∧ x = .int .u64 (a / 256 ^ k) ∧ i = .int .i64 k ∧ Owns wr w.heap.size 5 1 IsU8 v k ((bytesV a k).map (Value.int .u8)) ∧ Below w.heap.size w wr) (fun _ _ i _ => n - (intOf i).toNat)
  case atStart => exact ⟨0, by omega, congrArg (Value.int .u64) H0.out, rfl, Owns.nil _ _ _ _ _, Below.refl _ _⟩
  case round =>
    obtain ⟨k, hk, rfl, rfl, hown, hb⟩ := hrel
    have hnx := hb.size
    have HO := Lib.hid hown
    have HB := Lib.hid hb
    have hd := byteV_down a k
    have HD := Lib.hid hd
    obtain ⟨d1, d2⟩ := down_bd ha k
    clear hown hb hd
    by_cases hlt : k < n
    · go_wp2_with (at_builtin; refine wpList_append_q _ rfl (.tmp 16) (.tmp 20) 28 rfl w.heap.size 5 i0 _ 1 1 Try.underlying28 HI.out HZ0.out HZ1.out HZ2.out rfl (by decide) IsU8 zero_u8 _ k _ rfl (HO.out.alloc _) ⟨wr.heap.size, 0, none⟩ 1 1 [.int .u8 (a / 256 ^ k % 256)] rfl rfl (news_one _ _ _) (by intro u hu; simp at hu; subst hu; rfl) (by intro u hu; simp at hu; subst hu; exact ⟨_, by omega, by omega, rfl⟩) (by simp only [maxLen]; omega) (by omega) (by simp; omega) ?_; intro v' w1 hown' hgrow; have R0 := Lib.hid (put_step (a := a) (k := k) rfl HB.out HO.out hown' hgrow); clear hown' hgrow)
      go_roundw
      case rel => exact ⟨k + 1, by omega, congrArg (Value.int .u64) HD.out, by go_num, R0.out.1, R0.out.2⟩
      case measure => simp [intOf]; omega
    · go_wp2
      go_ret2
      exact put_end HO.out HB.out (by omega)
theorem rput_no (a s : Int) (w : World) (hs : sizedB s = false) :
    Calls Try.prog 17 #[.int .u64 a, .int .i64 s] w fun e w' => e = .returned (.tuple #[.slice none 0 0, .int .i64 2]) ∧ w = w' := by
  have H := Lib.hid hs
  clear hs
  go_enter Try.func17, Try.ntmps17
  go_wp2_with (go_at_call 36; (with_reducible refine (sized_any_no H.out _).mono ?_); rintro e w' ⟨rfl, rfl⟩)
  go_ret2
  exact ⟨rfl, rfl⟩


/-- The number that bytes are, the lowest first. -/
def numV : List Int → Int
  | [] => 0
  | x :: xs => x + 256 * numV xs
def getV (xs : List Int) : Int := if 8 < xs.length then 0 else if sizedB xs.length = true then numV xs else 0
def getE (xs : List Int) : Int := if 8 < xs.length then 3 else if sizedB xs.length = true then 0 else 2
theorem numV_bd : ∀ {xs : List Int}, (∀ x ∈ xs, 0 ≤ x ∧ x < 256) → 0 ≤ numV xs ∧ numV xs < 256 ^ xs.length
  | [], _ => by simp [numV]
  | x :: xs, h => by
    have ih := numV_bd (xs := xs) (fun y hy => h y (by simp [hy]))
    have hx := h x (by simp)
    simp only [numV, List.length_cons, Int.pow_succ]
    generalize (256 : Int) ^ xs.length = p at *
    omega
theorem numV_snoc : ∀ (xs : List Int) (y : Int), numV (xs ++ [y]) = numV xs + y * 256 ^ xs.length
  | [], y => by simp [numV]
  | x :: xs, y => by
    simp only [List.cons_append, numV, numV_snoc xs y, List.length_cons, Int.pow_succ]
    rw [show y * (256 ^ xs.length * 256) = 256 * (y * 256 ^ xs.length) by
      generalize (256 : Int) ^ xs.length = p
      rw [Int.mul_comm p 256, ← Int.mul_assoc, Int.mul_comm y 256, Int.mul_assoc]]
    omega
theorem take_snoc' {xs : List Int} {k : Nat} (h : k < xs.length) : xs.take (k + 1) = xs.take k ++ [xs.getD k 0] := by
  rw [List.take_succ_eq_append_getElem h]
  simp [List.getD, List.getElem?_eq_getElem h]
theorem drop_cons' {xs : List Int} {k : Nat} (h : k < xs.length) : xs.drop k = xs.getD k 0 :: xs.drop (k + 1) := by
  rw [List.drop_eq_getElem_cons h]
  simp [List.getD, List.getElem?_eq_getElem h]
theorem pow_le_64 {n : Nat} (h : n ≤ 8) : (256 : Int) ^ n ≤ 18446744073709551616 := by
  have hn : n = 0 ∨ n = 1 ∨ n = 2 ∨ n = 3 ∨ n = 4 ∨ n = 5 ∨ n = 6 ∨ n = 7 ∨ n = 8 := by omega
  rcases hn with rfl | rfl | rfl | rfl | rfl | rfl | rfl | rfl | rfl <;> decide
/-- 'or' of a number below a power of two and a multiple of it is their sum. -/
theorem or_add {x y : Int} {k : Nat} (hx : 0 ≤ x) (hx' : x < 256 ^ k) (hy : 0 ≤ y) (h : y * 256 ^ k < 18446744073709551616) (hk : k ≤ 8) :
    bits .or .u64 x (y * 256 ^ k) = x + y * 256 ^ k := by
  obtain ⟨a, rfl⟩ := Int.eq_ofNat_of_zero_le hx
  obtain ⟨b, rfl⟩ := Int.eq_ofNat_of_zero_le hy
  have hp : (256 : Int) ^ k = ((2 ^ (8 * k) : Nat) : Int) := by rw [← pow_256]; simp
  have hle := pow_le_64 hk
  rw [hp] at hx' h hle ⊢
  have h1 : a < 2 ^ (8 * k) := by exact_mod_cast hx'
  have key := Nat.two_pow_add_eq_or_of_lt h1 b
  have hm : (b : Int) * ((2 ^ (8 * k) : Nat) : Int) = ((2 ^ (8 * k) * b : Nat) : Int) := by rw [Int.natCast_mul, Int.mul_comm]
  rw [hm] at h ⊢
  generalize (2 ^ (8 * k) : Nat) = q at *
  rw [bits_or_u64_nat a (q * b) (by omega) (by omega), Nat.or_comm, ← key]
  omega


theorem get_long (X : Value) (xs : List Int) (w : World) (B : Nat) (hX : IsBytes w B X xs) (h : 8 < xs.length) :
    Calls Try.prog 18 #[X] w fun e w' => e = .returned (.tuple #[.int .u64 (getV xs), .int .i64 (getE xs)]) ∧ w = w' := by
  rw [show getV xs = 0 by unfold getV; rw [if_pos h], show getE xs = 3 by unfold getE; rw [if_pos h]]
  obtain ⟨A, cap, rfl⟩ := hX.len
  have hm := hX.2.1
  unfold maxLen at hm
  have h8 : (8 : Int) < (xs.length : Int) := by omega
  clear hX h
  go_enter Try.func18, Try.ntmps18
  go_wp2
  go_ret2
  exact ⟨rfl, rfl⟩
theorem get_odd (X : Value) (xs : List Int) (w : World) (B : Nat) (hX : IsBytes w B X xs) (h : ¬ 8 < xs.length) (hs : sizedB xs.length = false) :
    Calls Try.prog 18 #[X] w fun e w' => e = .returned (.tuple #[.int .u64 (getV xs), .int .i64 (getE xs)]) ∧ w = w' := by
  rw [show getV xs = 0 by unfold getV; rw [if_neg h, if_neg (by simp [hs])], show getE xs = 2 by unfold getE; rw [if_neg h, if_neg (by simp [hs])]]
  obtain ⟨A, cap, rfl⟩ := hX.len
  have h8 : ¬ (8 : Int) < (xs.length : Int) := by omega
  have HS := Lib.hid hs
  clear hX h hs
  go_enter Try.func18, Try.ntmps18
  go_wp2_with (go_at_call 35; (with_reducible refine (isSize_any_no HS.out _).mono ?_); rintro e w' ⟨rfl, rfl⟩)
  go_ret2
  exact ⟨rfl, rfl⟩

theorem rget_long (X : Value) (xs : List Int) (w : World) (B : Nat) (hX : IsBytes w B X xs) (h : 8 < xs.length) :
    Calls Try.prog 19 #[X] w fun e w' => e = .returned (.tuple #[.int .u64 (getV xs), .int .i64 (getE xs)]) ∧ w = w' := by
  rw [show getV xs = 0 by unfold getV; rw [if_pos h], show getE xs = 3 by unfold getE; rw [if_pos h]]
  obtain ⟨A, cap, rfl⟩ := hX.len
  have hm := hX.2.1
  unfold maxLen at hm
  have h8 : (8 : Int) < (xs.length : Int) := by omega
  clear hX h
  go_enter Try.func19, Try.ntmps19
  go_wp2
  go_ret2
  exact ⟨rfl, rfl⟩
theorem rget_odd (X : Value) (xs : List Int) (w : World) (B : Nat) (hX : IsBytes w B X xs) (h : ¬ 8 < xs.length) (hs : sizedB xs.length = false) :
    Calls Try.prog 19 #[X] w fun e w' => e = .returned (.tuple #[.int .u64 (getV xs), .int .i64 (getE xs)]) ∧ w = w' := by
  rw [show getV xs = 0 by unfold getV; rw [if_neg h, if_neg (by simp [hs])], show getE xs = 2 by unfold getE; rw [if_neg h, if_neg (by simp [hs])]]
  obtain ⟨A, cap, rfl⟩ := hX.len
  have h8 : ¬ (8 : Int) < (xs.length : Int) := by omega
  have HS := Lib.hid hs
  clear hX h hs
  go_enter Try.func19, Try.ntmps19
  go_wp2_with (go_at_call 36; (with_reducible refine (sized_any_no HS.out _).mono ?_); rintro e w' ⟨rfl, rfl⟩)
  go_ret2
  exact ⟨rfl, rfl⟩

theorem get_step {xs : List Int} {k : Nat} (hx : ∀ x ∈ xs, 0 ≤ x ∧ x < 256) (hk : k < xs.length) (h8 : xs.length ≤ 8) :
    bits .or .u64 (numV (xs.take k)) (xs.getD k 0 * 2 ^ (8 * k) % 18446744073709551616) = numV (xs.take (k + 1)) := by
  have hy : 0 ≤ xs.getD k 0 ∧ xs.getD k 0 < 256 := by
    have : xs.getD k 0 = xs[k] := by simp [List.getD, List.getElem?_eq_getElem hk]
    rw [this]
    exact hx _ (List.getElem_mem hk)
  have hb := numV_bd (xs := xs.take k) (fun y hy => hx y (List.mem_of_mem_take hy))
  have hl : (xs.take k).length = k := by simp; omega
  rw [hl] at hb
  have hp : (0 : Int) < 256 ^ k := Int.pow_pos (by omega)
  have hn := pow_le_64 (n := k + 1) (by omega)
  rw [Int.pow_succ] at hn
  have hlt : xs.getD k 0 * 256 ^ k < 18446744073709551616 := by
    have h1 : xs.getD k 0 * 256 ^ k ≤ 255 * 256 ^ k := Int.mul_le_mul_of_nonneg_right (by omega) (by omega)
    generalize (256 : Int) ^ k = p at *
    omega
  have h0 : 0 ≤ xs.getD k 0 * 256 ^ k := Int.mul_nonneg hy.1 (by omega)
  rw [pow_256, Int.emod_eq_of_lt h0 hlt, or_add hb.1 hb.2 hy.1 hlt (by omega), take_snoc' hk, numV_snoc, hl]
theorem getD_bd {xs : List Int} (hx : ∀ x ∈ xs, 0 ≤ x ∧ x < 256) {k : Nat} (hk : k < xs.length) : 0 ≤ xs.getD k 0 ∧ xs.getD k 0 < 256 := by
  have : xs.getD k 0 = xs[k] := by simp [List.getD, List.getElem?_eq_getElem hk]
  rw [this]
  exact hx _ (List.getElem_mem hk)
theorem drop_bd {xs : List Int} (hx : ∀ x ∈ xs, 0 ≤ x ∧ x < 256) (h8 : xs.length ≤ 8) (k : Nat) : 0 ≤ numV (xs.drop (k + 1)) ∧ 256 * numV (xs.drop (k + 1)) + 255 < 18446744073709551616 ∨ xs.length ≤ k := by
  rcases Nat.lt_or_ge k xs.length with hk | hk
  · left
    have hb := numV_bd (xs := xs.drop (k + 1)) (fun y hy => hx y (List.mem_of_mem_drop hy))
    have hl : (xs.drop (k + 1)).length = xs.length - (k + 1) := by simp
    rw [hl] at hb
    have hn := pow_le_64 (n := xs.length - (k + 1) + 1) (by omega)
    rw [Int.pow_succ] at hn
    generalize (256 : Int) ^ (xs.length - (k + 1)) = p at *
    omega
  · exact .inr hk
theorem get_bd {xs : List Int} (hx : ∀ x ∈ xs, 0 ≤ x ∧ x < 256) : 0 ≤ getV xs ∧ getV xs < 18446744073709551616 := by
  unfold getV
  split
  · omega
  · split
    · have h := numV_bd hx
      have h2 := pow_le_64 (n := xs.length) (by omega)
      omega
    · omega
set_option maxHeartbeats 1000000 in
theorem get_fit (X : Value) (xs : List Int) (w : World) (B : Nat) (hX : IsBytes w B X xs) (h : ¬ 8 < xs.length) (hs : sizedB xs.length = true) :
    Calls Try.prog 18 #[X] w fun e w' => e = .returned (.tuple #[.int .u64 (getV xs), .int .i64 (getE xs)]) ∧ w = w' := by
  rw [show getV xs = numV xs by unfold getV; rw [if_neg h, if_pos hs], show getE xs = 0 by unfold getE; rw [if_neg h, if_pos hs]]
  have hpos : 0 < xs.length := by rcases sized_cases hs with h | h | h | h <;> omega
  obtain ⟨b, off, cap, rfl, hcap, hlt, hc⟩ := hX.plain hpos
  have hx := hX.1
  have h8 : ¬ (8 : Int) < (xs.length : Int) := by omega
  have cs : ∀ w, Calls Try.prog 35 #[.int .i64 xs.length] w fun e w' => e = .returned (.bool true) ∧ w = w' := fun w => hs ▸ isSize_any _ w
  have CS := Lib.hid cs
  have HC := Lib.hid hc
  have HX := Lib.hid hx
  obtain ⟨n, hn⟩ : ∃ n, n = xs.length := ⟨_, rfl⟩
  have hn8 : n ≤ 8 := by omega
  rw [← hn] at hcap h8 CS HC ⊢
  have HN := Lib.hid hn
  clear cs hs hc hx h hX hpos hlt hn
  go_enter Try.func18, Try.ntmps18
  go_wp2_with (go_at_call 35; (with_reducible refine (CS.out _).mono ?_); rintro e w' ⟨rfl, rfl⟩)
  go_loop [4, 17] (fun x i => ∃ k : Nat, k ≤ n ∧ i = .int .i64 k ∧ x = .int .u64 (numV (xs.take k))) (fun _ i => n - (intOf i).toNat)
  case atStart => exact ⟨0, by omega, rfl, rfl⟩
  case round =>
    obtain ⟨k, hk, rfl, rfl⟩ := hrel
    by_cases hlt : k < n
    · have hcell := HC.out k hlt
      have hst := get_step HX.out (k := k) (by rw [← HN.out]; exact hlt) (by rw [← HN.out]; exact hn8)
      have HST := Lib.hid hst
      obtain ⟨y1, y2⟩ := getD_bd HX.out (k := k) (by rw [← HN.out]; exact hlt)
      obtain ⟨y, hy⟩ : ∃ y, y = xs.getD k 0 := ⟨_, rfl⟩
      rw [← hy] at hcell y1 y2
      have HY := Lib.hid hy
      clear hst hy
      go_wp2
      go_round
      case rel => exact ⟨k + 1, by omega, by go_num, by rw [← HST.out, ← HY.out]; simp only [IntKind.wrap_u64]⟩
      case measure => simp [intOf]; omega
    · go_wp2
      go_ret2
      exact ⟨ret_int2 (by rw [List.take_of_length_le (by have := HN.out; omega)]) rfl, rfl⟩
set_option maxHeartbeats 1000000 in
theorem rget_fit (X : Value) (xs : List Int) (w : World) (B : Nat) (hX : IsBytes w B X xs) (h : ¬ 8 < xs.length) (hs : sizedB xs.length = true) :
    Calls Try.prog 19 #[X] w fun e w' => e = .returned (.tuple #[.int .u64 (getV xs), .int .i64 (getE xs)]) ∧ w = w' := by
  rw [show getV xs = numV xs by unfold getV; rw [if_neg h, if_pos hs], show getE xs = 0 by unfold getE; rw [if_neg h, if_pos hs]]
  have hpos : 0 < xs.length := by rcases sized_cases hs with h | h | h | h <;> omega
  obtain ⟨b, off, cap, rfl, hcap, hlt, hc⟩ := hX.plain hpos
  have hx := hX.1
  have h8 : ¬ (8 : Int) < (xs.length : Int) := by omega
  have cs : ∀ w, Calls Try.prog 36 #[.int .i64 xs.length] w fun e w' => e = .returned (.bool true) ∧ w = w' := fun w => hs ▸ sized_any _ w
  have CS := Lib.hid cs
  have HC := Lib.hid hc
  have HX := Lib.hid hx
  obtain ⟨n, hn⟩ : ∃ n, n = xs.length := ⟨_, rfl⟩
  have hn8 : n ≤ 8 := by omega
  rw [← hn] at hcap h8 CS HC ⊢
  have HN := Lib.hid hn
  clear cs hs hc hx h hX hpos hlt hn
  go_enter Try.func19, Try.ntmps19
  go_wp2_with (go_at_call 36; (with_reducible refine (CS.out _).mono ?_); rintro e w' ⟨rfl, rfl⟩)
  go_loop [4, 5] (fun x i => ∃ k : Nat, k ≤ n ∧ i = .int .i64 ((k : Int) - 1) ∧ x = .int .u64 (numV (xs.drop k))) (fun _ i => (intOf i + 1).toNat)
  case atStart => exact ⟨n, by omega, rfl, by rw [List.drop_of_length_le (by have := HN.out; omega)]; rfl⟩
  case round =>
    obtain ⟨k, hk, rfl, rfl⟩ := hrel
    by_cases hlt : 0 < k
    · obtain ⟨j, rfl⟩ : ∃ j, k = j + 1 := ⟨k - 1, by omega⟩
      have hcell := HC.out j (by omega)
      have hst : numV (xs.drop j) = xs.getD j 0 + 256 * numV (xs.drop (j + 1)) := by rw [drop_cons' (k := j) (by have := HN.out; omega)]; rfl
      obtain ⟨y1, y2⟩ := getD_bd HX.out (k := j) (by have := HN.out; omega)
      obtain ⟨z1, z2⟩ : 0 ≤ numV (xs.drop (j + 1)) ∧ 256 * numV (xs.drop (j + 1)) + 255 < 18446744073709551616 := by
        rcases drop_bd HX.out (by have := HN.out; omega) j with h | h
        · exact h
        · have := HN.out; omega
      obtain ⟨y, hy⟩ : ∃ y, y = xs.getD j 0 := ⟨_, rfl⟩
      obtain ⟨z, hz⟩ : ∃ z, z = numV (xs.drop (j + 1)) := ⟨_, rfl⟩
      rw [← hy] at hcell y1 y2 hst
      rw [← hz] at z1 z2 hst ⊢
      have HST := Lib.hid hst
      have e1 : ((j + 1 : Nat) : Int) - 1 = (j : Int) := by omega
      rw [e1]
      clear hst hy hz e1
      go_wp2
      go_round
      case rel => exact ⟨j, by omega, by go_num, by rw [HST.out]; first | done | (congr 1; omega)⟩
      case measure => simp [intOf]
    · obtain rfl : k = 0 := by omega
      go_wp2
      go_ret2
      exact ⟨ret_int2 (by simp) rfl, rfl⟩

theorem get_any (X : Value) (xs : List Int) (w : World) (B : Nat) (hX : IsBytes w B X xs) :
    Calls Try.prog 18 #[X] w fun e w' => e = .returned (.tuple #[.int .u64 (getV xs), .int .i64 (getE xs)]) ∧ w = w' := by
  by_cases h : 8 < xs.length
  · exact get_long X xs w B hX h
  · cases hs : sizedB xs.length
    · exact get_odd X xs w B hX h hs
    · exact get_fit X xs w B hX h hs
theorem rget_any (X : Value) (xs : List Int) (w : World) (B : Nat) (hX : IsBytes w B X xs) :
    Calls Try.prog 19 #[X] w fun e w' => e = .returned (.tuple #[.int .u64 (getV xs), .int .i64 (getE xs)]) ∧ w = w' := by
  by_cases h : 8 < xs.length
  · exact rget_long X xs w B hX h
  · cases hs : sizedB xs.length
    · exact rget_odd X xs w B hX h hs
    · exact rget_fit X xs w B hX h hs

theorem sameBytes_any (X Y : Value) (xs ys : List Int) (w : World) (B C : Nat) (hX : IsBytes w B X xs) (hY : IsBytes w C Y ys) :
    Calls Try.prog 20 #[X, Y] w fun e w' => e = .returned (.bool (xs == ys)) ∧ w = w' := by
  have cx := conv_bytes (P := Try.prog) hX Try.underlying28 Try.underlying5 Try.underlying9
  have cy := conv_bytes (P := Try.prog) hY Try.underlying28 Try.underlying5 Try.underlying9
  have e := beq_strOfNums hX.1 hY.1
  have E := Lib.hid e
  clear e hX hY
  go_enter Try.func20, Try.ntmps20
  go_wp2
  go_ret
  exact ⟨ret_bool E.out, rfl⟩
theorem sameBytes_yes (X Y : Value) (xs : List Int) (w : World) (B C : Nat) (hX : IsBytes w B X xs) (hY : IsBytes w C Y xs) :
    Calls Try.prog 20 #[X, Y] w fun e w' => e = .returned (.bool true) ∧ w = w' := by
  have h := sameBytes_any X Y xs xs w B C hX hY
  rw [beq_self_eq_true] at h
  exact h

/-- What CopyBytes and LentBytes leave. -/
def CopyDone (w : World) (xs : List Int) (e : Ending) (w' : World) : Prop :=
  ∃ v, e = .returned v ∧ Owns w' w.heap.size 5 1 IsU8 v xs.length (xs.map (Value.int .u8)) ∧ Below w.heap.size w w'
theorem copy_none (w : World) : Calls Try.prog 34 #[.slice none 0 0] w (CopyDone w []) := by
  go_enter Try.func34, Try.ntmps34
  go_wp2
  go_ret
  exact ⟨_, rfl, Owns.made w _ _ _ _ (Nat.le_refl _), (Below.refl _ _).alloc (Nat.le_refl _) _⟩
theorem copy_some (ad : Addr) (cap : Nat) (xs : List Int) (w : World) (hx : ∀ x ∈ xs, 0 ≤ x ∧ x < 256) (hm : xs.length ≤ 140737488355328) (hc : ∀ i, i < xs.length → w.cell? (ad.add i) = some (.int .u8 (xs.getD i 0))) (hb : 0 < xs.length → ad.block < w.heap.size) :
    Calls Try.prog 34 #[.slice (some ad) xs.length cap] w (CopyDone w xs) := by
  obtain ⟨i0, hi, hz0, hz1, hz2⟩ := info_parts u8_info
  have HI := Lib.hid hi
  have HZ0 := Lib.hid hz0
  have HZ1 := Lib.hid hz1
  have HZ2 := Lib.hid hz2
  have news : ∀ j u, (xs.map (Value.int .u8))[j]? = some u → (w.alloc (.cells #[] 5)).cell? (ad.add j) = some u := by
    intro j u hj
    have hl : j < xs.length := by
      rcases Nat.lt_or_ge j xs.length with h | h
      · exact h
      · rw [List.getElem?_eq_none (by simpa using h)] at hj
        cases hj
    have hbl : (ad.add j).block = ad.block := by unfold Addr.add; split <;> rfl
    rw [World.cell?_alloc_lt w _ _ (by rw [hbl]; exact hb (by omega)), hc j hl]
    simp [List.getElem?_eq_getElem hl] at hj
    subst hj
    simp [List.getD, List.getElem?_eq_getElem hl]
  have hmade := Owns.made w w.heap.size 5 1 IsU8 (Nat.le_refl _)
  have HN := Lib.hid news
  have HM := Lib.hid hmade
  have HK := Lib.hid (u8_cells hx)
  clear hi hz0 hz1 hz2 news hmade hc hb hx
  go_enter Try.func34, Try.ntmps34
  go_wp2_with (at_builtin; refine wpList_append_q _ rfl (.tmp 3) (.tmp 4) 28 rfl w.heap.size 5 i0 _ 1 1 Try.underlying28 HI.out HZ0.out HZ1.out HZ2.out rfl (by decide) IsU8 zero_u8 _ 0 [] rfl HM.out ad xs.length cap (xs.map (Value.int .u8)) rfl (by simp) HN.out (ints_oneCell _ _) HK.out (by simp only [maxLen]; omega) (by omega) (by simp) ?_; intro v' w1 hown' hgrow; have R0 := Lib.hid hown'; have R1 := Lib.hid hgrow; clear hown' hgrow)
  go_ret
  refine ⟨_, rfl, ?_, ((Below.refl _ _).alloc (Nat.le_refl _) _).grown R1.out (by simp) (fun g hg => (HM.out.lt hg).1)⟩
  have h := R0.out
  simpa using h
theorem copy_any (X : Value) (xs : List Int) (w : World) (hX : IsBytes w w.heap.size X xs) (hm : xs.length ≤ 140737488355328) : Calls Try.prog 34 #[X] w (CopyDone w xs) := by
  rcases hX.2.2 with ⟨rfl, rfl⟩ | ⟨ad, cap, rfl, h1, h2, h3⟩
  · exact copy_none w
  · exact copy_some ad cap xs w hX.1 hm h3 h2


/-- A list that is lent: in a block of its own, three marks behind it. -/
def Lent (w : World) (g : Nat) (xs : List Int) : Prop := ∃ cur, w.heap[g]? = some (.cells cur 5 (0, 0)) ∧ cur.toList.take (xs.length + 3) = (xs ++ [77, 201, 5]).map (Value.int .u8)
theorem Lent.below {w w' : World} {g B : Nat} {xs : List Int} (h : Lent w g xs) (hb : Below B w w') (hg : g < B) : Lent w' g xs := by
  obtain ⟨cur, h1, h2⟩ := h
  exact ⟨cur, (hb.block g hg).trans h1, h2⟩
theorem Lent.lt {w : World} {g : Nat} {xs : List Int} (h : Lent w g xs) : g < w.heap.size := by
  obtain ⟨cur, h1, _⟩ := h
  rcases Nat.lt_or_ge g w.heap.size with h | h
  · exact h
  · rw [Array.getElem?_eq_none h] at h1
    cases h1
theorem Lent.cell {w : World} {g : Nat} {xs : List Int} (h : Lent w g xs) {i : Nat} (hi : i < xs.length + 3) : w.cell? ⟨g, i, none⟩ = some (.int .u8 ((xs ++ [77, 201, 5]).getD i 0)) := by
  obtain ⟨cur, h1, h2⟩ := h
  have hl : i < (xs ++ [77, 201, 5]).length := by simp; omega
  have h3 : ((xs ++ [77, 201, 5]).map (Value.int .u8))[i]? = some (.int .u8 ((xs ++ [77, 201, 5]).getD i 0)) := by
    rw [List.getElem?_map, List.getElem?_eq_getElem hl]
    simp [List.getD, List.getElem?_eq_getElem hl]
  rw [← h2, List.getElem?_take] at h3
  rw [if_pos hi] at h3
  simp [World.cell?, h1]
  simpa using h3
theorem Lent.bytes {w : World} {g B cap : Nat} {xs : List Int} (h : Lent w g xs) (hx : ∀ x ∈ xs, 0 ≤ x ∧ x < 256) (hm : xs.length ≤ maxLen) (hB : g < B) (hc : xs.length ≤ cap) : IsBytes w B (.slice (some ⟨g, 0, none⟩) xs.length cap) xs := by
  refine ⟨hx, hm, .inr ⟨⟨g, 0, none⟩, cap, rfl, hc, fun _ => hB, fun i hi => ?_⟩⟩
  have e : (⟨g, 0, none⟩ : Addr).add i = ⟨g, i, none⟩ := by unfold Addr.add; split <;> simp_all
  rw [e, h.cell (by omega)]
  simp [List.getD, List.getElem?_append_left hi]
theorem Lent.marks {w : World} {g B cap : Nat} {xs : List Int} (h : Lent w g xs) (hB : g < B) (hc : 3 ≤ cap) : IsBytes w B (.slice (some ⟨g, xs.length, none⟩) 3 cap) [77, 201, 5] := by
  refine ⟨by intro x hx; simp at hx; omega, by simp [maxLen], .inr ⟨⟨g, xs.length, none⟩, cap, rfl, by simpa using hc, fun _ => hB, fun i hi => ?_⟩⟩
  have hi3 : i < 3 := by simpa using hi
  have e : (⟨g, xs.length, none⟩ : Addr).add i = ⟨g, xs.length + i, none⟩ := by unfold Addr.add; split <;> simp_all
  rw [e, h.cell (by omega)]
  simp [List.getD, List.getElem?_append_right]
def LentDone (w : World) (xs : List Int) (e : Ending) (w' : World) : Prop :=
  ∃ g, e = .returned (.slice (some ⟨g, 0, none⟩) xs.length (xs.length + 3)) ∧ w.heap.size ≤ g ∧ Lent w' g xs ∧ Below w.heap.size w w'
theorem marks_cells (w : World) : ∀ j u, ([77, 201, 5].map (Value.int .u8))[j]? = some u → (w.alloc (.cells #[.int .u8 77, .int .u8 201, .int .u8 5] 5)).cell? ((⟨w.heap.size, 0, none⟩ : Addr).add j) = some u :=
  World.news_of_block (cs := #[.int .u8 77, .int .u8 201, .int .u8 5]) (heap_alloc_new w _)
theorem lent_form {w : World} {base : Nat} {v : Value} {xs : List Int} (h : Owns w base 5 1 IsU8 v (xs.length + 3) (xs.map (Value.int .u8) ++ [77, 201, 5].map (Value.int .u8))) :
    ∃ g cap, v = .slice (some ⟨g, 0, none⟩) (xs.length + 3) cap ∧ base ≤ g ∧ xs.length + 3 ≤ cap ∧ cap ≤ 9223372036854775807 ∧ Lent w g xs := by
  rcases h.1.2 with ⟨_, h0⟩ | ⟨g, cap, cur, hv, h1, h2, h3, h4, _, h6⟩
  · omega
  · unfold maxLen at h4
    exact ⟨g, cap, hv, h1, h3, by omega, cur, h2, by rw [List.map_append, ← h6, Nat.mul_one]⟩
set_option maxHeartbeats 1000000 in
theorem lent_any (X : Value) (xs : List Int) (w : World) (hX : IsBytes w w.heap.size X xs) (hm : xs.length ≤ 140737488355000) : Calls Try.prog 15 #[X] w (LentDone w xs) := by
  obtain ⟨i0, hi, hz0, hz1, hz2⟩ := info_parts u8_info
  have HI := Lib.hid hi
  have HZ0 := Lib.hid hz0
  have HZ1 := Lib.hid hz1
  have HZ2 := Lib.hid hz2
  have HC := Lib.hid (copy_any X xs w hX (by omega))
  obtain ⟨A, cap, rfl⟩ := hX.len
  clear hi hz0 hz1 hz2 hX
  go_enter Try.func15, Try.ntmps15
  go_wp2_with (first
    | (go_at_call 34; refine HC.out.mono ?_; rintro e w1 ⟨v, rfl, hown, hbel⟩; have hsz := hbel.size; have HO := Lib.hid hown; have HB := Lib.hid hbel; clear hown hbel)
    | (at_builtin; refine wpList_append_q _ rfl (.tmp 5) (.tmp 6) 28 rfl w.heap.size 5 i0 _ 1 1 Try.underlying28 HI.out HZ0.out HZ1.out HZ2.out rfl (by decide) IsU8 zero_u8 _ xs.length (xs.map (Value.int .u8)) rfl (HO.out.alloc _) ⟨w1.heap.size, 0, none⟩ 3 3 ([77, 201, 5].map (Value.int .u8)) rfl (by simp) (marks_cells w1) (ints_oneCell _ _) (u8_cells (by intro x hx; simp at hx; omega)) (by simp only [maxLen]; omega) (by omega) (by simp; omega) ?_; intro v' w2 hown' hgrow; obtain ⟨g, cap2, rfl, q1, q2, q3, q4⟩ := lent_form hown'; have R0 := Lib.hid q4; have R1 := Lib.hid hgrow; clear hown' hgrow q4))
  go_ret
  exact ⟨g, rfl, q1, R0.out, ((HB.out.alloc hsz _).grown R1.out (by simp; omega) (fun k hk => (HO.out.lt hk).1))⟩


set_option maxHeartbeats 1000000 in
theorem kept_yes (Y : Value) (xs : List Int) (g : Nat) (w : World) (B : Nat) (hL : Lent w g xs) (hY : IsBytes w B Y xs) (hm : xs.length ≤ 140737488355000) :
    Calls Try.prog 26 #[.slice (some ⟨g, 0, none⟩) xs.length (xs.length + 3), Y] w fun e w' => e = .returned (.bool true) ∧ Below w.heap.size w w' := by
  have h1 : IsBytes w w.heap.size (.slice (some ⟨g, 0, none⟩) xs.length (xs.length + 3)) xs := hL.bytes hY.1 (by simp only [maxLen]; omega) hL.lt (by omega)
  have C1 := Lib.hid (sameBytes_yes _ _ xs w _ _ h1 hY)
  have h2 : ∀ cap, 3 ≤ cap → IsBytes (w.alloc (.cells #[.int .u8 77, .int .u8 201, .int .u8 5] 5)) (w.heap.size + 1) (.slice (some ⟨g, xs.length, none⟩) 3 cap) [77, 201, 5] := fun cap hc => (hL.below ((Below.refl _ _).alloc (Nat.le_refl _) _) hL.lt).marks (by have := hL.lt; omega) hc
  have h3 : IsBytes (w.alloc (.cells #[.int .u8 77, .int .u8 201, .int .u8 5] 5)) (w.heap.size + 1) (.slice (some ⟨w.heap.size, 0, none⟩) 3 3) [77, 201, 5] := by
    refine ⟨by intro x hx; simp at hx; omega, by simp [maxLen], .inr ⟨⟨w.heap.size, 0, none⟩, 3, rfl, by simp, fun _ => by simp, fun i hi => ?_⟩⟩
    have := marks_cells w i (.int .u8 ([77, 201, 5].getD i 0)) (by rw [List.getElem?_map, List.getElem?_eq_getElem hi]; simp [List.getD, List.getElem?_eq_getElem hi])
    exact this
  have C2 := Lib.hid (fun cap hc => sameBytes_yes _ _ [77, 201, 5] _ _ _ (h2 cap hc) h3)
  obtain ⟨A, cap, rfl⟩ := hY.len
  clear hL hY h1 h2 h3
  go_enter Try.func26, Try.ntmps26
  go_wp2_with (first
    | (go_at_call 20; (with_reducible refine C1.out.mono ?_); rintro e w' ⟨rfl, rfl⟩)
    | (go_at_call 20; refine (C2.out _ (by omega)).mono ?_; rintro e w' ⟨rfl, rfl⟩))
  go_ret
  exact ⟨rfl, (Below.refl _ _).alloc (Nat.le_refl _) _⟩


/-- A block of so many bytes. -/
def Full (w : World) (g cap : Nat) : Prop := ∃ cur, w.heap[g]? = some (.cells cur 5 (0, 0)) ∧ cur.size = cap ∧ ∀ u ∈ cur.toList, IsU8 u
theorem Full.cell {w : World} {g cap : Nat} (h : Full w g cap) {k : Nat} (hk : k < cap) : ∃ y : Int, 0 ≤ y ∧ y < 256 ∧ w.cell? ⟨g, k, none⟩ = some (.int .u8 y) ∧ w.frozen? ⟨g, k, none⟩ = false := by
  obtain ⟨cur, h1, h2, h3⟩ := h
  obtain ⟨y, y1, y2, hy⟩ := h3 (cur[k]'(by omega)) (by simp)
  refine ⟨y, y1, y2, ?_, frozen_of_row w g k cur _ h1⟩
  rw [cell_of_row w g k cur _ _ h1, Array.getElem?_eq_getElem (by omega), hy]
theorem Full.set {w : World} {g cap : Nat} (h : Full w g cap) (k : Nat) {u : Value} (hu : IsU8 u) : Full (w.setCell ⟨g, k, none⟩ u) g cap := by
  obtain ⟨cur, h1, h2, h3⟩ := h
  refine ⟨cur.setIfInBounds k u, heap_setCell_same w g k cur _ u h1, by simpa using h2, fun x hx => ?_⟩
  rw [Array.toList_setIfInBounds] at hx
  rcases List.mem_or_eq_of_mem_set hx with h | h
  · exact h3 x h
  · subst h; exact hu
set_option maxHeartbeats 1000000 in
theorem over_any (v : Value) (n base : Nat) (xs : List Value) (w : World) (h : Owns w base 5 1 IsU8 v n xs) :
    Calls Try.prog 21 #[v] w fun e w' => e = .returned (.tuple #[]) ∧ Below base w w' := by
  rcases h.1.2 with ⟨rfl, _⟩ | ⟨g, cap, cur, rfl, h1, h2, h3, h4, h5, _⟩
  · clear h
    go_enter Try.func21, Try.ntmps21
    go_wp2
    go_loopw [3] (fun i wr => i = .int .i64 0 ∧ wr = w) (fun _ _ => 0)
    case atStart => exact ⟨rfl, rfl⟩
    case round =>
      obtain ⟨rfl, rfl⟩ := hrel
      go_wp2
      go_end0
      exact ⟨rfl, Below.refl _ _⟩
  · have hF : Full w g cap := ⟨cur, h2, by simpa using h5, h.2 g cur _ _ (by simp [Value.ownBlock]) h2⟩
    have HF := Lib.hid hF
    unfold maxLen at h4
    clear h h2 h5 hF
    go_enter Try.func21, Try.ntmps21
    go_wp2
    go_loopw [3] (fun i wr => ∃ k : Nat, k ≤ cap ∧ i = .int .i64 k ∧ Full wr g cap ∧ Below base w wr) (fun i _ => cap - (intOf i).toNat)
    case atStart => exact ⟨0, by omega, rfl, HF.out, Below.refl _ _⟩
    case round =>
      obtain ⟨k, hk, rfl, hf, hb⟩ := hrel
      have HF2 := Lib.hid hf
      have HB := Lib.hid hb
      clear hf hb
      by_cases hlt : k < cap
      · obtain ⟨y, y1, y2, hcell, hfro⟩ := HF2.out.cell hlt
        go_wp2
        go_roundw
        case rel => exact ⟨k + 1, by omega, by go_num, HF2.out.set k ⟨_, by omega, by omega, rfl⟩, HB.out.setCell h1 _⟩
        case measure => simp [intOf]; omega
      · go_wp2
        go_end0
        exact ⟨rfl, HB.out⟩

end Go.Proofs.Ytnlhebcmebbgkaa
