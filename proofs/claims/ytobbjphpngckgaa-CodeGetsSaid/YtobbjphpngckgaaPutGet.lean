/- What package word's isSize, Put and Get return: contracts for all numbers, sizes and slices of bytes, in whatever memory; what was there stays as it was. -/
import Derived.Test.YtobbjphpngckgaaRows
import Derived.Test.YtobbjphpngckgaaMath01
import Derived.Test.YtobbjphpngckgaaOwn
import Derived.WalkKit
import Derived.WalkSpells
import Derived.WalkLawsBesides
import Derived.ProofKit
import Derived.Lib.Hide
namespace Go.Proofs.Ytobbjphpngckgaa
open Go.RowKit
set_option linter.unusedVariables false

theorem isSize_any (s : Int) (w : World) : Calls Try.prog 74 #[.int .i64 s] w fun e w' => e = .returned (.bool (sizedB s)) ∧ w = w' := by
  by_cases h1 : s = 1
  · subst h1
    go_enter Try.func74, Try.ntmps74
    go_wp2
    go_ret
    exact ⟨rfl, rfl⟩
  by_cases h2 : s = 2
  · subst h2
    go_enter Try.func74, Try.ntmps74
    go_wp2
    go_ret
    exact ⟨rfl, rfl⟩
  by_cases h4 : s = 4
  · subst h4
    go_enter Try.func74, Try.ntmps74
    go_wp2
    go_ret
    exact ⟨rfl, rfl⟩
  by_cases h8 : s = 8
  · subst h8
    go_enter Try.func74, Try.ntmps74
    go_wp2
    go_ret
    exact ⟨rfl, rfl⟩
  have e : sizedB s = false := by simp [sizedB, h1, h2, h4, h8]
  rw [e]
  clear e
  have b1 : (s == 1) = false := by simpa using h1
  have b2 : (s == 2) = false := by simpa using h2
  have b4 : (s == 4) = false := by simpa using h4
  have b8 : (s == 8) = false := by simpa using h8
  clear h1 h2 h4 h8
  go_enter Try.func74, Try.ntmps74
  go_wp2
  go_ret
  exact ⟨rfl, rfl⟩
theorem isSize_any_no {s : Int} (h : sizedB s = false) (w : World) : Calls Try.prog 74 #[.int .i64 s] w fun e w' => e = .returned (.bool false) ∧ w = w' := by
  rw [← h]
  exact isSize_any s w
theorem u8_info : (Try.prog.info? 5).map (fun i => (i.zero, i.size, i.bytes)) = some (some (.int .u8 0), 1, 1) := by kernel_rfl
theorem zero_u8 : ∀ u ∈ (Value.int .u8 0).cells.toList, IsU8 u := by
  intro u hu
  simp [Value.cells] at hu
  subst hu
  exact ⟨0, by omega, by omega, rfl⟩

/-- The bytes of a number, the lowest first. -/
def byteV (a : Int) (k : Nat) : Int := a / 256 ^ k % 256
def bytesV (a : Int) (n : Nat) : List Int := (List.range n).map (byteV a)
theorem bytesV_len (a : Int) (n : Nat) : (bytesV a n).length = n := by simp [bytesV]
theorem bytesV_succ (a : Int) (n : Nat) : bytesV a (n + 1) = bytesV a n ++ [byteV a n] := by simp [bytesV, List.range_succ]
theorem byteV_bd (a : Int) (k : Nat) : 0 ≤ byteV a k ∧ byteV a k < 256 := by unfold byteV; omega
theorem bytesV_bd (a : Int) (n : Nat) : ∀ x ∈ bytesV a n, 0 ≤ x ∧ x < 256 := by
  intro x hx
  obtain ⟨k, _, rfl⟩ := List.mem_map.1 hx
  exact byteV_bd a k
theorem pow_256 (k : Nat) : (2 : Int) ^ (8 * k) = 256 ^ k := by rw [Int.pow_mul]; rfl

/-- What Put leaves: bytes of the call's own. -/
def PutDone (w : World) (xs : List Int) (e : Ending) (w' : World) : Prop :=
  ∃ v, e = .returned (.tuple #[v, .int .i64 0]) ∧ Owns w' w.heap.size 5 1 IsU8 v xs.length (xs.map (Value.int .u8)) ∧ Below w.heap.size w w'


theorem news_one (w : World) (x : Value) (t : TypeId) : ∀ j u, [x][j]? = some u → (w.alloc (.cells #[x] t)).cell? ((⟨w.heap.size, 0, none⟩ : Addr).add j) = some u := by
  exact World.news_of_block (cs := #[x]) (heap_alloc_new w _)
theorem byteV_shift (a : Int) (k : Nat) : a / 2 ^ (8 * k) % 256 = byteV a k := by rw [pow_256]; rfl
theorem put_step {w wr w1 : World} {v v' : Value} {a y : Int} {k : Nat} {t : TypeId} {o : Obj} (hy : y = byteV a k) (hb : Below w.heap.size w wr) (hown : Owns wr w.heap.size t 1 IsU8 v k ((bytesV a k).map (Value.int .u8)))
    (ho : Owns w1 w.heap.size t 1 IsU8 v' (k + 1) ((bytesV a k).map (Value.int .u8) ++ [.int .u8 y])) (hg : (wr.alloc o).grownBy w1 v.ownBlock) :
    Owns w1 w.heap.size t 1 IsU8 v' (k + 1) ((bytesV a (k + 1)).map (Value.int .u8)) ∧ Below w.heap.size w w1 := by
  refine ⟨?_, (hb.alloc hb.size o).grown hg (by have := hb.size; simp; omega) (fun g hg' => (hown.lt hg').1)⟩
  rw [bytesV_succ, List.map_append, ← hy]
  exact ho
theorem put_end {w w' : World} {v : Value} {a : Int} {k n : Nat} (h : Owns w' w.heap.size 5 1 IsU8 v k ((bytesV a k).map (Value.int .u8))) (hb : Below w.heap.size w w') (hk : k = n) : PutDone w (bytesV a n) (.returned (.tuple #[v, .int .i64 0])) w' := by
  subst hk
  exact ⟨v, rfl, by rw [bytesV_len]; exact h, hb⟩

set_option maxHeartbeats 1000000 in
theorem put_yes (a : Int) (n : Nat) (w : World) (ha : 0 ≤ a) (ha' : a < 18446744073709551616) (hs : sizedB n = true) :
    Calls Try.prog 67 #[.int .u64 a, .int .i64 n] w (PutDone w (bytesV a n)) := by
  obtain ⟨i0, hi, hz0, hz1, hz2⟩ := info_parts u8_info
  have hn8 : n ≤ 8 := by rcases sized_cases hs with h | h | h | h <;> omega
  have cs : ∀ w, Calls Try.prog 74 #[.int .i64 n] w fun e w' => e = .returned (.bool true) ∧ w = w' := fun w => hs ▸ isSize_any n w
  have CS := Lib.hid cs
  clear cs hs
  have HI := Lib.hid hi
  have HZ0 := Lib.hid hz0
  have HZ1 := Lib.hid hz1
  have HZ2 := Lib.hid hz2
  clear hi hz0 hz1 hz2
  go_enter Try.func67, Try.ntmps67
  go_wp2_with (go_at_call 74; (with_reducible refine (CS.out _).mono ?_); rintro e w' ⟨rfl, rfl⟩)
  go_loopw [6, 12] (fun v i wr => ∃ k : Nat, k ≤ n ∧ i = .int .i64 k ∧ Owns wr w.heap.size 5 1 IsU8 v k ((bytesV a k).map (Value.int .u8)) ∧ Below w.heap.size w wr) (fun _ i _ => n - (intOf i).toNat)
  case atStart => exact ⟨0, by omega, rfl, Owns.nil _ _ _ _ _, Below.refl _ _⟩
  case round =>
    obtain ⟨k, hk, rfl, hown, hb⟩ := hrel
    have hnx := hb.size
    have HO := Lib.hid hown
    have HB := Lib.hid hb
    clear hown hb
    by_cases hlt : k < n
    · go_wp2_with (at_builtin; refine wpList_append_q _ rfl (.tmp 15) (.tmp 21) 26 rfl w.heap.size 5 i0 _ 1 1 Try.underlying26 HI.out HZ0.out HZ1.out HZ2.out rfl (by decide) IsU8 zero_u8 _ k _ rfl (HO.out.alloc _) ⟨wr.heap.size, 0, none⟩ 1 1 [.int .u8 (a / 2 ^ (8 * k) % 256)] rfl rfl (news_one _ _ _) (by intro u hu; simp at hu; subst hu; rfl) (by intro u hu; simp at hu; subst hu; exact ⟨_, by omega, by omega, rfl⟩) (by simp only [maxLen]; omega) (by omega) (by simp; omega) ?_; intro v' w1 hown' hgrow; have R0 := Lib.hid (put_step (byteV_shift a k) HB.out HO.out hown' hgrow); clear hown' hgrow)
      go_roundw
      case rel => exact ⟨k + 1, by omega, by go_num, R0.out.1, R0.out.2⟩
      case measure => simp [intOf]; omega
    · go_wp2
      go_ret2
      exact put_end HO.out HB.out (by omega)
theorem put_no (a s : Int) (w : World) (hs : sizedB s = false) :
    Calls Try.prog 67 #[.int .u64 a, .int .i64 s] w fun e w' => e = .returned (.tuple #[.slice none 0 0, .int .i64 2]) ∧ w = w' := by
  have H := Lib.hid hs
  clear hs
  go_enter Try.func67, Try.ntmps67
  go_wp2_with (go_at_call 74; (with_reducible refine (isSize_any_no H.out _).mono ?_); rintro e w' ⟨rfl, rfl⟩)
  go_ret2
  exact ⟨rfl, rfl⟩

/-- The number that bytes are, the lowest first. -/
def numV : List Int → Int
  | [] => 0
  | x :: xs => x + 256 * numV xs
def getV (xs : List Int) : Int := if 8 < xs.length then 0 else if sizedB xs.length = true then numV xs else 0
def getE (xs : List Int) : Int := if 8 < xs.length then 3 else if sizedB xs.length = true then 0 else 2
theorem numV_bd : ∀ {xs : List Int}, (∀ x ∈ xs, 0 ≤ x ∧ x < 256) → 0 ≤ numV xs ∧ numV xs < 256 ^ xs.length
  | [], _ => by simp [numV]
  | x :: xs, h => by
    have ih := numV_bd (xs := xs) (fun y hy => h y (by simp [hy]))
    have hx := h x (by simp)
    simp only [numV, List.length_cons, Int.pow_succ]
    generalize (256 : Int) ^ xs.length = p at *
    omega
theorem numV_snoc : ∀ (xs : List Int) (y : Int), numV (xs ++ [y]) = numV xs + y * 256 ^ xs.length
  | [], y => by simp [numV]
  | x :: xs, y => by
    simp only [List.cons_append, numV, numV_snoc xs y, List.length_cons, Int.pow_succ]
    rw [show y * (256 ^ xs.length * 256) = 256 * (y * 256 ^ xs.length) by
      generalize (256 : Int) ^ xs.length = p
      rw [Int.mul_comm p 256, ← Int.mul_assoc, Int.mul_comm y 256, Int.mul_assoc]]
    omega
theorem take_snoc' {xs : List Int} {k : Nat} (h : k < xs.length) : xs.take (k + 1) = xs.take k ++ [xs.getD k 0] := by
  rw [List.take_succ_eq_append_getElem h]
  simp [List.getD, List.getElem?_eq_getElem h]
theorem drop_cons' {xs : List Int} {k : Nat} (h : k < xs.length) : xs.drop k = xs.getD k 0 :: xs.drop (k + 1) := by
  rw [List.drop_eq_getElem_cons h]
  simp [List.getD, List.getElem?_eq_getElem h]
theorem pow_le_64 {n : Nat} (h : n ≤ 8) : (256 : Int) ^ n ≤ 18446744073709551616 := by
  have hn : n = 0 ∨ n = 1 ∨ n = 2 ∨ n = 3 ∨ n = 4 ∨ n = 5 ∨ n = 6 ∨ n = 7 ∨ n = 8 := by omega
  rcases hn with rfl | rfl | rfl | rfl | rfl | rfl | rfl | rfl | rfl <;> decide
/-- 'or' of a number below a power of two and a multiple of it is their sum. -/
theorem or_add {x y : Int} {k : Nat} (hx : 0 ≤ x) (hx' : x < 256 ^ k) (hy : 0 ≤ y) (h : y * 256 ^ k < 18446744073709551616) (hk : k ≤ 8) :
    bits .or .u64 x (y * 256 ^ k) = x + y * 256 ^ k := by
  obtain ⟨a, rfl⟩ := Int.eq_ofNat_of_zero_le hx
  obtain ⟨b, rfl⟩ := Int.eq_ofNat_of_zero_le hy
  have hp : (256 : Int) ^ k = ((2 ^ (8 * k) : Nat) : Int) := by rw [← pow_256]; simp
  have hle := pow_le_64 hk
  rw [hp] at hx' h hle ⊢
  have h1 : a < 2 ^ (8 * k) := by exact_mod_cast hx'
  have key := Nat.two_pow_add_eq_or_of_lt h1 b
  have hm : (b : Int) * ((2 ^ (8 * k) : Nat) : Int) = ((2 ^ (8 * k) * b : Nat) : Int) := by rw [Int.natCast_mul, Int.mul_comm]
  rw [hm] at h ⊢
  generalize (2 ^ (8 * k) : Nat) = q at *
  rw [bits_or_u64_nat a (q * b) (by omega) (by omega), Nat.or_comm, ← key]
  omega


theorem get_long (X : Value) (xs : List Int) (w : World) (B : Nat) (hX : IsBytes w B X xs) (h : 8 < xs.length) :
    Calls Try.prog 70 #[X] w fun e w' => e = .returned (.tuple #[.int .u64 (getV xs), .int .i64 (getE xs)]) ∧ w = w' := by
  rw [show getV xs = 0 by unfold getV; rw [if_pos h], show getE xs = 3 by unfold getE; rw [if_pos h]]
  obtain ⟨A, cap, rfl⟩ := hX.len
  have hm := hX.2.1
  unfold maxLen at hm
  have h8 : (8 : Int) < (xs.length : Int) := by omega
  clear hX h
  go_enter Try.func70, Try.ntmps70
  go_wp2
  go_ret2
  exact ⟨rfl, rfl⟩
theorem get_odd (X : Value) (xs : List Int) (w : World) (B : Nat) (hX : IsBytes w B X xs) (h : ¬ 8 < xs.length) (hs : sizedB xs.length = false) :
    Calls Try.prog 70 #[X] w fun e w' => e = .returned (.tuple #[.int .u64 (getV xs), .int .i64 (getE xs)]) ∧ w = w' := by
  rw [show getV xs = 0 by unfold getV; rw [if_neg h, if_neg (by simp [hs])], show getE xs = 2 by unfold getE; rw [if_neg h, if_neg (by simp [hs])]]
  obtain ⟨A, cap, rfl⟩ := hX.len
  have h8 : ¬ (8 : Int) < (xs.length : Int) := by omega
  have HS := Lib.hid hs
  clear hX h hs
  go_enter Try.func70, Try.ntmps70
  go_wp2_with (go_at_call 74; (with_reducible refine (isSize_any_no HS.out _).mono ?_); rintro e w' ⟨rfl, rfl⟩)
  go_ret2
  exact ⟨rfl, rfl⟩

theorem get_step {xs : List Int} {k : Nat} (hx : ∀ x ∈ xs, 0 ≤ x ∧ x < 256) (hk : k < xs.length) (h8 : xs.length ≤ 8) :
    bits .or .u64 (numV (xs.take k)) (xs.getD k 0 * 2 ^ (8 * k) % 18446744073709551616) = numV (xs.take (k + 1)) := by
  have hy : 0 ≤ xs.getD k 0 ∧ xs.getD k 0 < 256 := by
    have : xs.getD k 0 = xs[k] := by simp [List.getD, List.getElem?_eq_getElem hk]
    rw [this]
    exact hx _ (List.getElem_mem hk)
  have hb := numV_bd (xs := xs.take k) (fun y hy => hx y (List.mem_of_mem_take hy))
  have hl : (xs.take k).length = k := by simp; omega
  rw [hl] at hb
  have hp : (0 : Int) < 256 ^ k := Int.pow_pos (by omega)
  have hn := pow_le_64 (n := k + 1) (by omega)
  rw [Int.pow_succ] at hn
  have hlt : xs.getD k 0 * 256 ^ k < 18446744073709551616 := by
    have h1 : xs.getD k 0 * 256 ^ k ≤ 255 * 256 ^ k := Int.mul_le_mul_of_nonneg_right (by omega) (by omega)
    generalize (256 : Int) ^ k = p at *
    omega
  have h0 : 0 ≤ xs.getD k 0 * 256 ^ k := Int.mul_nonneg hy.1 (by omega)
  rw [pow_256, Int.emod_eq_of_lt h0 hlt, or_add hb.1 hb.2 hy.1 hlt (by omega), take_snoc' hk, numV_snoc, hl]
theorem getD_bd {xs : List Int} (hx : ∀ x ∈ xs, 0 ≤ x ∧ x < 256) {k : Nat} (hk : k < xs.length) : 0 ≤ xs.getD k 0 ∧ xs.getD k 0 < 256 := by
  have : xs.getD k 0 = xs[k] := by simp [List.getD, List.getElem?_eq_getElem hk]
  rw [this]
  exact hx _ (List.getElem_mem hk)
theorem drop_bd {xs : List Int} (hx : ∀ x ∈ xs, 0 ≤ x ∧ x < 256) (h8 : xs.length ≤ 8) (k : Nat) : 0 ≤ numV (xs.drop (k + 1)) ∧ 256 * numV (xs.drop (k + 1)) + 255 < 18446744073709551616 ∨ xs.length ≤ k := by
  rcases Nat.lt_or_ge k xs.length with hk | hk
  · left
    have hb := numV_bd (xs := xs.drop (k + 1)) (fun y hy => hx y (List.mem_of_mem_drop hy))
    have hl : (xs.drop (k + 1)).length = xs.length - (k + 1) := by simp
    rw [hl] at hb
    have hn := pow_le_64 (n := xs.length - (k + 1) + 1) (by omega)
    rw [Int.pow_succ] at hn
    generalize (256 : Int) ^ (xs.length - (k + 1)) = p at *
    omega
  · exact .inr hk
theorem get_bd {xs : List Int} (hx : ∀ x ∈ xs, 0 ≤ x ∧ x < 256) : 0 ≤ getV xs ∧ getV xs < 18446744073709551616 := by
  unfold getV
  split
  · omega
  · split
    · have h := numV_bd hx
      have h2 := pow_le_64 (n := xs.length) (by omega)
      omega
    · omega
set_option maxHeartbeats 1000000 in
theorem get_fit (X : Value) (xs : List Int) (w : World) (B : Nat) (hX : IsBytes w B X xs) (h : ¬ 8 < xs.length) (hs : sizedB xs.length = true) :
    Calls Try.prog 70 #[X] w fun e w' => e = .returned (.tuple #[.int .u64 (getV xs), .int .i64 (getE xs)]) ∧ w = w' := by
  rw [show getV xs = numV xs by unfold getV; rw [if_neg h, if_pos hs], show getE xs = 0 by unfold getE; rw [if_neg h, if_pos hs]]
  have hpos : 0 < xs.length := by rcases sized_cases hs with h | h | h | h <;> omega
  obtain ⟨b, off, cap, rfl, hcap, hlt, hc⟩ := hX.plain hpos
  have hx := hX.1
  have h8 : ¬ (8 : Int) < (xs.length : Int) := by omega
  have cs : ∀ w, Calls Try.prog 74 #[.int .i64 xs.length] w fun e w' => e = .returned (.bool true) ∧ w = w' := fun w => hs ▸ isSize_any _ w
  have CS := Lib.hid cs
  have HC := Lib.hid hc
  have HX := Lib.hid hx
  obtain ⟨n, hn⟩ : ∃ n, n = xs.length := ⟨_, rfl⟩
  have hn8 : n ≤ 8 := by omega
  rw [← hn] at hcap h8 CS HC ⊢
  have HN := Lib.hid hn
  clear cs hs hc hx h hX hpos hlt hn
  go_enter Try.func70, Try.ntmps70
  go_wp2_with (go_at_call 74; (with_reducible refine (CS.out _).mono ?_); rintro e w' ⟨rfl, rfl⟩)
  go_loop [4, 17] (fun x i => ∃ k : Nat, k ≤ n ∧ i = .int .i64 k ∧ x = .int .u64 (numV (xs.take k))) (fun _ i => n - (intOf i).toNat)
  case atStart => exact ⟨0, by omega, rfl, rfl⟩
  case round =>
    obtain ⟨k, hk, rfl, rfl⟩ := hrel
    by_cases hlt : k < n
    · have hcell := HC.out k hlt
      have hst := get_step HX.out (k := k) (by rw [← HN.out]; exact hlt) (by rw [← HN.out]; exact hn8)
      have HST := Lib.hid hst
      obtain ⟨y1, y2⟩ := getD_bd HX.out (k := k) (by rw [← HN.out]; exact hlt)
      obtain ⟨y, hy⟩ : ∃ y, y = xs.getD k 0 := ⟨_, rfl⟩
      rw [← hy] at hcell y1 y2
      have HY := Lib.hid hy
      clear hst hy
      go_wp2
      go_round
      case rel => exact ⟨k + 1, by omega, by go_num, by rw [← HST.out, ← HY.out]; simp only [IntKind.wrap_u64]⟩
      case measure => simp [intOf]; omega
    · go_wp2
      go_ret2
      exact ⟨ret_int2 (by rw [List.take_of_length_le (by have := HN.out; omega)]) rfl, rfl⟩
theorem get_any (X : Value) (xs : List Int) (w : World) (B : Nat) (hX : IsBytes w B X xs) :
    Calls Try.prog 70 #[X] w fun e w' => e = .returned (.tuple #[.int .u64 (getV xs), .int .i64 (getE xs)]) ∧ w = w' := by
  by_cases h : 8 < xs.length
  · exact get_long X xs w B hX h
  · cases hs : sizedB xs.length
    · exact get_odd X xs w B hX h hs
    · exact get_fit X xs w B hX h hs
end Go.Proofs.Ytobbjphpngckgaa
