/- What Load, Store, Bytes and Lay of package mem return and leave: contracts for any memory, any place, any number and any bytes, in whatever memory of the program. -/
import Derived.Test.YthcefpakjkojgaaMemB
import Derived.Laws.CopyOwn
namespace Go.Proofs.Ythcefpakjkojgaa
open Go.RowKit
set_option linter.unusedVariables false

/-- The number at a place; the bytes at a place. -/
def partL (xs : List Int) (a n : Int) : List Int := (xs.drop a.toNat).take n.toNat
def loadV (xs : List Int) (a n : Int) : Int := if numE xs.length a n = 0 then numV (partL xs a n) else 0
def storeL (xs : List Int) (a n v : Int) : List Int := if numE xs.length a n = 0 then layL xs a.toNat (bytesV v n.toNat) else xs
def bytesL (xs : List Int) (a n : Int) : List Int := if accE xs.length a n = 0 then partL xs a n else []
def layB (xs : List Int) (a : Int) (ys : List Int) : List Int := if accE xs.length a ys.length = 0 then layL xs a.toNat ys else xs
theorem partL_len {xs : List Int} {k m : Nat} (h : k + m ≤ xs.length) : (partL xs k m).length = m := by simp [partL]; omega
theorem partL_nat (xs : List Int) (k m : Nat) : partL xs k m = (xs.drop k).take m := by simp [partL]
theorem nat_of {a : Int} (h : 0 ≤ a) : ∃ k : Nat, a = k := Int.eq_ofNat_of_zero_le h
theorem getV_sized {xs : List Int} (h : sizedB xs.length = true) : getV xs = numV xs ∧ getE xs = 0 := by
  have : ¬ 8 < xs.length := by rcases sized_cases h with h | h | h | h <;> omega
  unfold getV getE
  rw [if_neg this, if_neg this, if_pos h, if_pos h]
  exact ⟨rfl, rfl⟩
theorem ret_e2 {v v' : Value} {a b : Int} (h : v = v') (h' : a = b) : Ending.returned (.tuple #[v, .int .i64 a]) = .returned (.tuple #[v', .int .i64 b]) := by rw [h, h']
theorem u8_size : (Try.prog.info? 5).map (·.size) = some 1 := by kernel_rfl

theorem load_bad {mb bb c : Nat} {xs : List Int} {w : World} (h : MemAt w mb bb c xs) (a n : Int) (ha : 0 ≤ a) (ha' : a < 18446744073709551616) (hn' : n < 9223372036854775808) (he : numE xs.length a n ≠ 0) :
    Calls Try.prog 18 #[.pointer (some ⟨mb, 0, none⟩), .int .u64 a, .int .i64 n] w fun e w' => e = .returned (.tuple #[.int .u64 0, .int .i64 (numE xs.length a n)]) ∧ w = w' := by
  have HC := Lib.hid (cutN_bad h a n ha ha' hn' he)
  obtain ⟨E, hE⟩ : ∃ E, E = numE xs.length a n := ⟨_, rfl⟩
  rw [← hE] at HC he ⊢
  have he' : (E != 0) = true := by simpa using he
  clear h hE he
  go_enter Try.func18, Try.ntmps18
  go_wp2_with (go_at_call 31; (with_reducible refine HC.out.mono ?_); rintro e w' ⟨rfl, rfl⟩)
  go_ret2
  exact ⟨rfl, rfl⟩
theorem load_ok {mb bb c : Nat} {xs : List Int} {w : World} (h : MemAt w mb bb c xs) (k m : Nat) (hk : 16 ≤ k) (hkm : k + m ≤ xs.length) (hs : sizedB m = true) :
    Calls Try.prog 18 #[.pointer (some ⟨mb, 0, none⟩), .int .u64 k, .int .i64 m] w fun e w' => e = .returned (.tuple #[.int .u64 (numV (partL xs k m)), .int .i64 0]) ∧ w = w' := by
  have hm : 0 < m := by rcases sized_cases hs with h | h | h | h <;> omega
  have hl := h.hi
  have HC := Lib.hid (cutN_ok h k m hk hkm hs hm)
  have hB := h.row.bytes h.bd h.row.lt hkm (Nat.le_refl m) (by unfold maxLen; omega)
  have hg := get_any _ _ w _ hB
  have hlen : ((xs.drop k).take m).length = m := by simp; omega
  have hgs := getV_sized (xs := (xs.drop k).take m) (by rw [hlen]; exact hs)
  rw [hgs.1, hgs.2, ← partL_nat] at hg
  have HG := Lib.hid hg
  obtain ⟨z, hz⟩ : ∃ z, z = numV (partL xs k m) := ⟨_, rfl⟩
  rw [← hz] at HG ⊢
  clear h hB hg hgs hz hlen hs
  go_enter Try.func18, Try.ntmps18
  go_wp2_with (first
    | (go_at_call 31; (with_reducible refine HC.out.mono ?_); rintro e w' ⟨rfl, rfl⟩)
    | (go_at_call 41; (with_reducible refine HG.out.mono ?_); rintro e w' ⟨rfl, rfl⟩))
  go_ret2
  exact ⟨rfl, rfl⟩
theorem load_any {mb bb c : Nat} {xs : List Int} {w : World} (h : MemAt w mb bb c xs) (a n : Int) (ha : 0 ≤ a) (ha' : a < 18446744073709551616) (hn' : n < 9223372036854775808) :
    Calls Try.prog 18 #[.pointer (some ⟨mb, 0, none⟩), .int .u64 a, .int .i64 n] w fun e w' => e = .returned (.tuple #[.int .u64 (loadV xs a n), .int .i64 (numE xs.length a n)]) ∧ w = w' := by
  by_cases he : numE xs.length a n = 0
  · obtain ⟨hs, h0, h1, h2, h3⟩ := numE_zero he
    unfold loadV
    rw [if_pos he, he]
    obtain ⟨k, rfl⟩ := nat_of ha
    obtain ⟨m, rfl⟩ := nat_of h0
    exact load_ok h k m (by omega) (by omega) hs
  · unfold loadV
    rw [if_neg he]
    exact load_bad h a n ha ha' hn' he
theorem load_no {p : Value} {w : World} (h : NoMem w p) (a n : Int) :
    Calls Try.prog 18 #[p, .int .u64 a, .int .i64 n] w fun e w' => e = .returned (.tuple #[.int .u64 0, .int .i64 1]) ∧ w = w' := by
  have HV := Lib.hid (valid_no h)
  clear h
  have hcut : Calls Try.prog 31 #[p, .int .u64 a, .int .i64 n, .func (.func 32) #[p] #[]] w fun e w' => e = .returned (.tuple #[.slice none 0 0, .int .i64 1]) ∧ w = w' := by
    go_enter Try.func31, Try.ntmps31
    go_wp2_with (go_at_call 28; (with_reducible refine HV.out.mono ?_); rintro e w' ⟨rfl, rfl⟩)
    go_ret2
    exact ⟨rfl, rfl⟩
  have HC := Lib.hid hcut
  clear hcut HV
  go_enter Try.func18, Try.ntmps18
  go_wp2_with (go_at_call 31; (with_reducible refine HC.out.mono ?_); rintro e w' ⟨rfl, rfl⟩)
  go_ret2
  exact ⟨rfl, rfl⟩

/-- What Store and Lay leave. -/
def StoreDone (w : World) (mb bb c : Nat) (xs' : List Int) (E : Int) (e : Ending) (w' : World) : Prop :=
  e = .returned (.int .i64 E) ∧ MemAt w' mb bb c xs' ∧ But (OneBlock bb) w w'
theorem store_bad {mb bb c : Nat} {xs : List Int} {w : World} (h : MemAt w mb bb c xs) (a n v : Int) (ha : 0 ≤ a) (ha' : a < 18446744073709551616) (hn' : n < 9223372036854775808) (he : numE xs.length a n ≠ 0) :
    Calls Try.prog 15 #[.pointer (some ⟨mb, 0, none⟩), .int .u64 a, .int .i64 n, .int .u64 v] w fun e w' => e = .returned (.int .i64 (numE xs.length a n)) ∧ w = w' := by
  have HC := Lib.hid (cutN_bad h a n ha ha' hn' he)
  obtain ⟨E, hE⟩ : ∃ E, E = numE xs.length a n := ⟨_, rfl⟩
  rw [← hE] at HC he ⊢
  have he' : (E != 0) = true := by simpa using he
  clear h hE he
  go_enter Try.func15, Try.ntmps15
  go_wp2_with (go_at_call 31; (with_reducible refine HC.out.mono ?_); rintro e w' ⟨rfl, rfl⟩)
  go_ret
  exact ⟨rfl, rfl⟩
theorem store_no {p : Value} {w : World} (h : NoMem w p) (a n v : Int) :
    Calls Try.prog 15 #[p, .int .u64 a, .int .i64 n, .int .u64 v] w fun e w' => e = .returned (.int .i64 1) ∧ w = w' := by
  have HV := Lib.hid (valid_no h)
  clear h
  have hcut : Calls Try.prog 31 #[p, .int .u64 a, .int .i64 n, .func (.func 32) #[p] #[]] w fun e w' => e = .returned (.tuple #[.slice none 0 0, .int .i64 1]) ∧ w = w' := by
    go_enter Try.func31, Try.ntmps31
    go_wp2_with (go_at_call 28; (with_reducible refine HV.out.mono ?_); rintro e w' ⟨rfl, rfl⟩)
    go_ret2
    exact ⟨rfl, rfl⟩
  have HC := Lib.hid hcut
  clear hcut HV
  go_enter Try.func15, Try.ntmps15
  go_wp2_with (go_at_call 31; (with_reducible refine HC.out.mono ?_); rintro e w' ⟨rfl, rfl⟩)
  go_ret
  exact ⟨rfl, rfl⟩
theorem MemAt.lay {w : World} {mb bb c : Nat} {xs ys : List Int} {a : Nat} (h : MemAt w mb bb c xs) (ha : a + ys.length ≤ xs.length) (hy : ∀ y ∈ ys, 0 ≤ y ∧ y < 256) {cur : Array Value} (hc : w.heap[bb]? = some (.cells cur 5 (0, 0))) :
    MemAt (w.setRow bb (cur.toList.take a ++ (ys.map (Value.int .u8) ++ cur.toList.drop (a + ys.length))).toArray) mb bb c (layL xs a ys) := by
  refine ⟨?_, h.row.lay ha hc, layL_bd a h.bd hy, by rw [layL_len ha]; exact h.lo, by rw [layL_len ha]; exact h.hi, h.cap⟩
  rw [setRow_other w bb mb _ h.ne, layL_len ha]
  exact h.head
theorem owns_cells {w : World} {base : Nat} {e : TypeId} {K : Value → Prop} {v : Value} {n : Nat} {xs : List Value} (h : Owns w base e 1 K v n xs) (hn : 0 < n) :
    ∃ g cap, v = .slice (some ⟨g, 0, none⟩) n cap ∧ base ≤ g ∧ g < w.heap.size ∧ ∀ j u, xs[j]? = some u → w.cell? ((⟨g, 0, none⟩ : Addr).add j) = some u := by
  rcases h.1.2 with ⟨rfl, h0⟩ | ⟨g, cap, cur, rfl, h1, h2, h3, h4, h5, h6⟩
  · omega
  · exact ⟨g, cap, rfl, h1, heap_lt h2, h.1.cells (g := g) rfl⟩
set_option maxHeartbeats 1000000 in
theorem store_ok {mb bb c : Nat} {xs : List Int} {w : World} (h : MemAt w mb bb c xs) (k m : Nat) (v : Int) (hv : 0 ≤ v) (hv' : v < 18446744073709551616) (hk : 16 ≤ k) (hkm : k + m ≤ xs.length) (hs : sizedB m = true) :
    Calls Try.prog 15 #[.pointer (some ⟨mb, 0, none⟩), .int .u64 k, .int .i64 m, .int .u64 v] w (StoreDone w mb bb c (layL xs k (bytesV v m)) 0) := by
  have hm : 0 < m := by rcases sized_cases hs with h | h | h | h <;> omega
  have hl := h.hi
  have HC := Lib.hid (cutN_ok h k m hk hkm hs hm)
  have HP := Lib.hid (put_yes v m w hv hv' hs)
  have HM := Lib.hid h
  clear h hs
  go_enter Try.func15, Try.ntmps15
  go_wp2_with (first
    | (go_at_call 31; (with_reducible refine HC.out.mono ?_); rintro e w' ⟨rfl, rfl⟩)
    | (go_at_call 33; refine HP.out.mono ?_; rintro e w1 ⟨q, rfl, hown, hbel⟩; rw [bytesV_len] at hown; obtain ⟨g, cap, rfl, g1, g2, g3⟩ := owns_cells hown hm; have hm1 := HM.out.but (But.of_below (R := NoBlock) hbel) (noBlock_not _) (noBlock_not _); obtain ⟨cur, hcur, hsz, htk, hcl⟩ := hm1.row; have HM1 := Lib.hid hm1; have HCUR := Lib.hid hcur; have HSZ := Lib.hid hsz; have HG3 := Lib.hid g3; have HB := Lib.hid hbel; clear hown hbel hm1 hcur hsz htk g3)
    | (with_reducible refine wpList_copy_own rfl (.tmp 30) (.tmp 31) 33 33 rfl 5 Try.underlying33 u8_size bb k m m ⟨g, 0, none⟩ m cap rfl rfl cur 5 HCUR.out ((bytesV v m).map (Value.int .u8)) (by simp [bytesV_len]) HG3.out (by simp [bytesV_len, HSZ.out]; omega) (ints_oneCell _ _) ?_))
  go_ret
  refine ⟨rfl, HM1.out.lay (by rw [bytesV_len]; exact hkm) (bytesV_bd v m) HCUR.out, ?_⟩
  exact (But.of_below (R := OneBlock bb) HB.out).setRow (.inl rfl) _
theorem store_any {mb bb c : Nat} {xs : List Int} {w : World} (h : MemAt w mb bb c xs) (a n v : Int) (ha : 0 ≤ a) (ha' : a < 18446744073709551616) (hn' : n < 9223372036854775808) (hv : 0 ≤ v) (hv' : v < 18446744073709551616) :
    Calls Try.prog 15 #[.pointer (some ⟨mb, 0, none⟩), .int .u64 a, .int .i64 n, .int .u64 v] w (StoreDone w mb bb c (storeL xs a n v) (numE xs.length a n)) := by
  by_cases he : numE xs.length a n = 0
  · obtain ⟨hs, h0, h1, h2, h3⟩ := numE_zero he
    unfold storeL
    rw [if_pos he, he]
    obtain ⟨k, rfl⟩ := nat_of ha
    obtain ⟨m, rfl⟩ := nat_of h0
    exact store_ok h k m v hv hv' (by omega) (by omega) hs
  · unfold storeL
    rw [if_neg he]
    exact (store_bad h a n v ha ha' hn' he).mono fun e w' ⟨h1, h2⟩ => by subst h2; exact ⟨h1, h, But.refl _ _⟩
end Go.Proofs.Ythcefpakjkojgaa
