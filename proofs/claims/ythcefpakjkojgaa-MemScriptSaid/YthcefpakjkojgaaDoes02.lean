/- An act done by both memories, the program's and the document's own: they answer alike, and stay alike. Contracts for any act, in whatever memory of the program. -/
import Derived.Test.YthcefpakjkojgaaRefB02
import Derived.Test.YthcefpakjkojgaaLong02
import Derived.Deep.RegionHeld3
namespace Go.Proofs.Ythcefpakjkojgaa
open Go.RowKit
set_option linter.unusedVariables false

def TwoBlocks (b r : Nat) : Nat → Prop := fun k => k = b ∨ k = r
theorem twoBlocks_not {k b r : Nat} (h : k ≠ b) (h' : k ≠ r) : ¬ TwoBlocks b r k := fun hh => by rcases hh with hh | hh; exact h hh; exact h' hh
theorem But.two1 {b r : Nat} {w w' : World} (h : But (OneBlock b) w w') : But (TwoBlocks b r) w w' := h.mono fun _ h => .inl h
theorem But.two2 {b r : Nat} {w w' : World} (h : But (OneBlock r) w w') : But (TwoBlocks b r) w w' := h.mono fun _ h => .inr h
theorem bytes_not_head {w : World} {mb bb c rm rb rc : Nat} {xs ys : List Int} (h : MemAt w mb bb c xs) (k : RefAt w rm rb rc ys) : rm ≠ bb ∧ mb ≠ rb := by
  constructor
  · rintro rfl
    obtain ⟨cur, h1, _⟩ := h.row
    rw [k.head] at h1
    injection h1 with h1
    injection h1 with _ h1 _
    exact absurd h1 (by decide)
  · rintro rfl
    obtain ⟨cur, h1, _⟩ := k.row
    rw [h.head] at h1
    injection h1 with h1
    injection h1 with _ h1 _
    exact absurd h1 (by decide)
/-- Both memories, alike. -/
structure Both (w : World) (mb bb c rm rb rc : Nat) (xs : List Int) : Prop where
  m : MemAt w mb bb c xs
  r : RefAt w rm rb rc xs
  ne : bb ≠ rb
theorem Both.but {w w' : World} {mb bb c rm rb rc : Nat} {xs : List Int} {S : Nat → Prop} (h : Both w mb bb c rm rb rc xs) (hb : But S w w') (h1 : ¬ S mb) (h2 : ¬ S bb) (h3 : ¬ S rm) (h4 : ¬ S rb) : Both w' mb bb c rm rb rc xs := ⟨h.m.but hb h1 h2, h.r.but hb h3 h4, h.ne⟩
theorem Both.quiet {w w' : World} {mb bb c rm rb rc : Nat} {xs : List Int} (h : Both w mb bb c rm rb rc xs) (hb : But NoBlock w w') : Both w' mb bb c rm rb rc xs := h.but hb (noBlock_not _) (noBlock_not _) (noBlock_not _) (noBlock_not _)
theorem Both.below {w w' : World} {mb bb c rm rb rc : Nat} {xs : List Int} (h : Both w mb bb c rm rb rc xs) (hb : Below w.heap.size w w') : Both w' mb bb c rm rb rc xs := h.quiet (But.of_below hb)
theorem Both.lt {w : World} {mb bb c rm rb rc : Nat} {xs : List Int} (h : Both w mb bb c rm rb rc xs) : mb < w.heap.size ∧ bb < w.heap.size ∧ rm < w.heap.size ∧ rb < w.heap.size := ⟨h.m.lt.1, h.m.lt.2, h.r.lt.1, h.r.lt.2⟩
/-- First the one stores, then the other. -/
theorem Both.store {w w1 w2 : World} {mb bb c rm rb rc : Nat} {xs xs' : List Int} (h : Both w mb bb c rm rb rc xs) (h1 : MemAt w1 mb bb c xs') (b1 : But (OneBlock bb) w w1) (h2 : RefAt w2 rm rb rc xs') (b2 : But (OneBlock rb) w1 w2) : Both w2 mb bb c rm rb rc xs' ∧ But (TwoBlocks bb rb) w w2 :=
  ⟨⟨h1.but b2 (oneBlock_not (bytes_not_head h.m h.r).2) (oneBlock_not h.ne), h2, h.ne⟩, b1.two1.trans b2.two2⟩
theorem Both.ref {w w1 : World} {mb bb c rm rb rc : Nat} {xs : List Int} (h : Both w mb bb c rm rb rc xs) (b1 : But (OneBlock bb) w w1) : RefAt w1 rm rb rc xs := h.r.but b1 (oneBlock_not (bytes_not_head h.m h.r).1) (oneBlock_not (Ne.symm h.ne))
theorem storeL_len' (xs : List Int) (a n v : Int) : (storeL xs a n v).length = xs.length := by
  unfold storeL
  split
  · rename_i h
    obtain ⟨_, h0, h1, h2, h3⟩ := numE_zero h
    rw [layL_len (by rw [bytesV_len]; omega)]
  · rfl
theorem layB_len' (xs ys : List Int) (a : Int) : (layB xs a ys).length = xs.length := by
  unfold layB
  split
  · rename_i h
    obtain ⟨h0, h1, h2, h3⟩ := accE_zero h
    rw [layL_len (by omega)]
  · rfl
/-- What an act leaves. -/
def DoesDone (w : World) (mb bb c rm rb rc L : Nat) (e : Ending) (w' : World) : Prop :=
  e = .returned (.bool true) ∧ ∃ xs', xs'.length = L ∧ Both w' mb bb c rm rb rc xs' ∧ But (TwoBlocks bb rb) w w'

theorem does_load0 (n a v : Int) (Y : Value) (mb bb c rm rb rc : Nat) (xs : List Int) (w : World) (h : Both w mb bb c rm rb rc xs) (hn' : n < 9223372036854775808) (ha : 0 ≤ a) (ha' : a < 18446744073709551616) :
    Calls Try.prog 16 #[.pointer (some ⟨mb, 0, none⟩), .pointer (some ⟨rm, 0, none⟩), .agg #[.int .i64 0, .int .i64 n, .int .u64 a, .int .u64 v, Y]] w (DoesDone w mb bb c rm rb rc xs.length) := by
  have HB := Lib.hid h
  have h1 := h.quiet ((But.refl NoBlock _).alloc (.cells #[.int .i64 0, .int .i64 n, .int .u64 a, .int .u64 v, Y] 35))
  have hc1 := load_any h1.m a n ha ha' hn'
  have hc2 := rload_any h1.r a n ha ha' hn'
  obtain ⟨z, hz⟩ : ∃ z, z = loadV xs a n := ⟨_, rfl⟩
  obtain ⟨E, hE⟩ : ∃ E, E = numE xs.length a n := ⟨_, rfl⟩
  rw [← hz, ← hE] at hc1 hc2
  have HC1 := Lib.hid hc1
  have HC2 := Lib.hid hc2
  clear h1 hc1 hc2 hz hE h
  go_enter Try.func16, Try.ntmps16
  go_wp2_with (first
    | (go_at_call 18; (with_reducible refine HC1.out.mono ?_); rintro e w' ⟨rfl, rfl⟩)
    | (go_at_call 34; (with_reducible refine HC2.out.mono ?_); rintro e w' ⟨rfl, rfl⟩))
  go_ret
  exact ⟨rfl, xs, rfl, HB.out.quiet ((But.refl NoBlock _).alloc _), (But.refl _ _).alloc _⟩

theorem does_load1 (n a v : Int) (Y : Value) (mb bb c rm rb rc : Nat) (xs : List Int) (w : World) (h : Both w mb bb c rm rb rc xs) (hn' : n < 9223372036854775808) (ha : 0 ≤ a) (ha' : a < 18446744073709551616) :
    Calls Try.prog 16 #[.pointer (some ⟨mb, 0, none⟩), .pointer (some ⟨rm, 0, none⟩), .agg #[.int .i64 1, .int .i64 n, .int .u64 a, .int .u64 v, Y]] w (DoesDone w mb bb c rm rb rc xs.length) := by
  have HB := Lib.hid h
  have h1 := h.quiet ((But.refl NoBlock _).alloc (.cells #[.int .i64 1, .int .i64 n, .int .u64 a, .int .u64 v, Y] 35))
  have hc1 := load_any h1.m a n ha ha' hn'
  have hc2 := rload_any h1.r a n ha ha' hn'
  obtain ⟨z, hz⟩ : ∃ z, z = loadV xs a n := ⟨_, rfl⟩
  obtain ⟨E, hE⟩ : ∃ E, E = numE xs.length a n := ⟨_, rfl⟩
  rw [← hz, ← hE] at hc1 hc2
  have HC1 := Lib.hid hc1
  have HC2 := Lib.hid hc2
  clear h1 hc1 hc2 hz hE h
  go_enter Try.func16, Try.ntmps16
  go_wp2_with (first
    | (go_at_call 18; (with_reducible refine HC1.out.mono ?_); rintro e w' ⟨rfl, rfl⟩)
    | (go_at_call 34; (with_reducible refine HC2.out.mono ?_); rintro e w' ⟨rfl, rfl⟩))
  go_ret
  exact ⟨rfl, xs, rfl, HB.out.quiet ((But.refl NoBlock _).alloc _), (But.refl _ _).alloc _⟩

theorem does_other (k n a v : Int) (Y : Value) (mb bb c rm rb rc : Nat) (xs : List Int) (w : World) (h : Both w mb bb c rm rb rc xs) (hk : k < 0 ∨ 5 < k) :
    Calls Try.prog 16 #[.pointer (some ⟨mb, 0, none⟩), .pointer (some ⟨rm, 0, none⟩), .agg #[.int .i64 k, .int .i64 n, .int .u64 a, .int .u64 v, Y]] w (DoesDone w mb bb c rm rb rc xs.length) := by
  have HB := Lib.hid h
  have k0 : (k == 0) = false := by simpa using (by omega : ¬ k = 0)
  have k1 : (k == 1) = false := by simpa using (by omega : ¬ k = 1)
  have k2 : (k == 2) = false := by simpa using (by omega : ¬ k = 2)
  have k3 : (k == 3) = false := by simpa using (by omega : ¬ k = 3)
  have k4 : (k == 4) = false := by simpa using (by omega : ¬ k = 4)
  have k5 : (k == 5) = false := by simpa using (by omega : ¬ k = 5)
  clear h hk
  go_enter Try.func16, Try.ntmps16
  go_wp2
  go_ret
  exact ⟨rfl, xs, rfl, HB.out.quiet ((But.refl NoBlock _).alloc _), (But.refl _ _).alloc _⟩

set_option maxRecDepth 100000 in
set_option maxHeartbeats 4000000 in
theorem does_store2 (n a v : Int) (Y : Value) (mb bb c rm rb rc : Nat) (xs : List Int) (w : World) (h : Both w mb bb c rm rb rc xs) (hn' : n < 9223372036854775808) (ha : 0 ≤ a) (ha' : a < 18446744073709551616) (hv : 0 ≤ v) (hv' : v < 18446744073709551616) :
    Calls Try.prog 16 #[.pointer (some ⟨mb, 0, none⟩), .pointer (some ⟨rm, 0, none⟩), .agg #[.int .i64 2, .int .i64 n, .int .u64 a, .int .u64 v, Y]] w (DoesDone w mb bb c rm rb rc xs.length) := by
  have lt := h.lt
  obtain ⟨lt1, lt2, lt3, lt4⟩ := lt
  have b1 : But NoBlock w (w.alloc (.cells #[.int .i64 2, .int .i64 n, .int .u64 a, .int .u64 v, Y] 35)).drew := ((But.refl NoBlock _).alloc _).drew
  have h1 := h.quiet b1
  have hc := store_any h1.m a n v ha ha' hn' hv hv'
  obtain ⟨E, hE⟩ : ∃ E, E = numE xs.length a n := ⟨_, rfl⟩
  obtain ⟨XS, hX⟩ : ∃ XS, XS = storeL xs a n v := ⟨_, rfl⟩
  have hlen : XS.length = xs.length := by rw [hX, storeL_len']
  have hr : ∀ w1, RefAt w1 rm rb rc xs → Calls Try.prog 35 #[.pointer (some ⟨rm, 0, none⟩), .int .u64 a, .int .i64 n, .int .u64 v] w1 (RStoreDone w1 rm rb rc XS E) := fun w1 k => by
    rw [hX, hE]
    exact rstore_any k a n v ha ha' hn' hv hv'
  rw [← hE, ← hX] at hc
  have HC1 := Lib.hid hc
  have HC2 := Lib.hid hr
  have H1 := Lib.hid h1
  have HB1 := Lib.hid b1
  have HLEN := Lib.hid hlen
  clear hc hr h1 b1 hE hX hlen h
  go_enter Try.func16, Try.ntmps16
  go_wp2_with fail
  go_region_held3 (fun w' => w'.cell? ⟨w.heap.size, 1, none⟩ = some (.int .i64 n) ∧ w'.cell? ⟨w.heap.size, 2, none⟩ = some (.int .u64 a) ∧ w'.cell? ⟨w.heap.size, 3, none⟩ = some (.int .u64 v)) (first | go_keep | exact HK2.out | exact HK.out)
    (first
      | (go_at_call 15; (with_reducible refine HC1.out.mono ?_); rintro e w1 ⟨rfl, hm1, hb1⟩; have HM1 := Lib.hid hm1; have HBM := Lib.hid hb1; have HR1 := Lib.hid (H1.out.ref hb1); have HK := Lib.hid (⟨by rw [hb1.cell (p := ⟨w.heap.size, 1, none⟩) (by simp [go_sem]) (oneBlock_not (show w.heap.size ≠ bb by omega))]; simp [go_sem], by rw [hb1.cell (p := ⟨w.heap.size, 2, none⟩) (by simp [go_sem]) (oneBlock_not (show w.heap.size ≠ bb by omega))]; simp [go_sem], by rw [hb1.cell (p := ⟨w.heap.size, 3, none⟩) (by simp [go_sem]) (oneBlock_not (show w.heap.size ≠ bb by omega))]; simp [go_sem]⟩ : w1.cell? ⟨w.heap.size, 1, none⟩ = some (.int .i64 n) ∧ w1.cell? ⟨w.heap.size, 2, none⟩ = some (.int .u64 a) ∧ w1.cell? ⟨w.heap.size, 3, none⟩ = some (.int .u64 v)); clear hm1 hb1)
      | (go_at_call 35; (with_reducible refine (HC2.out _ HR1.out).mono ?_); rintro e w2 ⟨rfl, hm2, hb2⟩; have HM2 := Lib.hid hm2; have HBR := Lib.hid hb2; have l1 := HBM.out.size; have HK2 := Lib.hid (⟨by rw [hb2.cell (p := ⟨w.heap.size, 1, none⟩) (by simp [go_sem] at l1; simp; omega) (oneBlock_not (show w.heap.size ≠ rb by omega))]; exact HK.out.1, by rw [hb2.cell (p := ⟨w.heap.size, 2, none⟩) (by simp [go_sem] at l1; simp; omega) (oneBlock_not (show w.heap.size ≠ rb by omega))]; exact HK.out.2.1, by rw [hb2.cell (p := ⟨w.heap.size, 3, none⟩) (by simp [go_sem] at l1; simp; omega) (oneBlock_not (show w.heap.size ≠ rb by omega))]; exact HK.out.2.2⟩ : w2.cell? ⟨w.heap.size, 1, none⟩ = some (.int .i64 n) ∧ w2.cell? ⟨w.heap.size, 2, none⟩ = some (.int .u64 a) ∧ w2.cell? ⟨w.heap.size, 3, none⟩ = some (.int .u64 v)); clear hm2 hb2 l1))
  go_wp2
  go_ret
  have hs := H1.out.store HM1.out HBM.out HM2.out HBR.out
  exact ⟨rfl, XS, HLEN.out, hs.1, HB1.out.none.trans hs.2⟩

set_option maxRecDepth 100000 in
set_option maxHeartbeats 4000000 in
theorem does_store3 (n a v : Int) (Y : Value) (mb bb c rm rb rc : Nat) (xs : List Int) (w : World) (h : Both w mb bb c rm rb rc xs) (hn' : n < 9223372036854775808) (ha : 0 ≤ a) (ha' : a < 18446744073709551616) (hv : 0 ≤ v) (hv' : v < 18446744073709551616) :
    Calls Try.prog 16 #[.pointer (some ⟨mb, 0, none⟩), .pointer (some ⟨rm, 0, none⟩), .agg #[.int .i64 3, .int .i64 n, .int .u64 a, .int .u64 v, Y]] w (DoesDone w mb bb c rm rb rc xs.length) := by
  have lt := h.lt
  obtain ⟨lt1, lt2, lt3, lt4⟩ := lt
  have b1 : But NoBlock w (w.alloc (.cells #[.int .i64 3, .int .i64 n, .int .u64 a, .int .u64 v, Y] 35)).drew := ((But.refl NoBlock _).alloc _).drew
  have h1 := h.quiet b1
  have hc := store_any h1.m a n v ha ha' hn' hv hv'
  obtain ⟨E, hE⟩ : ∃ E, E = numE xs.length a n := ⟨_, rfl⟩
  obtain ⟨XS, hX⟩ : ∃ XS, XS = storeL xs a n v := ⟨_, rfl⟩
  have hlen : XS.length = xs.length := by rw [hX, storeL_len']
  have hr : ∀ w1, RefAt w1 rm rb rc xs → Calls Try.prog 35 #[.pointer (some ⟨rm, 0, none⟩), .int .u64 a, .int .i64 n, .int .u64 v] w1 (RStoreDone w1 rm rb rc XS E) := fun w1 k => by
    rw [hX, hE]
    exact rstore_any k a n v ha ha' hn' hv hv'
  rw [← hE, ← hX] at hc
  have HC1 := Lib.hid hc
  have HC2 := Lib.hid hr
  have H1 := Lib.hid h1
  have HB1 := Lib.hid b1
  have HLEN := Lib.hid hlen
  clear hc hr h1 b1 hE hX hlen h
  go_enter Try.func16, Try.ntmps16
  go_wp2_with fail
  go_region_held3 (fun w' => w'.cell? ⟨w.heap.size, 1, none⟩ = some (.int .i64 n) ∧ w'.cell? ⟨w.heap.size, 2, none⟩ = some (.int .u64 a) ∧ w'.cell? ⟨w.heap.size, 3, none⟩ = some (.int .u64 v)) (first | go_keep | exact HK2.out | exact HK.out)
    (first
      | (go_at_call 15; (with_reducible refine HC1.out.mono ?_); rintro e w1 ⟨rfl, hm1, hb1⟩; have HM1 := Lib.hid hm1; have HBM := Lib.hid hb1; have HR1 := Lib.hid (H1.out.ref hb1); have HK := Lib.hid (⟨by rw [hb1.cell (p := ⟨w.heap.size, 1, none⟩) (by simp [go_sem]) (oneBlock_not (show w.heap.size ≠ bb by omega))]; simp [go_sem], by rw [hb1.cell (p := ⟨w.heap.size, 2, none⟩) (by simp [go_sem]) (oneBlock_not (show w.heap.size ≠ bb by omega))]; simp [go_sem], by rw [hb1.cell (p := ⟨w.heap.size, 3, none⟩) (by simp [go_sem]) (oneBlock_not (show w.heap.size ≠ bb by omega))]; simp [go_sem]⟩ : w1.cell? ⟨w.heap.size, 1, none⟩ = some (.int .i64 n) ∧ w1.cell? ⟨w.heap.size, 2, none⟩ = some (.int .u64 a) ∧ w1.cell? ⟨w.heap.size, 3, none⟩ = some (.int .u64 v)); clear hm1 hb1)
      | (go_at_call 35; (with_reducible refine (HC2.out _ HR1.out).mono ?_); rintro e w2 ⟨rfl, hm2, hb2⟩; have HM2 := Lib.hid hm2; have HBR := Lib.hid hb2; have l1 := HBM.out.size; have HK2 := Lib.hid (⟨by rw [hb2.cell (p := ⟨w.heap.size, 1, none⟩) (by simp [go_sem] at l1; simp; omega) (oneBlock_not (show w.heap.size ≠ rb by omega))]; exact HK.out.1, by rw [hb2.cell (p := ⟨w.heap.size, 2, none⟩) (by simp [go_sem] at l1; simp; omega) (oneBlock_not (show w.heap.size ≠ rb by omega))]; exact HK.out.2.1, by rw [hb2.cell (p := ⟨w.heap.size, 3, none⟩) (by simp [go_sem] at l1; simp; omega) (oneBlock_not (show w.heap.size ≠ rb by omega))]; exact HK.out.2.2⟩ : w2.cell? ⟨w.heap.size, 1, none⟩ = some (.int .i64 n) ∧ w2.cell? ⟨w.heap.size, 2, none⟩ = some (.int .u64 a) ∧ w2.cell? ⟨w.heap.size, 3, none⟩ = some (.int .u64 v)); clear hm2 hb2 l1))
  go_wp2
  go_ret
  have hs := H1.out.store HM1.out HBM.out HM2.out HBR.out
  exact ⟨rfl, XS, HLEN.out, hs.1, HB1.out.none.trans hs.2⟩
end Go.Proofs.Ythcefpakjkojgaa
