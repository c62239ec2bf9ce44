/- What slices.Equal returns on bytes, and New, Copy and Same of package mem: contracts for any memory and any size, in whatever memory of the program. -/
import Derived.Test.YthcefpakjkojgaaMemD
import Derived.Laws.MakeOwn
namespace Go.Proofs.Ythcefpakjkojgaa
open Go.RowKit
set_option linter.unusedVariables false

theorem made_bytes (n : Nat) : madeCells (Value.int .u8 0).cells (n * 1) = ((List.replicate n (0 : Int)).map (Value.int .u8)).toArray := by
  apply Array.ext
  · simp [madeCells]
  · intro i h1 h2
    simp [madeCells, Value.cells, Nat.mod_one]
/-- make of so many bytes: a new block of zeros. -/
theorem make_zeros (n : Nat) (h : n ≤ 65536) (w : World) : (Instr.makeSlice 33 (.int .i64 (n : Int)) (.int .i64 (n : Int))).run Try.prog w = .ok (.slice (some ⟨w.heap.size, 0, none⟩) n n) (w.alloc (.cells ((List.replicate n (0 : Int)).map (Value.int .u8)).toArray 5)) := by
  obtain ⟨i0, hi, hz0, hz1, hz2⟩ := info_parts u8_info
  have hr := run_make (P := Try.prog) w 33 5 i0 _ Try.underlying33 hi hz0 .i64 .i64 n n (by omega) (Int.le_refl _) (by rw [hz2]; omega) (by omega)
  rw [Int.toNat_natCast, hz1, made_bytes] at hr
  exact hr
theorem Row.made (w : World) (n : Nat) : Row 5 (w.alloc (.cells ((List.replicate n (0 : Int)).map (Value.int .u8)).toArray 5)) w.heap.size n (List.replicate n 0) :=
  ⟨_, heap_alloc_new w _, by simp, by simp, by simp⟩

/-- What New and Copy leave. -/
def NewDone (w : World) (xs : List Int) (e : Ending) (w' : World) : Prop :=
  ∃ mb bb c, e = .returned (.pointer (some ⟨mb, 0, none⟩)) ∧ MemAt w' mb bb c xs ∧ w.heap.size ≤ mb ∧ w.heap.size ≤ bb ∧ Below w.heap.size w w'
def NewDone2 (w : World) (xs : List Int) (e : Ending) (w' : World) : Prop :=
  ∃ mb bb c, e = .returned (.tuple #[.pointer (some ⟨mb, 0, none⟩), .int .i64 0]) ∧ MemAt w' mb bb c xs ∧ w.heap.size ≤ mb ∧ w.heap.size ≤ bb ∧ Below w.heap.size w w'
theorem over_mem (bb n c : Nat) (w : World) :
    Calls Try.prog 27 #[.slice (some ⟨bb, 0, none⟩) n c] w fun e w' => e = .returned (.pointer (some ⟨w.heap.size, 0, none⟩)) ∧ w' = w.alloc (.cells #[.pointer (some ⟨w.heap.size, 0, none⟩), .slice (some ⟨bb, 0, none⟩) n c] 44) := by
  go_enter Try.func27, Try.ntmps27
  go_wp2
  go_ret
  exact ⟨rfl, rfl⟩
theorem MemAt.over {w : World} {bb c : Nat} {xs : List Int} (h : Row 5 w bb c xs) (bd : ∀ x ∈ xs, 0 ≤ x ∧ x < 256) (lo : 16 ≤ xs.length) (hi : xs.length ≤ 65536) (hc : c ≤ maxLen) :
    MemAt (w.alloc (.cells #[.pointer (some ⟨w.heap.size, 0, none⟩), .slice (some ⟨bb, 0, none⟩) xs.length c] 44)) w.heap.size bb c xs :=
  ⟨heap_alloc_new w _, h.but ((But.refl NoBlock w).alloc _) (noBlock_not _), bd, lo, hi, hc⟩
theorem replicate_bd (n : Nat) : ∀ x ∈ List.replicate n (0 : Int), 0 ≤ x ∧ x < 256 := by
  intro x h
  rw [(List.mem_replicate.1 h).2]
  omega
set_option maxHeartbeats 1000000 in
theorem new_yes (n : Nat) (w : World) (h : 16 ≤ n) (h' : n ≤ 65536) : Calls Try.prog 10 #[.int .i64 n] w (NewDone2 w (List.replicate n 0)) := by
  have hmk := make_zeros n h'
  have HM := Lib.hid (Row.made w n)
  obtain ⟨C, hC⟩ : ∃ C, C = ((List.replicate n (0 : Int)).map (Value.int .u8)).toArray := ⟨_, rfl⟩
  rw [← hC] at HM hmk
  have h1 : ¬ (n : Int) < 16 := by omega
  have h2 : ¬ (65536 : Int) < n := by omega
  have HN := Lib.hid h
  clear hC
  go_enter Try.func10, Try.ntmps10
  go_wp2_with (go_at_call 27; refine (over_mem _ _ _ _).mono ?_; rintro e w' ⟨rfl, rfl⟩)
  go_ret2
  have hm := MemAt.over HM.out (replicate_bd n) (by simpa using HN.out) (by simpa using h') (by unfold maxLen; omega)
  simp only [List.length_replicate] at hm
  have hsz : (w.alloc (.cells C 5)).heap.size = w.heap.size + 1 := by simp
  rw [hsz] at hm
  exact ⟨_, _, _, rfl, hm, by omega, by omega, ((Below.refl _ _).alloc (Nat.le_refl _) _).alloc (by simp) _⟩
theorem new_no (n : Int) (w : World) (h : n < 16 ∨ 65536 < n) : Calls Try.prog 10 #[.int .i64 n] w fun e w' => e = .returned (.tuple #[.pointer none, .int .i64 2]) ∧ w = w' := by
  by_cases h1 : n < 16
  · clear h
    go_enter Try.func10, Try.ntmps10
    go_wp2
    go_ret2
    exact ⟨rfl, rfl⟩
  · have h2 : (65536 : Int) < n := by omega
    clear h
    go_enter Try.func10, Try.ntmps10
    go_wp2
    go_ret2
    exact ⟨rfl, rfl⟩
theorem owns_row {w : World} {base : Nat} {v : Value} {xs : List Int} (h : Owns w base 5 1 IsU8 v xs.length (xs.map (Value.int .u8))) (hn : 0 < xs.length) :
    ∃ g cap, v = .slice (some ⟨g, 0, none⟩) xs.length cap ∧ base ≤ g ∧ Row 5 w g cap xs ∧ cap ≤ maxLen := by
  rcases h.1.2 with ⟨rfl, h0⟩ | ⟨g, cap, cur, rfl, h1, h2, h3, h4, h5, h6⟩
  · omega
  · exact ⟨g, cap, rfl, h1, ⟨cur, h2, by simpa using h5, by rw [← h6, Nat.mul_one], h3⟩, h4⟩
set_option maxHeartbeats 1000000 in
theorem memCopy_yes {mb bb c : Nat} {xs : List Int} {w : World} (h : MemAt w mb bb c xs) : Calls Try.prog 12 #[.pointer (some ⟨mb, 0, none⟩)] w (NewDone w xs) := by
  have hl := h.hi
  have hlo := h.lo
  have HV := Lib.hid (valid_yes h)
  have hB := h.row.bytes h.bd h.row.lt (a := 0) (n := xs.length) (by omega) (by obtain ⟨_, _, _, _, h4⟩ := h.row; exact h4) (by unfold maxLen; omega)
  rw [List.drop_zero, List.take_length] at hB
  have HX := Lib.hid (clone_any _ xs w hB (by omega))
  have h1 := h.cell1
  have HBD := Lib.hid h.bd
  clear h hB
  go_enter Try.func12, Try.ntmps12
  go_wp2_with (first
    | (go_at_call 28; (with_reducible refine HV.out.mono ?_); rintro e w' ⟨rfl, rfl⟩)
    | (go_at_call 29; refine HX.out.mono ?_; rintro e w1 ⟨v, rfl, hown, hbel⟩; obtain ⟨g, cap, rfl, hg, hr, hcap⟩ := owns_row hown (by omega); have HR := Lib.hid hr; have HB := Lib.hid hbel; have HCP := Lib.hid hcap; clear hown hbel hr hcap)
    | (go_at_call 27; refine (over_mem _ _ _ _).mono ?_; rintro e w' ⟨rfl, rfl⟩))
  go_ret
  exact ⟨_, _, _, rfl, MemAt.over HR.out HBD.out hlo hl HCP.out, HB.out.size, hg, HB.out.alloc HB.out.size _⟩
theorem memCopy_no {p : Value} {w : World} (h : NoMem w p) : Calls Try.prog 12 #[p] w fun e w' => e = .returned (.pointer none) ∧ w = w' := by
  have HV := Lib.hid (valid_no h)
  clear h
  go_enter Try.func12, Try.ntmps12
  go_wp2_with (go_at_call 28; (with_reducible refine HV.out.mono ?_); rintro e w' ⟨rfl, rfl⟩)
  go_ret
  exact ⟨rfl, rfl⟩

theorem take_eq_step {xs ys : List Int} {k : Nat} (h : xs.take k = ys.take k) (hx : k < xs.length) (hy : k < ys.length) (he : xs.getD k 0 = ys.getD k 0) : xs.take (k + 1) = ys.take (k + 1) := by
  rw [take_snoc' hx, take_snoc' hy, h, he]
theorem ne_of_getD {xs ys : List Int} {k : Nat} (he : xs.getD k 0 ≠ ys.getD k 0) : (xs == ys) = false := by
  rw [beq_eq_false_iff_ne]
  intro h
  exact he (by rw [h])
theorem drew_ret {w : World} {v : Value} (n : Nat) : Drew w v (.returned v) (w.drewN n) := ⟨rfl, n, rfl⟩
theorem equal_len (X Y : Value) (xs ys : List Int) (w : World) (B C : Nat) (hX : IsBytes w B X xs) (hY : IsBytes w C Y ys) (hne : xs.length ≠ ys.length) :
    Calls Try.prog 30 #[X, Y] w fun e w' => e = .returned (.bool (xs == ys)) ∧ w = w' := by
  obtain ⟨A1, c1, rfl, b1⟩ := isBytes_value hX
  obtain ⟨A2, c2, rfl, b2⟩ := isBytes_value hY
  rw [show (xs == ys) = false by rw [beq_eq_false_iff_ne]; intro h; exact hne (by rw [h])]
  have hne' : ((xs.length : Int) != (ys.length : Int)) = true := by simpa using (by omega : ¬ (xs.length : Int) = ys.length)
  have hne2 : ((xs.length : Int) == (ys.length : Int)) = false := by simpa using (by omega : ¬ (xs.length : Int) = ys.length)
  clear hX hY hne
  go_enter Try.func30, Try.ntmps30
  go_wp2
  go_ret
  exact ⟨rfl, rfl⟩
set_option maxHeartbeats 2000000 in
theorem equal_same (b1 o1 c1 b2 o2 c2 n : Nat) (xs ys : List Int) (w : World) (hn : n ≤ 9223372036854775807) (hx : xs.length = n) (hy : ys.length = n)
    (h1 : ∀ i, i < n → w.cell? ⟨b1, o1 + i, none⟩ = some (.int .u8 (xs.getD i 0))) (h2 : ∀ i, i < n → w.cell? ⟨b2, o2 + i, none⟩ = some (.int .u8 (ys.getD i 0))) (r1 : n ≤ c1) (r2 : n ≤ c2) :
    Calls Try.prog 30 #[.slice (some ⟨b1, o1, none⟩) n c1, .slice (some ⟨b2, o2, none⟩) n c2] w (Drew w (.bool (xs == ys))) := by
  have H1 := Lib.hid h1
  have H2 := Lib.hid h2
  have HX := Lib.hid hx
  have HY := Lib.hid hy
  clear h1 h2 hx hy
  go_enter Try.func30, Try.ntmps30
  go_wp2
  go_loopw [13] (fun i wr => ∃ k q : Nat, k ≤ n ∧ i = .int .i64 k ∧ wr = w.drewN q ∧ xs.take k = ys.take k) (fun i _ => n - (intOf i).toNat)
  case atStart => exact ⟨0, 0, by omega, rfl, rfl, rfl⟩
  case round =>
    obtain ⟨k, q, hk, rfl, rfl, ht⟩ := hrel
    have HT := Lib.hid ht
    clear ht
    by_cases hlt : k < n
    · have g1 := H1.out k hlt
      have g2 := H2.out k hlt
      obtain ⟨x, hx⟩ : ∃ x, x = xs.getD k 0 := ⟨_, rfl⟩
      obtain ⟨y, hy⟩ : ∃ y, y = ys.getD k 0 := ⟨_, rfl⟩
      rw [← hx] at g1
      rw [← hy] at g2
      have GX := Lib.hid hx
      have GY := Lib.hid hy
      clear hx hy
      have k0 : (0 : Int) ≤ (k : Int) := by omega
      have k1 : (k : Int) < (n : Int) := by omega
      by_cases he : x = y
      · subst he
        have hs := Lib.hid (take_eq_step HT.out (by rw [HX.out]; exact hlt) (by rw [HY.out]; exact hlt) (by rw [← GX.out, ← GY.out]))
        go_wp2
        go_quiet (fail)
        go_wp2
        go_roundw
        case rel => exact ⟨k + 1, _, by omega, by go_num, rfl, hs.out⟩
        case measure => simp [intOf]; omega
      · have hs := Lib.hid (ne_of_getD (xs := xs) (ys := ys) (k := k) (by rw [← GX.out, ← GY.out]; exact he))
        have hb : (x != y) = true := by simpa using he
        have hb2 : (x == y) = false := by simpa using he
        clear he
        go_wp2
        go_quiet (fail)
        go_wp2
        go_ret
        rw [hs.out]
        exact ⟨rfl, _, World.drewN_drewN _ _ _⟩
    · obtain rfl : k = n := by omega
      go_wp2
      go_ret
      have e : (xs == ys) = true := by
        have := HT.out
        rw [List.take_of_length_le (by have := HX.out; omega), List.take_of_length_le (by have := HY.out; omega)] at this
        rw [this]
        exact beq_self_eq_true _
      rw [e]
      exact drew_ret q

theorem equal_any (X Y : Value) (xs ys : List Int) (w : World) (B C : Nat) (hX : IsBytes w B X xs) (hY : IsBytes w C Y ys) (hp : 0 < xs.length) :
    Calls Try.prog 30 #[X, Y] w (Drew w (.bool (xs == ys))) := by
  by_cases he : xs.length = ys.length
  · obtain ⟨b1, o1, c1, rfl, r1, _, g1⟩ := hX.plain hp
    obtain ⟨b2, o2, c2, rfl, r2, _, g2⟩ := hY.plain (by omega)
    have hm := hX.2.1
    unfold maxLen at hm
    rw [← he] at g2 r2 ⊢
    exact equal_same b1 o1 c1 b2 o2 c2 xs.length xs ys w (by omega) rfl he.symm g1 g2 r1 r2
  · exact (equal_len X Y xs ys w B C hX hY he).mono fun e w' ⟨h1, h2⟩ => by subst h2; exact ⟨h1, 0, rfl⟩
theorem MemAt.whole {w : World} {mb bb c : Nat} {xs : List Int} (h : MemAt w mb bb c xs) : IsBytes w w.heap.size (.slice (some ⟨bb, 0, none⟩) xs.length c) xs := by
  have hl := h.hi
  have hB := h.row.bytes h.bd h.row.lt (a := 0) (n := xs.length) (by omega) (by obtain ⟨_, _, _, _, h4⟩ := h.row; exact h4) (by unfold maxLen; omega)
  rw [List.drop_zero, List.take_length] at hB
  exact hB
set_option maxHeartbeats 1000000 in
theorem same_yes {ma ba ca mb bb cb : Nat} {xs ys : List Int} {w : World} (h : MemAt w ma ba ca xs) (k : MemAt w mb bb cb ys) :
    Calls Try.prog 13 #[.pointer (some ⟨ma, 0, none⟩), .pointer (some ⟨mb, 0, none⟩)] w (Drew w (.bool (xs == ys))) := by
  have h1 := h.cell1
  have k1 := k.cell1
  have HV := Lib.hid (fun n => valid_yes (h.drewN n))
  have KV := Lib.hid (fun n => valid_yes (k.drewN n))
  have HE := Lib.hid (fun n => equal_any _ _ xs ys (w.drewN n) _ _ (h.whole.drewN n) (k.whole.drewN n) (by have := h.lo; omega))
  obtain ⟨b, hb⟩ : ∃ b, b = (xs == ys) := ⟨_, rfl⟩
  rw [← hb] at HE ⊢
  clear h k hb
  go_enter Try.func13, Try.ntmps13
  go_wp2_with fail
  go_quiet ((first
    | (go_at_call 28; with_reducible exact quiet_left (HV.out _))
    | (go_at_call 28; with_reducible exact quiet_left (KV.out _))
    | (go_at_call 30; with_reducible exact quiet_drew (HE.out _))))
  go_wp2
  go_ret
  exact ⟨rfl, _, rfl⟩
theorem same_no1 {p q : Value} {w : World} (h : NoMem w p) :
    Calls Try.prog 13 #[p, q] w (Drew w (.bool false)) := by
  have HV := Lib.hid (fun n => valid_no (show NoMem (w.drewN n) p from h))
  clear h
  go_enter Try.func13, Try.ntmps13
  go_wp2_with fail
  go_quiet ((go_at_call 28; with_reducible exact quiet_left (HV.out _)))
  go_wp2
  go_ret
  exact ⟨rfl, _, rfl⟩
theorem same_no2 {ma ba ca : Nat} {xs : List Int} {q : Value} {w : World} (h : MemAt w ma ba ca xs) (k : NoMem w q) :
    Calls Try.prog 13 #[.pointer (some ⟨ma, 0, none⟩), q] w (Drew w (.bool false)) := by
  have HV := Lib.hid (fun n => valid_yes (h.drewN n))
  have KV := Lib.hid (fun n => valid_no (show NoMem (w.drewN n) q from k))
  clear h k
  go_enter Try.func13, Try.ntmps13
  go_wp2_with fail
  go_quiet ((first
    | (go_at_call 28; with_reducible exact quiet_left (HV.out _))
    | (go_at_call 28; with_reducible exact quiet_left (KV.out _))))
  go_wp2
  go_ret
  exact ⟨rfl, _, rfl⟩
end Go.Proofs.Ythcefpakjkojgaa
