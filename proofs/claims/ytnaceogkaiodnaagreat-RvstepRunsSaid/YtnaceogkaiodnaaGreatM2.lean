/- What slices.Clone and slices.Equal return on bytes, and Bytes and Lay of package mem: contracts for any memory, any place and any bytes, in whatever memory of the program. -/
import Derived.Test.YtnaceogkaiodnaaGreatM1
import Derived.Laws.CopyOwn
import Derived.Deep.QuietTactic
import Derived.BigQuiet
import Derived.Lib.SliceRun
import Derived.Laws.MakeOwn
import Derived.StillTailTactics
import Derived.Deep.RegionHeld3
namespace Go.Proofs.YtnaceogkaiodnaaGreat
open Go.RowKit
set_option linter.unusedVariables false

/-- A result, and no more than draws. -/
def Drew (w : World) (v : Value) (e : Ending) (w' : World) : Prop := e = .returned v ∧ ∃ n, w' = w.drewN n
theorem quiet_drew {P : Program} {f : FuncId} {args : Array Value} {w : World} {n : Nat} {v : Value}
    (h : Calls P f args (w.drewN n) (Drew (w.drewN n) v)) : Calls P f args (w.drewN n) fun e w'' => e = .returned v ∧ ∃ m, w'' = w.drewN m :=
  h.mono fun _ _ ⟨he, m, hm⟩ => ⟨he, n + m, by rw [hm, World.drewN_drewN]⟩
theorem quiet_add_drew {P : Program} {f : FuncId} {args : Array Value} {w : World} {a n : Nat} {v : Value}
    (h : Calls P f args (w.drewN (a + n)) (Drew (w.drewN (a + n)) v)) : Calls P f args (w.drewN (a + n)) fun e w'' => e = .returned v ∧ ∃ m, w'' = w.drewN (a + m) :=
  h.mono fun _ _ ⟨he, m, hm⟩ => ⟨he, n + m, by rw [hm, World.drewN_drewN, Nat.add_assoc]⟩
/-- What leaves the world alone draws nothing. -/
theorem drew_same {P : Program} {f : FuncId} {args : Array Value} {u : World} {v : Value} (h : Calls P f args u fun e w' => e = .returned v ∧ u = w') : Calls P f args u (Drew u v) :=
  h.mono fun _ _ hh => ⟨hh.1, 0, hh.2.symm⟩
theorem quiet_left {P : Program} {f : FuncId} {args : Array Value} {w : World} {n : Nat} {v : Value} (h : Calls P f args (w.drewN n) fun e w' => e = .returned v ∧ w.drewN n = w') :
    Calls P f args (w.drewN n) fun e w'' => e = .returned v ∧ ∃ m, w'' = w.drewN m := quiet_drew (drew_same h)
theorem quiet_add_left {P : Program} {f : FuncId} {args : Array Value} {w : World} {a n : Nat} {v : Value} (h : Calls P f args (w.drewN (a + n)) fun e w' => e = .returned v ∧ w.drewN (a + n) = w') :
    Calls P f args (w.drewN (a + n)) fun e w'' => e = .returned v ∧ ∃ m, w'' = w.drewN (a + m) := quiet_add_drew (drew_same h)
theorem hid_drew {w1 wr : World} (h : Hid (∃ q, wr = w1.drewN q)) (n : Nat) : Hid (∃ q, wr.drewN n = w1.drewN q) := by
  obtain ⟨q, rfl⟩ := h.out
  exact ⟨_, World.drewN_drewN _ _ _⟩
theorem MemAt.drewN {w : World} {mb bb c : Nat} {xs : List Int} (h : MemAt w mb bb c xs) (n : Nat) : MemAt (w.drewN n) mb bb c xs := h.but ((But.refl NoBlock w).drewN n) (noBlock_not _) (noBlock_not _)
theorem IsBytes.drewN {w : World} {B : Nat} {X : Value} {xs : List Int} (h : IsBytes w B X xs) (n : Nat) : IsBytes (w.drewN n) B X xs := h

theorem eql_slice_nil (a : Option Addr) (n c : Nat) (w : World) : (binOp .eql 25 (.slice a n c) (.slice none 0 0)).run Tryz.prog w = .ok (.bool a.isNone) w := Lib.run_eql_slice_nil w 25 5 a n c 0 0 Tryz.underlying25
theorem clone_none (w : World) : Calls Tryz.prog 55 #[.slice none 0 0] w (CopyDone w []) := by
  have hsn := eql_slice_nil
  go_enter Tryz.func55, Tryz.ntmps55
  go_wp2
  go_ret
  exact ⟨_, rfl, Owns.nil _ _ _ _ _, Below.refl _ _⟩
theorem clone_some (ad : Addr) (cap : Nat) (xs : List Int) (w : World) (hx : ∀ x ∈ xs, 0 ≤ x ∧ x < 256) (hm : xs.length ≤ 140737488355328) (hc : ∀ i, i < xs.length → w.cell? (ad.add i) = some (.int .u8 (xs.getD i 0))) (hb : 0 < xs.length → ad.block < w.heap.size) :
    Calls Tryz.prog 55 #[.slice (some ad) xs.length cap] w (CopyDone w xs) := by
  obtain ⟨i0, hi, hz0, hz1, hz2⟩ := info_parts u8_info
  have HI := Lib.hid hi
  have HZ0 := Lib.hid hz0
  have HZ1 := Lib.hid hz1
  have HZ2 := Lib.hid hz2
  have news : ∀ j u, (xs.map (Value.int .u8))[j]? = some u → (w.alloc (.cells #[] 5)).cell? (ad.add j) = some u := by
    intro j u hj
    have hl : j < xs.length := by
      rcases Nat.lt_or_ge j xs.length with h | h
      · exact h
      · rw [List.getElem?_eq_none (by simpa using h)] at hj
        cases hj
    have hbl : (ad.add j).block = ad.block := by unfold Addr.add; split <;> rfl
    rw [World.cell?_alloc_lt w _ _ (by rw [hbl]; exact hb (by omega)), hc j hl]
    simp [List.getElem?_eq_getElem hl] at hj
    subst hj
    simp [List.getD, List.getElem?_eq_getElem hl]
  have hmade := Owns.made w w.heap.size 5 1 IsU8 (Nat.le_refl _)
  have HN := Lib.hid news
  have HM := Lib.hid hmade
  have HK := Lib.hid (u8_cells hx)
  clear hi hz0 hz1 hz2 news hmade hc hb hx
  have hsn := eql_slice_nil
  go_enter Tryz.func55, Tryz.ntmps55
  go_wp2_with (at_builtin; refine wpList_append_q _ rfl (.tmp 5) (.tmp 6) 25 rfl w.heap.size 5 i0 _ 1 1 Tryz.underlying25 HI.out HZ0.out HZ1.out HZ2.out rfl (by decide) IsU8 zero_u8 _ 0 [] rfl HM.out ad xs.length cap (xs.map (Value.int .u8)) rfl (by simp) HN.out (ints_oneCell _ _) HK.out (by simp only [maxLen]; omega) (by omega) (by simp) ?_; intro v' w1 hown' hgrow; have R0 := Lib.hid hown'; have R1 := Lib.hid hgrow; clear hown' hgrow)
  go_ret
  refine ⟨_, rfl, ?_, ((Below.refl _ _).alloc (Nat.le_refl _) _).grown R1.out (by simp) (fun g hg => (HM.out.lt hg).1)⟩
  have h := R0.out
  simpa using h
theorem clone_any (X : Value) (xs : List Int) (w : World) (hX : IsBytes w w.heap.size X xs) (hm : xs.length ≤ 140737488355328) : Calls Tryz.prog 55 #[X] w (CopyDone w xs) := by
  rcases hX.2.2 with ⟨rfl, rfl⟩ | ⟨ad, cap, rfl, h1, h2, h3⟩
  · exact clone_none w
  · exact clone_some ad cap xs w hX.1 hm h3 h2

/-- What Bytes leaves. -/
def BytesDone (w : World) (xs : List Int) (E : Int) (e : Ending) (w' : World) : Prop :=
  ∃ v, e = .returned (.tuple #[v, .int .i64 E]) ∧ Owns w' w.heap.size 5 1 IsU8 v xs.length (xs.map (Value.int .u8)) ∧ Below w.heap.size w w'
theorem bytes_of {w : World} {p a n : Value} {X : Value} {xs : List Int} {E : Int} (hX : IsBytes w w.heap.size X xs) (hm : xs.length ≤ 140737488355328)
    (hcut : Calls Tryz.prog 53 #[p, a, n, .func (.func 54) #[p] #[]] w fun e w' => e = .returned (.tuple #[X, .int .i64 E]) ∧ w = w') :
    Calls Tryz.prog 25 #[p, a, n] w (BytesDone w xs E) := by
  have HX := Lib.hid (clone_any X xs w hX hm)
  have HC := Lib.hid hcut
  clear hX hm hcut
  go_enter Tryz.func25, Tryz.ntmps25
  go_wp2_with (first
    | (go_at_call 53; (with_reducible refine HC.out.mono ?_); rintro e w' ⟨rfl, rfl⟩)
    | (go_at_call 55; refine HX.out.mono ?_; rintro e w1 ⟨v, rfl, hown, hbel⟩; have R0 := Lib.hid hown; have R1 := Lib.hid hbel; clear hown hbel))
  go_ret2
  exact ⟨v, rfl, R0.out, R1.out⟩
theorem IsBytes.none (w : World) (B : Nat) : IsBytes w B (.slice none 0 0) [] := ⟨by simp, by simp, .inl ⟨rfl, rfl⟩⟩
theorem IsBytes.empty (w : World) (B : Nat) (ad : Addr) (cap : Nat) : IsBytes w B (.slice (some ad) 0 cap) [] := ⟨by simp, by simp, .inr ⟨ad, cap, rfl, by simp, by simp, by simp⟩⟩
theorem bytes_any {mb bb c : Nat} {xs : List Int} {w : World} (h : MemAt w mb bb c xs) (a n : Int) (ha : 0 ≤ a) (ha' : a < 18446744073709551616) (hn' : n < 9223372036854775808) :
    Calls Tryz.prog 25 #[.pointer (some ⟨mb, 0, none⟩), .int .u64 a, .int .i64 n] w (BytesDone w (bytesL xs a n) (accE xs.length a n)) := by
  have hl := h.hi
  by_cases he : accE xs.length a n = 0
  · obtain ⟨h0, h1, h2, h3⟩ := accE_zero he
    unfold bytesL
    rw [if_pos he, he]
    obtain ⟨k, rfl⟩ := nat_of ha
    obtain ⟨m, rfl⟩ := nat_of h0
    by_cases hm : 0 < m
    · have hB := h.row.bytes h.bd h.row.lt (a := k) (n := m) (by omega) (Nat.le_refl m) (by unfold maxLen; omega)
      rw [partL_nat]
      exact bytes_of hB (by simp; omega) (cutB_ok h k m (by omega) (by omega) hm)
    · obtain rfl : m = 0 := by omega
      have e : partL xs k (0 : Nat) = [] := by simp [partL]
      rw [e]
      exact bytes_of (IsBytes.empty w _ _ _) (by simp) (cutB_nil h k (by omega) (by omega))
  · unfold bytesL
    rw [if_neg he]
    exact bytes_of (IsBytes.none w _) (by simp) (cutB_bad h a n ha ha' hn' he)
theorem cutB_no {p : Value} {w : World} (h : NoMem w p) (a n : Int) :
    Calls Tryz.prog 53 #[p, .int .u64 a, .int .i64 n, .func (.func 54) #[p] #[]] w fun e w' => e = .returned (.tuple #[.slice none 0 0, .int .i64 1]) ∧ w = w' := by
  have HV := Lib.hid (valid_no h)
  clear h
  go_enter Tryz.func53, Tryz.ntmps53
  go_wp2_with (go_at_call 56; (with_reducible refine HV.out.mono ?_); rintro e w' ⟨rfl, rfl⟩)
  go_ret2
  exact ⟨rfl, rfl⟩
theorem bytes_no {p : Value} {w : World} (h : NoMem w p) (a n : Int) :
    Calls Tryz.prog 25 #[p, .int .u64 a, .int .i64 n] w fun e w' => e = .returned (.tuple #[.slice none 0 0, .int .i64 1]) ∧ w = w' := by
  have HC := Lib.hid (cutB_no h a n)
  have hcl : ∀ w, Calls Tryz.prog 55 #[.slice none 0 0] w fun e w' => e = .returned (.slice none 0 0) ∧ w = w' := by
    intro w
    have hsn := eql_slice_nil
    go_enter Tryz.func55, Tryz.ntmps55
    go_wp2
    go_ret
    exact ⟨rfl, rfl⟩
  have HX := Lib.hid hcl
  clear h hcl
  go_enter Tryz.func25, Tryz.ntmps25
  go_wp2_with (first
    | (go_at_call 53; (with_reducible refine HC.out.mono ?_); rintro e w' ⟨rfl, rfl⟩)
    | (go_at_call 55; (with_reducible refine (HX.out _).mono ?_); rintro e w' ⟨rfl, rfl⟩))
  go_ret2
  exact ⟨rfl, rfl⟩

theorem isBytes_value {w : World} {B : Nat} {Y : Value} {ys : List Int} (h : IsBytes w B Y ys) : ∃ (A : Option Addr) (cap : Nat), Y = .slice A ys.length cap ∧ ys.length ≤ 9223372036854775807 := by
  obtain ⟨A, cap, e⟩ := h.len
  have := h.2.1
  unfold maxLen at this
  exact ⟨A, cap, e, by omega⟩
theorem lay_bad {p : Value} {Y : Value} {ys : List Int} {w : World} {B : Nat} {E a : Int} {d : Option Addr} (hY : IsBytes w B Y ys)
    (hcut : Calls Tryz.prog 53 #[p, .int .u64 a, .int .i64 ys.length, .func (.func 54) #[p] #[]] w fun e w' => e = .returned (.tuple #[.slice d 0 0, .int .i64 E]) ∧ w = w') :
    Calls Tryz.prog 52 #[p, .int .u64 a, Y] w fun e w' => e = .returned (.int .i64 E) ∧ w = w' := by
  obtain ⟨A, cap, rfl, hb⟩ := isBytes_value hY
  have HC := Lib.hid hcut
  obtain ⟨m, hm⟩ : ∃ m, m = ys.length := ⟨_, rfl⟩
  rw [← hm] at HC hb ⊢
  clear hY hcut hm
  go_enter Tryz.func52, Tryz.ntmps52
  go_wp2_with (first
    | (go_at_call 53; (with_reducible refine HC.out.mono ?_); rintro e w' ⟨rfl, rfl⟩)
    | (with_reducible refine wpList_copy_nothing rfl (.tmp 19) (.tmp 20) 25 25 rfl 5 Tryz.underlying25 u8_size _ _ 0 0 m cap rfl rfl (Nat.min_zero m) ?_))
  go_ret
  exact ⟨rfl, rfl⟩
set_option maxHeartbeats 1000000 in
theorem lay_ok {mb bb c : Nat} {xs ys : List Int} {w : World} (h : MemAt w mb bb c xs) (k : Nat) {Y : Value} {B : Nat} (hY : IsBytes w B Y ys) (hk : 16 ≤ k) (hkm : k + ys.length ≤ xs.length) (hm : 0 < ys.length) :
    Calls Tryz.prog 52 #[.pointer (some ⟨mb, 0, none⟩), .int .u64 k, Y] w (StoreDone w mb bb c (layL xs k ys) 0) := by
  have hl := h.hi
  have HBD := Lib.hid hY.1
  obtain ⟨m, hmm⟩ : ∃ m, m = ys.length := ⟨_, rfl⟩
  obtain ⟨b, off, cap, rfl, hcap, hlt, hc⟩ := hY.plain hm
  obtain ⟨cur, hcur, hsz, htk, hcl⟩ := h.row
  have hnews : ∀ j u, (ys.map (Value.int .u8))[j]? = some u → w.cell? ((⟨b, off, none⟩ : Addr).add j) = some u := by
    intro j u hj
    have hl : j < ys.length := by
      rcases Nat.lt_or_ge j ys.length with h | h
      · exact h
      · rw [List.getElem?_eq_none (by simpa using h)] at hj
        cases hj
    have e : (⟨b, off, none⟩ : Addr).add j = ⟨b, off + j, none⟩ := by unfold Addr.add; split <;> simp_all
    rw [e, hc j hl]
    simp [List.getElem?_eq_getElem hl] at hj
    subst hj
    simp [List.getD, List.getElem?_eq_getElem hl]
  have HN := Lib.hid hnews
  have HC := Lib.hid (cutB_ok h k ys.length hk hkm hm)
  have HM := Lib.hid h
  have HCUR := Lib.hid hcur
  have HSZ := Lib.hid hsz
  have HMM := Lib.hid hmm
  rw [← hmm] at HC hcap hkm hm ⊢
  have hmx : m ≤ 65536 := by omega
  clear h hY hc hcur hsz htk hnews hmm
  go_enter Tryz.func52, Tryz.ntmps52
  go_wp2_with (first
    | (go_at_call 53; (with_reducible refine HC.out.mono ?_); rintro e w' ⟨rfl, rfl⟩)
    | (with_reducible refine wpList_copy_own rfl (.tmp 19) (.tmp 20) 25 25 rfl 5 Tryz.underlying25 u8_size bb k m m ⟨b, off, none⟩ m cap rfl rfl cur 5 HCUR.out (ys.map (Value.int .u8)) (by simp [HMM.out]) HN.out (by simp [HSZ.out, ← HMM.out]; omega) (ints_oneCell _ _) ?_))
  go_ret
  refine ⟨rfl, HM.out.lay (by rw [← HMM.out]; exact hkm) HBD.out HCUR.out, ?_⟩
  exact (But.refl (OneBlock bb) _).setRow (.inl rfl) _
theorem lay_any {mb bb c : Nat} {xs ys : List Int} {w : World} (h : MemAt w mb bb c xs) (a : Int) {Y : Value} {B : Nat} (hY : IsBytes w B Y ys) (ha : 0 ≤ a) (ha' : a < 18446744073709551616) :
    Calls Tryz.prog 52 #[.pointer (some ⟨mb, 0, none⟩), .int .u64 a, Y] w (StoreDone w mb bb c (layB xs a ys) (accE xs.length a ys.length)) := by
  have hb := hY.2.1
  unfold maxLen at hb
  by_cases he : accE xs.length a ys.length = 0
  · obtain ⟨h0, h1, h2, h3⟩ := accE_zero he
    unfold layB
    rw [if_pos he, he]
    obtain ⟨k, rfl⟩ := nat_of ha
    by_cases hm : 0 < ys.length
    · exact lay_ok h k hY (by omega) (by omega) hm
    · obtain rfl : ys = [] := List.eq_nil_of_length_eq_zero (by omega)
      rw [layL_nil]
      exact (lay_bad (E := 0) hY (cutB_nil h k (by omega) (by omega))).mono fun e w' ⟨h1, h2⟩ => by subst h2; exact ⟨h1, h, But.refl _ _⟩
  · unfold layB
    rw [if_neg he]
    exact (lay_bad hY (cutB_bad h a _ ha ha' (by omega) he)).mono fun e w' ⟨h1, h2⟩ => by subst h2; exact ⟨h1, h, But.refl _ _⟩
theorem lay_no {p : Value} {w : World} (h : NoMem w p) (a : Int) {Y : Value} {ys : List Int} {B : Nat} (hY : IsBytes w B Y ys) :
    Calls Tryz.prog 52 #[p, .int .u64 a, Y] w fun e w' => e = .returned (.int .i64 1) ∧ w = w' :=
  lay_bad hY (cutB_no h a _)
end Go.Proofs.YtnaceogkaiodnaaGreat

namespace Go.Proofs.YtnaceogkaiodnaaGreat
open Go.RowKit
set_option linter.unusedVariables false

theorem made_bytes (n : Nat) : madeCells (Value.int .u8 0).cells (n * 1) = ((List.replicate n (0 : Int)).map (Value.int .u8)).toArray := by
  apply Array.ext
  · simp [madeCells]
  · intro i h1 h2
    simp [madeCells, Value.cells, Nat.mod_one]
/-- make of so many bytes: a new block of zeros. -/
theorem make_zeros (n : Nat) (h : n ≤ 65536) (w : World) : (Instr.makeSlice 25 (.int .i64 (n : Int)) (.int .i64 (n : Int))).run Tryz.prog w = .ok (.slice (some ⟨w.heap.size, 0, none⟩) n n) (w.alloc (.cells ((List.replicate n (0 : Int)).map (Value.int .u8)).toArray 5)) := by
  obtain ⟨i0, hi, hz0, hz1, hz2⟩ := info_parts u8_info
  have hr := run_make (P := Tryz.prog) w 25 5 i0 _ Tryz.underlying25 hi hz0 .i64 .i64 n n (by omega) (Int.le_refl _) (by rw [hz2]; omega) (by omega)
  rw [Int.toNat_natCast, hz1, made_bytes] at hr
  exact hr
theorem Row.made (w : World) (n : Nat) : Row 5 (w.alloc (.cells ((List.replicate n (0 : Int)).map (Value.int .u8)).toArray 5)) w.heap.size n (List.replicate n 0) :=
  ⟨_, heap_alloc_new w _, by simp, by simp, by simp⟩

/-- What New and Copy leave. -/
def NewDone (w : World) (xs : List Int) (e : Ending) (w' : World) : Prop :=
  ∃ mb bb c, e = .returned (.pointer (some ⟨mb, 0, none⟩)) ∧ MemAt w' mb bb c xs ∧ w.heap.size ≤ mb ∧ w.heap.size ≤ bb ∧ Below w.heap.size w w'
def NewDone2 (w : World) (xs : List Int) (e : Ending) (w' : World) : Prop :=
  ∃ mb bb c, e = .returned (.tuple #[.pointer (some ⟨mb, 0, none⟩), .int .i64 0]) ∧ MemAt w' mb bb c xs ∧ w.heap.size ≤ mb ∧ w.heap.size ≤ bb ∧ Below w.heap.size w w'
theorem over_mem (bb n c : Nat) (w : World) :
    Calls Tryz.prog 75 #[.slice (some ⟨bb, 0, none⟩) n c] w fun e w' => e = .returned (.pointer (some ⟨w.heap.size, 0, none⟩)) ∧ w' = w.alloc (.cells #[.pointer (some ⟨w.heap.size, 0, none⟩), .slice (some ⟨bb, 0, none⟩) n c] 105) := by
  go_enter Tryz.func75, Tryz.ntmps75
  go_wp2
  go_ret
  exact ⟨rfl, rfl⟩
theorem MemAt.over {w : World} {bb c : Nat} {xs : List Int} (h : Row 5 w bb c xs) (bd : ∀ x ∈ xs, 0 ≤ x ∧ x < 256) (lo : 16 ≤ xs.length) (hi : xs.length ≤ 65536) (hc : c ≤ maxLen) :
    MemAt (w.alloc (.cells #[.pointer (some ⟨w.heap.size, 0, none⟩), .slice (some ⟨bb, 0, none⟩) xs.length c] 105)) w.heap.size bb c xs :=
  ⟨heap_alloc_new w _, h.but ((But.refl NoBlock w).alloc _) (noBlock_not _), bd, lo, hi, hc⟩
theorem replicate_bd (n : Nat) : ∀ x ∈ List.replicate n (0 : Int), 0 ≤ x ∧ x < 256 := by
  intro x h
  rw [(List.mem_replicate.1 h).2]
  omega
set_option maxHeartbeats 1000000 in
theorem new_yes (n : Nat) (w : World) (h : 16 ≤ n) (h' : n ≤ 65536) : Calls Tryz.prog 48 #[.int .i64 n] w (NewDone2 w (List.replicate n 0)) := by
  have hmk := make_zeros n h'
  have HM := Lib.hid (Row.made w n)
  obtain ⟨C, hC⟩ : ∃ C, C = ((List.replicate n (0 : Int)).map (Value.int .u8)).toArray := ⟨_, rfl⟩
  rw [← hC] at HM hmk
  have h1 : ¬ (n : Int) < 16 := by omega
  have h2 : ¬ (65536 : Int) < n := by omega
  have HN := Lib.hid h
  clear hC
  go_enter Tryz.func48, Tryz.ntmps48
  go_wp2_with (go_at_call 75; refine (over_mem _ _ _ _).mono ?_; rintro e w' ⟨rfl, rfl⟩)
  go_ret2
  have hm := MemAt.over HM.out (replicate_bd n) (by simpa using HN.out) (by simpa using h') (by unfold maxLen; omega)
  simp only [List.length_replicate] at hm
  have hsz : (w.alloc (.cells C 5)).heap.size = w.heap.size + 1 := by simp
  rw [hsz] at hm
  exact ⟨_, _, _, rfl, hm, by omega, by omega, ((Below.refl _ _).alloc (Nat.le_refl _) _).alloc (by simp) _⟩
theorem new_no (n : Int) (w : World) (h : n < 16 ∨ 65536 < n) : Calls Tryz.prog 48 #[.int .i64 n] w fun e w' => e = .returned (.tuple #[.pointer none, .int .i64 2]) ∧ w = w' := by
  by_cases h1 : n < 16
  · clear h
    go_enter Tryz.func48, Tryz.ntmps48
    go_wp2
    go_ret2
    exact ⟨rfl, rfl⟩
  · have h2 : (65536 : Int) < n := by omega
    clear h
    go_enter Tryz.func48, Tryz.ntmps48
    go_wp2
    go_ret2
    exact ⟨rfl, rfl⟩
theorem owns_row {w : World} {base : Nat} {v : Value} {xs : List Int} (h : Owns w base 5 1 IsU8 v xs.length (xs.map (Value.int .u8))) (hn : 0 < xs.length) :
    ∃ g cap, v = .slice (some ⟨g, 0, none⟩) xs.length cap ∧ base ≤ g ∧ Row 5 w g cap xs ∧ cap ≤ maxLen := by
  rcases h.1.2 with ⟨rfl, h0⟩ | ⟨g, cap, cur, rfl, h1, h2, h3, h4, h5, h6⟩
  · omega
  · exact ⟨g, cap, rfl, h1, ⟨cur, h2, by simpa using h5, by rw [← h6, Nat.mul_one], h3⟩, h4⟩
theorem take_eq_step {xs ys : List Int} {k : Nat} (h : xs.take k = ys.take k) (hx : k < xs.length) (hy : k < ys.length) (he : xs.getD k 0 = ys.getD k 0) : xs.take (k + 1) = ys.take (k + 1) := by
  rw [take_snoc' hx, take_snoc' hy, h, he]
theorem ne_of_getD {xs ys : List Int} {k : Nat} (he : xs.getD k 0 ≠ ys.getD k 0) : (xs == ys) = false := by
  rw [beq_eq_false_iff_ne]
  intro h
  exact he (by rw [h])
theorem drew_ret {w : World} {v : Value} (n : Nat) : Drew w v (.returned v) (w.drewN n) := ⟨rfl, n, rfl⟩
theorem equal_len (X Y : Value) (xs ys : List Int) (w : World) (B C : Nat) (hX : IsBytes w B X xs) (hY : IsBytes w C Y ys) (hne : xs.length ≠ ys.length) :
    Calls Tryz.prog 57 #[X, Y] w fun e w' => e = .returned (.bool (xs == ys)) ∧ w = w' := by
  obtain ⟨A1, c1, rfl, b1⟩ := isBytes_value hX
  obtain ⟨A2, c2, rfl, b2⟩ := isBytes_value hY
  rw [show (xs == ys) = false by rw [beq_eq_false_iff_ne]; intro h; exact hne (by rw [h])]
  have hne' : ((xs.length : Int) != (ys.length : Int)) = true := by simpa using (by omega : ¬ (xs.length : Int) = ys.length)
  have hne2 : ((xs.length : Int) == (ys.length : Int)) = false := by simpa using (by omega : ¬ (xs.length : Int) = ys.length)
  clear hX hY hne
  go_enter Tryz.func57, Tryz.ntmps57
  go_wp2
  go_ret
  exact ⟨rfl, rfl⟩
set_option maxHeartbeats 2000000 in
theorem equal_same (b1 o1 c1 b2 o2 c2 n : Nat) (xs ys : List Int) (w : World) (hn : n ≤ 9223372036854775807) (hx : xs.length = n) (hy : ys.length = n)
    (h1 : ∀ i, i < n → w.cell? ⟨b1, o1 + i, none⟩ = some (.int .u8 (xs.getD i 0))) (h2 : ∀ i, i < n → w.cell? ⟨b2, o2 + i, none⟩ = some (.int .u8 (ys.getD i 0))) (r1 : n ≤ c1) (r2 : n ≤ c2) :
    Calls Tryz.prog 57 #[.slice (some ⟨b1, o1, none⟩) n c1, .slice (some ⟨b2, o2, none⟩) n c2] w (Drew w (.bool (xs == ys))) := by
  have H1 := Lib.hid h1
  have H2 := Lib.hid h2
  have HX := Lib.hid hx
  have HY := Lib.hid hy
  clear h1 h2 hx hy
  go_enter Tryz.func57, Tryz.ntmps57
  go_wp2
  go_loopw [13] (fun i wr => ∃ k q : Nat, k ≤ n ∧ i = .int .i64 k ∧ wr = w.drewN q ∧ xs.take k = ys.take k) (fun i _ => n - (intOf i).toNat)
  case atStart => exact ⟨0, 0, by omega, rfl, rfl, rfl⟩
  case round =>
    obtain ⟨k, q, hk, rfl, rfl, ht⟩ := hrel
    have HT := Lib.hid ht
    clear ht
    by_cases hlt : k < n
    · have g1 := H1.out k hlt
      have g2 := H2.out k hlt
      obtain ⟨x, hx⟩ : ∃ x, x = xs.getD k 0 := ⟨_, rfl⟩
      obtain ⟨y, hy⟩ : ∃ y, y = ys.getD k 0 := ⟨_, rfl⟩
      rw [← hx] at g1
      rw [← hy] at g2
      have GX := Lib.hid hx
      have GY := Lib.hid hy
      clear hx hy
      have k0 : (0 : Int) ≤ (k : Int) := by omega
      have k1 : (k : Int) < (n : Int) := by omega
      by_cases he : x = y
      · subst he
        have hs := Lib.hid (take_eq_step HT.out (by rw [HX.out]; exact hlt) (by rw [HY.out]; exact hlt) (by rw [← GX.out, ← GY.out]))
        go_wp2
        go_quiet (fail)
        go_wp2
        go_roundw
        case rel => exact ⟨k + 1, _, by omega, by go_num, rfl, hs.out⟩
        case measure => simp [intOf]; omega
      · have hs := Lib.hid (ne_of_getD (xs := xs) (ys := ys) (k := k) (by rw [← GX.out, ← GY.out]; exact he))
        have hb : (x != y) = true := by simpa using he
        have hb2 : (x == y) = false := by simpa using he
        clear he
        go_wp2
        go_quiet (fail)
        go_wp2
        go_ret
        rw [hs.out]
        exact ⟨rfl, _, World.drewN_drewN _ _ _⟩
    · obtain rfl : k = n := by omega
      go_wp2
      go_ret
      have e : (xs == ys) = true := by
        have := HT.out
        rw [List.take_of_length_le (by have := HX.out; omega), List.take_of_length_le (by have := HY.out; omega)] at this
        rw [this]
        exact beq_self_eq_true _
      rw [e]
      exact drew_ret q

theorem equal_any (X Y : Value) (xs ys : List Int) (w : World) (B C : Nat) (hX : IsBytes w B X xs) (hY : IsBytes w C Y ys) (hp : 0 < xs.length) :
    Calls Tryz.prog 57 #[X, Y] w (Drew w (.bool (xs == ys))) := by
  by_cases he : xs.length = ys.length
  · obtain ⟨b1, o1, c1, rfl, r1, _, g1⟩ := hX.plain hp
    obtain ⟨b2, o2, c2, rfl, r2, _, g2⟩ := hY.plain (by omega)
    have hm := hX.2.1
    unfold maxLen at hm
    rw [← he] at g2 r2 ⊢
    exact equal_same b1 o1 c1 b2 o2 c2 xs.length xs ys w (by omega) rfl he.symm g1 g2 r1 r2
  · exact (equal_len X Y xs ys w B C hX hY he).mono fun e w' ⟨h1, h2⟩ => by subst h2; exact ⟨h1, 0, rfl⟩
theorem MemAt.whole {w : World} {mb bb c : Nat} {xs : List Int} (h : MemAt w mb bb c xs) : IsBytes w w.heap.size (.slice (some ⟨bb, 0, none⟩) xs.length c) xs := by
  have hl := h.hi
  have hB := h.row.bytes h.bd h.row.lt (a := 0) (n := xs.length) (by omega) (by obtain ⟨_, _, _, _, h4⟩ := h.row; exact h4) (by unfold maxLen; omega)
  rw [List.drop_zero, List.take_length] at hB
  exact hB
set_option maxHeartbeats 1000000 in
theorem same_yes {ma ba ca mb bb cb : Nat} {xs ys : List Int} {w : World} (h : MemAt w ma ba ca xs) (k : MemAt w mb bb cb ys) :
    Calls Tryz.prog 26 #[.pointer (some ⟨ma, 0, none⟩), .pointer (some ⟨mb, 0, none⟩)] w (Drew w (.bool (xs == ys))) := by
  have h1 := h.cell1
  have k1 := k.cell1
  have HV := Lib.hid (fun n => valid_yes (h.drewN n))
  have KV := Lib.hid (fun n => valid_yes (k.drewN n))
  have HE := Lib.hid (fun n => equal_any _ _ xs ys (w.drewN n) _ _ (h.whole.drewN n) (k.whole.drewN n) (by have := h.lo; omega))
  obtain ⟨b, hb⟩ : ∃ b, b = (xs == ys) := ⟨_, rfl⟩
  rw [← hb] at HE ⊢
  clear h k hb
  go_enter Tryz.func26, Tryz.ntmps26
  go_wp2_with fail
  go_quiet ((first
    | (go_at_call 56; with_reducible exact quiet_left (HV.out _))
    | (go_at_call 56; with_reducible exact quiet_left (KV.out _))
    | (go_at_call 57; with_reducible exact quiet_drew (HE.out _))))
  go_wp2
  go_ret
  exact ⟨rfl, _, rfl⟩
theorem same_no1 {p q : Value} {w : World} (h : NoMem w p) :
    Calls Tryz.prog 26 #[p, q] w (Drew w (.bool false)) := by
  have HV := Lib.hid (fun n => valid_no (show NoMem (w.drewN n) p from h))
  clear h
  go_enter Tryz.func26, Tryz.ntmps26
  go_wp2_with fail
  go_quiet ((go_at_call 56; with_reducible exact quiet_left (HV.out _)))
  go_wp2
  go_ret
  exact ⟨rfl, _, rfl⟩
theorem same_no2 {ma ba ca : Nat} {xs : List Int} {q : Value} {w : World} (h : MemAt w ma ba ca xs) (k : NoMem w q) :
    Calls Tryz.prog 26 #[.pointer (some ⟨ma, 0, none⟩), q] w (Drew w (.bool false)) := by
  have HV := Lib.hid (fun n => valid_yes (h.drewN n))
  have KV := Lib.hid (fun n => valid_no (show NoMem (w.drewN n) q from k))
  clear h k
  go_enter Tryz.func26, Tryz.ntmps26
  go_wp2_with fail
  go_quiet ((first
    | (go_at_call 56; with_reducible exact quiet_left (HV.out _))
    | (go_at_call 56; with_reducible exact quiet_left (KV.out _))))
  go_wp2
  go_ret
  exact ⟨rfl, _, rfl⟩
end Go.Proofs.YtnaceogkaiodnaaGreat

namespace Go.Proofs.YtnaceogkaiodnaaGreat
open Go.RowKit
set_option linter.unusedVariables false

set_option maxRecDepth 100000 in
theorem eqlP_nil (a : Addr) (w : World) : (binOp .eql 36 (.pointer (some a)) (.pointer none)).run Tryz.prog w = .ok (.bool false) w := run_eql_pointer_nil w _ _ Tryz.underlying36
/-- The chapter's memory of 32 bytes, behind its first store. -/
def zero32 : List Int := List.replicate 32 0
def exL : List Int := storeL zero32 16 4 16909060
theorem ex_store {mb bb c : Nat} {w : World} (h : MemAt w mb bb c (List.replicate 32 0)) : Calls Tryz.prog 148 #[.pointer (some ⟨mb, 0, none⟩), .int .u64 16, .int .i64 4, .int .u64 16909060] w (StoreDone w mb bb c exL 0) := by
  have e : numE (List.replicate 32 (0 : Int)).length 16 4 = 0 := by decide +kernel
  have := store_any h 16 4 16909060 (by decide) (by decide) (by decide) (by decide) (by decide)
  rw [e] at this
  exact this
/-- The choice that a number says. -/
def pickV (x n : Int) : Int := (x.tmod n + n).tmod n
theorem pick_bd {x n : Int} (hn : 0 < n) : 0 ≤ pickV x n ∧ pickV x n < n := by
  unfold pickV
  have h1 : -n < x.tmod n := by
    have := Int.lt_tmod_of_pos x hn
    omega
  have h2 : 0 ≤ x.tmod n + n := by omega
  rw [Int.tmod_eq_emod_of_nonneg h2]
  exact ⟨Int.emod_nonneg _ (by omega), Int.emod_lt_of_pos _ hn⟩
theorem pick_any (x n : Int) (w : World) (hn : 0 < n) (hn' : n ≤ 1000000) (hx : -9223372036854775808 ≤ x) (hx' : x < 9223372036854775808) :
    Calls Tryz.prog 12 #[.int .i64 x, .int .i64 n] w fun e w' => e = .returned (.int .i64 (pickV x n)) ∧ w = w' := by
  have h1 : -n < x.tmod n := by
    have := Int.lt_tmod_of_pos x hn
    omega
  have h2 : x.tmod n < n := Int.tmod_lt_of_pos x hn
  have e : wrap64 (x.tmod n + n) = x.tmod n + n := by
    generalize x.tmod n = y at h1 h2
    unfold wrap64
    omega
  have E := Lib.hid e
  have n0 : (n == 0) = false := by simpa using (by omega : ¬ n = 0)
  clear e h1 h2
  go_enter Tryz.func12, Tryz.ntmps12
  go_wp2
  go_ret
  exact ⟨ret_int (by rw [E.out]; rfl), rfl⟩
/-- The lowest bytes of a number. -/
def cutV (v n : Int) : Int := if 8 ≤ n then v else v % 256 ^ n.toNat
end Go.Proofs.YtnaceogkaiodnaaGreat

namespace Go.Proofs.YtnaceogkaiodnaaGreat
open Go.RowKit
set_option linter.unusedVariables false

theorem emod_split (a : Int) {p : Int} (hp : 0 < p) : a % (p * 256) = a % p + a / p % 256 * p := by
  have h1 := Int.mul_ediv_add_emod a p
  have h2 := Int.mul_ediv_add_emod (a / p) 256
  have h3 := Int.emod_nonneg a (by omega : p ≠ 0)
  have h4 := Int.emod_lt_of_pos a hp
  have h5 : 0 ≤ a / p % 256 ∧ a / p % 256 < 256 := by omega
  generalize a % p = r at *
  generalize hq : a / p = q at *
  generalize q % 256 = d at *
  generalize q / 256 = k at *
  have e : a = (r + d * p) + p * 256 * k := by rw [← h1, ← h2]; grind
  have hd : d * p ≤ 255 * p := Int.mul_le_mul_of_nonneg_right (by omega) (by omega)
  have hd0 : 0 ≤ d * p := Int.mul_nonneg h5.1 (by omega)
  rw [e, Int.add_mul_emod_self_left, Int.emod_eq_of_lt (by omega) (by omega)]
theorem numV_bytesV (a : Int) : ∀ n : Nat, numV (bytesV a n) = a % 256 ^ n
  | 0 => by simp [bytesV, numV]
  | n + 1 => by
    rw [bytesV_succ, numV_snoc, numV_bytesV a n, bytesV_len, Int.pow_succ, emod_split a (Int.pow_pos (by omega))]
    rfl
theorem bytesV_cons (a : Int) (n : Nat) : bytesV a (n + 1) = a % 256 :: bytesV (a / 256) n := by
  unfold bytesV
  rw [List.range_succ_eq_map, List.map_cons, List.map_map]
  have h0 : byteV a 0 = a % 256 := by unfold byteV; simp
  rw [h0]
  congr 1
  apply List.map_congr_left
  intro k _
  show byteV a (k + 1) = byteV (a / 256) k
  unfold byteV
  rw [Int.pow_succ, Int.mul_comm, Int.ediv_mul_of_nonneg (by omega)]
theorem bytesV_numV : ∀ xs : List Int, (∀ x ∈ xs, 0 ≤ x ∧ x < 256) → bytesV (numV xs) xs.length = xs
  | [], _ => rfl
  | x :: xs, h => by
    have hx := h x (by simp)
    rw [List.length_cons, bytesV_cons]
    have e1 : numV (x :: xs) % 256 = x := by simp only [numV]; omega
    have e2 : numV (x :: xs) / 256 = numV xs := by simp only [numV]; omega
    rw [e1, e2, bytesV_numV xs (fun y hy => h y (by simp [hy]))]

theorem numV_inj {xs ys : List Int} (hl : xs.length = ys.length) (hx : ∀ x ∈ xs, 0 ≤ x ∧ x < 256) (hy : ∀ x ∈ ys, 0 ≤ x ∧ x < 256) (h : numV xs = numV ys) : xs = ys := by
  rw [← bytesV_numV xs hx, ← bytesV_numV ys hy, h, hl]
theorem layL_part {xs ys : List Int} {a : Nat} (h : a + ys.length ≤ xs.length) : partL (layL xs a ys) a ys.length = ys := by
  have h1 : (xs.take a).length = a := by simp; omega
  unfold partL layL
  simp only [Int.toNat_natCast]
  rw [List.drop_append_of_le_length (by omega), List.drop_of_length_le (by omega), List.nil_append]
  rw [List.take_append_of_le_length (by omega), List.take_of_length_le (by omega)]
theorem layL_self {xs : List Int} {a n : Nat} (h : a + n ≤ xs.length) : layL xs a (partL xs a n) = xs := by
  have hl := partL_len h
  unfold layL
  rw [hl, partL_nat]
  rw [← List.drop_drop, List.take_append_drop, List.take_append_drop]
theorem layL_same {xs ys : List Int} {a : Nat} (h : a + ys.length ≤ xs.length) : (layL xs a ys == xs) = (ys == partL xs a ys.length) := by
  rw [Bool.eq_iff_iff, beq_iff_eq, beq_iff_eq]
  constructor
  · intro e
    rw [← congrArg (fun l => partL l a ys.length) e]
    exact (layL_part h).symm
  · intro e
    have h2 := layL_self h
    rw [← e] at h2
    exact h2
theorem partL_bd {xs : List Int} (h : ∀ x ∈ xs, 0 ≤ x ∧ x < 256) (a n : Int) : ∀ x ∈ partL xs a n, 0 ≤ x ∧ x < 256 :=
  fun x hx => h x (List.mem_of_mem_drop (List.mem_of_mem_take hx))
theorem numV_beq {xs ys : List Int} (hl : xs.length = ys.length) (hx : ∀ x ∈ xs, 0 ≤ x ∧ x < 256) (hy : ∀ x ∈ ys, 0 ≤ x ∧ x < 256) : (xs == ys) = (numV xs == numV ys) := by
  rw [Bool.eq_iff_iff, beq_iff_eq, beq_iff_eq]
  exact ⟨fun h => by rw [h], numV_inj hl hx hy⟩
theorem cutV_num {v : Int} {n : Nat} (hv : 0 ≤ v) (hv' : v < 18446744073709551616) (hs : sizedB n = true) : cutV v n = numV (bytesV v n) := by
  rw [numV_bytesV]
  have hn : n = 1 ∨ n = 2 ∨ n = 4 ∨ n = 8 := by rcases sized_cases hs with h | h | h | h <;> omega
  rcases hn with rfl | rfl | rfl | rfl
  · simp [cutV]
  · simp [cutV]
  · simp [cutV]
  · simp [cutV]
    omega
theorem getD_lay {xs ys : List Int} {a i : Nat} (ha : a + ys.length ≤ xs.length) : (layL xs a ys).getD i 0 = if i < a then xs.getD i 0 else if i < a + ys.length then ys.getD (i - a) 0 else xs.getD i 0 := by
  have h1 : (xs.take a).length = a := by simp; omega
  unfold layL
  simp only [List.getD_eq_getElem?_getD]
  by_cases c1 : i < a
  · rw [if_pos c1, List.getElem?_append_left (by omega), List.getElem?_take, if_pos c1]
  · rw [if_neg c1, List.getElem?_append_right (by omega), h1]
    by_cases c2 : i < a + ys.length
    · rw [if_pos c2, List.getElem?_append_left (by omega)]
    · rw [if_neg c2, List.getElem?_append_right (by omega), List.getElem?_drop]
      congr 2
      omega
theorem getD_part {xs : List Int} {a n i : Nat} (hi : i < n) : (partL xs a n).getD i 0 = xs.getD (a + i) 0 := by
  rw [partL_nat]
  simp [List.getD_eq_getElem?_getD, hi]
end Go.Proofs.YtnaceogkaiodnaaGreat

namespace Go.Proofs.YtnaceogkaiodnaaGreat
open Go.RowKit
set_option linter.unusedVariables false

/-- A memory of the document's own way: a block that leads to its bytes, and the block of its bytes. -/
structure RefAt (w : World) (mb bb c : Nat) (xs : List Int) : Prop where
  head : w.heap[mb]? = some (.cells #[.slice (some ⟨bb, 0, none⟩) xs.length c] 108 (0, 0))
  row : Row 5 w bb c xs
  bd : ∀ x ∈ xs, 0 ≤ x ∧ x < 256
  lo : 16 ≤ xs.length
  hi : xs.length ≤ 65536
  cap : c ≤ maxLen
theorem RefAt.ne {w : World} {mb bb c : Nat} {xs : List Int} (h : RefAt w mb bb c xs) : mb ≠ bb := by
  intro e
  subst e
  obtain ⟨cur, h1, _⟩ := h.row
  rw [h.head] at h1
  injection h1 with h1
  injection h1 with _ h1 _
  exact absurd h1 (by decide)
theorem RefAt.cell0 {w : World} {mb bb c : Nat} {xs : List Int} (h : RefAt w mb bb c xs) : w.cell? ⟨mb, 0, none⟩ = some (.slice (some ⟨bb, 0, none⟩) xs.length c) := by
  rw [cell_of_row w mb 0 _ _ _ h.head]; rfl
theorem RefAt.but {w w' : World} {mb bb c : Nat} {xs : List Int} {R : Nat → Prop} (h : RefAt w mb bb c xs) (hb : But R w w') (h1 : ¬ R mb) (h2 : ¬ R bb) : RefAt w' mb bb c xs :=
  ⟨hb.heap h.head h1, h.row.but hb h2, h.bd, h.lo, h.hi, h.cap⟩
theorem RefAt.lt {w : World} {mb bb c : Nat} {xs : List Int} (h : RefAt w mb bb c xs) : mb < w.heap.size ∧ bb < w.heap.size := ⟨heap_lt h.head, h.row.lt⟩
theorem RefAt.drewN {w : World} {mb bb c : Nat} {xs : List Int} (h : RefAt w mb bb c xs) (n : Nat) : RefAt (w.drewN n) mb bb c xs := h.but ((But.refl NoBlock w).drewN n) (noBlock_not _) (noBlock_not _)
theorem RefAt.below {w w' : World} {mb bb c : Nat} {xs : List Int} (h : RefAt w mb bb c xs) (hb : Below w.heap.size w w') : RefAt w' mb bb c xs := h.but (But.of_below (R := NoBlock) hb) (noBlock_not _) (noBlock_not _)
theorem RefAt.rowcap {w : World} {mb bb c : Nat} {xs : List Int} (h : RefAt w mb bb c xs) : xs.length ≤ c := by obtain ⟨_, _, _, _, h4⟩ := h.row; exact h4
/-- A byte is laid. -/
theorem RefAt.set {w : World} {mb bb c : Nat} {xs : List Int} (h : RefAt w mb bb c xs) {i : Nat} (hi : i < xs.length) {y : Int} (hy : 0 ≤ y ∧ y < 256) : RefAt (w.setCell ⟨bb, i, none⟩ (.int .u8 y)) mb bb c (xs.set i y) := by
  refine ⟨?_, h.row.set hi y, ?_, by simpa using h.lo, by simpa using h.hi, h.cap⟩
  · rw [Below.heap_setCell _ _ _ _ (show mb ≠ bb from h.ne), List.length_set]
    exact h.head
  · intro x hx
    rcases List.mem_or_eq_of_mem_set hx with h1 | h1
    · exact h.bd x h1
    · subst h1; exact hy

theorem rsized_any (s : Int) (w : World) : Calls Tryz.prog 86 #[.int .i64 s] w fun e w' => e = .returned (.bool (sizedB s)) ∧ w = w' := by
  by_cases h1 : s = 1
  · subst h1
    go_enter Tryz.func86, Tryz.ntmps86
    go_wp2
    go_ret
    exact ⟨rfl, rfl⟩
  by_cases h2 : s = 2
  · subst h2
    go_enter Tryz.func86, Tryz.ntmps86
    go_wp2
    go_ret
    exact ⟨rfl, rfl⟩
  by_cases h4 : s = 4
  · subst h4
    go_enter Tryz.func86, Tryz.ntmps86
    go_wp2
    go_ret
    exact ⟨rfl, rfl⟩
  by_cases h8 : s = 8
  · subst h8
    go_enter Tryz.func86, Tryz.ntmps86
    go_wp2
    go_ret
    exact ⟨rfl, rfl⟩
  have e : sizedB s = false := by simp [sizedB, h1, h2, h4, h8]
  rw [e]
  clear e
  have b1 : (s == 1) = false := by simpa using h1
  have b2 : (s == 2) = false := by simpa using h2
  have b4 : (s == 4) = false := by simpa using h4
  have b8 : (s == 8) = false := by simpa using h8
  clear h1 h2 h4 h8
  go_enter Tryz.func86, Tryz.ntmps86
  go_wp2
  go_ret
  exact ⟨rfl, rfl⟩

theorem fits_yes {mb bb c : Nat} {xs : List Int} {w : World} (h : RefAt w mb bb c xs) (k m : Nat) (hk : 16 ≤ k) (hkm : k + m ≤ xs.length) :
    Calls Tryz.prog 60 #[.pointer (some ⟨mb, 0, none⟩), .int .u64 k, .int .i64 m] w fun e w' => e = .returned (.bool true) ∧ w = w' := by
  have h1 := h.cell0
  have hl := h.hi
  obtain ⟨L, hL⟩ : ∃ L, L = xs.length := ⟨_, rfl⟩
  rw [← hL] at h1 hl hkm
  have c1 : (m : Int) ≤ (L : Int) := by omega
  have c2 : (k : Int) ≤ (L : Int) - (m : Int) := by omega
  have c3 : (16 : Int) ≤ (k : Int) := by omega
  have c4 : 0 ≤ (L : Int) - (m : Int) := by omega
  clear h hL
  go_enter Tryz.func60, Tryz.ntmps60
  go_wp2
  go_ret
  exact ⟨by simp, rfl⟩
theorem fits_no {mb bb c : Nat} {xs : List Int} {w : World} (h : RefAt w mb bb c xs) (a n : Int) (ha : 0 ≤ a) (ha' : a < 18446744073709551616) (hn' : n < 9223372036854775808) (he : accE xs.length a n ≠ 0) :
    Calls Tryz.prog 60 #[.pointer (some ⟨mb, 0, none⟩), .int .u64 a, .int .i64 n] w fun e w' => e = .returned (.bool false) ∧ w = w' := by
  have h1 := h.cell0
  have hl := h.hi
  obtain ⟨L, hL⟩ : ∃ L, L = xs.length := ⟨_, rfl⟩
  rw [← hL] at h1 hl he
  have hc : n < 0 ∨ a < 16 ∨ (L : Int) < a ∨ (L : Int) - a < n := by
    by_cases c1 : n < 0
    · exact .inl c1
    · by_cases c2 : a < 16 ∨ (L : Int) < a ∨ (L : Int) - a < n
      · exact .inr c2
      · exact absurd (by unfold accE; rw [if_neg c1, if_neg c2]) he
  clear h hL he
  by_cases c1 : 0 ≤ n
  · by_cases c2 : n ≤ (L : Int)
    · have c4 : 0 ≤ (L : Int) - n := by omega
      by_cases c3 : 16 ≤ a
      · have c5 : decide (a ≤ (L : Int) - n) = false := decide_eq_false (by omega)
        clear hc
        go_enter Tryz.func60, Tryz.ntmps60
        go_wp2
        go_ret
        exact ⟨by first | rfl | simp | simp [c5], rfl⟩
      · have c5 : decide (16 ≤ a) = false := decide_eq_false c3
        clear hc c3
        go_enter Tryz.func60, Tryz.ntmps60
        go_wp2
        go_ret
        exact ⟨by first | rfl | simp | simp [c5], rfl⟩
    · have c5 : decide (n ≤ (L : Int)) = false := decide_eq_false c2
      clear hc c2
      go_enter Tryz.func60, Tryz.ntmps60
      go_wp2
      go_ret
      exact ⟨by first | rfl | simp | simp [c5], rfl⟩
  · have c5 : decide (0 ≤ n) = false := decide_eq_false c1
    clear hc c1
    go_enter Tryz.func60, Tryz.ntmps60
    go_wp2
    go_ret
    exact ⟨by first | rfl | simp | simp [c5], rfl⟩

theorem rload_bad {mb bb c : Nat} {xs : List Int} {w : World} (h : RefAt w mb bb c xs) (a n : Int) (ha : 0 ≤ a) (ha' : a < 18446744073709551616) (hn' : n < 9223372036854775808) (he : numE xs.length a n ≠ 0) :
    Calls Tryz.prog 67 #[.pointer (some ⟨mb, 0, none⟩), .int .u64 a, .int .i64 n] w fun e w' => e = .returned (.tuple #[.int .u64 0, .int .i64 (numE xs.length a n)]) ∧ w = w' := by
  cases hs : sizedB n
  · have e : numE xs.length a n = 2 := by unfold numE; rw [if_neg (by simp [hs])]
    rw [e]
    have hz := rsized_any n
    rw [hs] at hz
    have HZ := Lib.hid hz
    clear hz h he e hs
    go_enter Tryz.func67, Tryz.ntmps67
    go_wp2_with (go_at_call 86; (with_reducible refine (HZ.out _).mono ?_); rintro e w' ⟨rfl, rfl⟩)
    go_ret2
    exact ⟨rfl, rfl⟩
  · have h1 : accE xs.length a n ≠ 0 := by unfold numE at he; rw [if_pos hs] at he; exact he
    have hn0 : 0 ≤ n := by rcases sized_cases hs with h | h | h | h <;> omega
    have e : numE xs.length a n = 15 := by
      unfold numE
      rw [if_pos hs]
      unfold accE at h1 ⊢
      rw [if_neg (by omega)] at h1 ⊢
      split
      · rfl
      · rename_i hh
        rw [if_neg hh] at h1
        exact absurd rfl h1
    rw [e]
    have hz := rsized_any n
    rw [hs] at hz
    have HZ := Lib.hid hz
    have HF := Lib.hid (fits_no h a n ha ha' hn' h1)
    clear hz h he e hs h1
    go_enter Tryz.func67, Tryz.ntmps67
    go_wp2_with (first
      | (go_at_call 86; (with_reducible refine (HZ.out _).mono ?_); rintro e w' ⟨rfl, rfl⟩)
      | (go_at_call 60; (with_reducible refine HF.out.mono ?_); rintro e w' ⟨rfl, rfl⟩))
    go_ret2
    exact ⟨rfl, rfl⟩
set_option maxHeartbeats 1000000 in
theorem rload_ok {mb bb c : Nat} {xs : List Int} {w : World} (h : RefAt w mb bb c xs) (k m : Nat) (hk : 16 ≤ k) (hkm : k + m ≤ xs.length) (hs : sizedB m = true) :
    Calls Tryz.prog 67 #[.pointer (some ⟨mb, 0, none⟩), .int .u64 k, .int .i64 m] w fun e w' => e = .returned (.tuple #[.int .u64 (numV (partL xs k m)), .int .i64 0]) ∧ w = w' := by
  have hm8 : m ≤ 8 := by rcases sized_cases hs with h | h | h | h <;> omega
  have hl := h.hi
  have hz := rsized_any m
  rw [hs] at hz
  have HZ := Lib.hid hz
  have HF := Lib.hid (fits_yes h k m hk hkm)
  have h0 := h.cell0
  have hcap := h.rowcap
  have hcells : ∀ j, j < m → w.cell? ⟨bb, k + j, none⟩ = some (.int .u8 ((partL xs k m).getD j 0)) := fun j hj => by rw [getD_part hj]; exact h.row.cell (by omega)
  have hlen := partL_len hkm
  have hpb := partL_bd h.bd k m
  obtain ⟨P, hP⟩ : ∃ P, P = partL xs k m := ⟨_, rfl⟩
  rw [← hP] at hcells hlen hpb ⊢
  obtain ⟨L, hL⟩ : ∃ L, L = xs.length := ⟨_, rfl⟩
  rw [← hL] at h0 hl hkm hcap
  have HC := Lib.hid hcells
  have HLEN := Lib.hid hlen
  have HPB := Lib.hid hpb
  clear hcells hlen hpb hP hL h hs hz
  go_enter Tryz.func67, Tryz.ntmps67
  go_wp2_with (first
    | (go_at_call 86; (with_reducible refine (HZ.out _).mono ?_); rintro e w' ⟨rfl, rfl⟩)
    | (go_at_call 60; (with_reducible refine HF.out.mono ?_); rintro e w' ⟨rfl, rfl⟩))
  go_loop [8, 9] (fun x i => ∃ q : Nat, q ≤ m ∧ i = .int .i64 ((q : Int) - 1) ∧ x = .int .u64 (numV (P.drop q))) (fun _ i => (intOf i + 1).toNat)
  case atStart => exact ⟨m, by omega, rfl, by rw [List.drop_of_length_le (by have := HLEN.out; omega)]; rfl⟩
  case round =>
    obtain ⟨q, hq, rfl, rfl⟩ := hrel
    by_cases hlt : 0 < q
    · obtain ⟨j, rfl⟩ : ∃ j, q = j + 1 := ⟨q - 1, by omega⟩
      have hcell := HC.out j (by omega)
      have hst : numV (P.drop j) = P.getD j 0 + 256 * numV (P.drop (j + 1)) := by rw [drop_cons' (k := j) (by have := HLEN.out; omega)]; rfl
      obtain ⟨y1, y2⟩ := getD_bd HPB.out (k := j) (by have := HLEN.out; omega)
      obtain ⟨z1, z2⟩ : 0 ≤ numV (P.drop (j + 1)) ∧ 256 * numV (P.drop (j + 1)) + 255 < 18446744073709551616 := by
        rcases drop_bd HPB.out (by have := HLEN.out; omega) j with h | h
        · exact h
        · have := HLEN.out; omega
      obtain ⟨y, hy⟩ : ∃ y, y = P.getD j 0 := ⟨_, rfl⟩
      obtain ⟨z, hz⟩ : ∃ z, z = numV (P.drop (j + 1)) := ⟨_, rfl⟩
      rw [← hy] at hcell y1 y2 hst
      rw [← hz] at z1 z2 hst ⊢
      have HST := Lib.hid hst
      have e1 : ((j + 1 : Nat) : Int) - 1 = (j : Int) := by omega
      rw [e1]
      have i1 : (k : Int) + (j : Int) < (L : Int) := by omega
      clear hst hy hz e1
      go_wp2
      go_round
      case rel => exact ⟨j, by omega, by go_num, by rw [HST.out]; first | done | (congr 1; omega)⟩
      case measure => simp [intOf]
    · obtain rfl : q = 0 := by omega
      go_wp2
      go_ret2
      exact ⟨ret_int2 (by simp) rfl, rfl⟩
theorem rload_any {mb bb c : Nat} {xs : List Int} {w : World} (h : RefAt w mb bb c xs) (a n : Int) (ha : 0 ≤ a) (ha' : a < 18446744073709551616) (hn' : n < 9223372036854775808) :
    Calls Tryz.prog 67 #[.pointer (some ⟨mb, 0, none⟩), .int .u64 a, .int .i64 n] w fun e w' => e = .returned (.tuple #[.int .u64 (loadV xs a n), .int .i64 (numE xs.length a n)]) ∧ w = w' := by
  by_cases he : numE xs.length a n = 0
  · obtain ⟨hs, h0, h1, h2, h3⟩ := numE_zero he
    unfold loadV
    rw [if_pos he, he]
    obtain ⟨k, rfl⟩ := nat_of ha
    obtain ⟨m, rfl⟩ := nat_of h0
    exact rload_ok h k m (by omega) (by omega) hs
  · unfold loadV
    rw [if_neg he]
    exact rload_bad h a n ha ha' hn' he
end Go.Proofs.YtnaceogkaiodnaaGreat

namespace Go.Proofs.YtnaceogkaiodnaaGreat
open Go.RowKit
set_option linter.unusedVariables false

def RStoreDone (w : World) (mb bb c : Nat) (xs' : List Int) (E : Int) (e : Ending) (w' : World) : Prop :=
  e = .returned (.int .i64 E) ∧ RefAt w' mb bb c xs' ∧ But (OneBlock bb) w w'
theorem numE_not0 {xs : List Int} {a n : Int} (hs : sizedB n = true) (he : numE xs.length a n ≠ 0) : accE xs.length a n ≠ 0 ∧ numE xs.length a n = 15 := by
  have h1 : accE xs.length a n ≠ 0 := by unfold numE at he; rw [if_pos hs] at he; exact he
  have hn0 : 0 ≤ n := by rcases sized_cases hs with h | h | h | h <;> omega
  refine ⟨h1, ?_⟩
  unfold numE
  rw [if_pos hs]
  unfold accE at h1 ⊢
  rw [if_neg (by omega)] at h1 ⊢
  split
  · rfl
  · rename_i hh
    rw [if_neg hh] at h1
    exact absurd rfl h1
theorem rstore_bad {mb bb c : Nat} {xs : List Int} {w : World} (h : RefAt w mb bb c xs) (a n v : Int) (ha : 0 ≤ a) (ha' : a < 18446744073709551616) (hn' : n < 9223372036854775808) (he : numE xs.length a n ≠ 0) :
    Calls Tryz.prog 66 #[.pointer (some ⟨mb, 0, none⟩), .int .u64 a, .int .i64 n, .int .u64 v] w fun e w' => e = .returned (.int .i64 (numE xs.length a n)) ∧ w = w' := by
  cases hs : sizedB n
  · have e : numE xs.length a n = 2 := by unfold numE; rw [if_neg (by simp [hs])]
    rw [e]
    have hz := rsized_any n
    rw [hs] at hz
    have HZ := Lib.hid hz
    clear hz h he e hs
    go_enter Tryz.func66, Tryz.ntmps66
    go_wp2_with (go_at_call 86; (with_reducible refine (HZ.out _).mono ?_); rintro e w' ⟨rfl, rfl⟩)
    go_ret
    exact ⟨rfl, rfl⟩
  · obtain ⟨h1, e⟩ := numE_not0 hs he
    rw [e]
    have hz := rsized_any n
    rw [hs] at hz
    have HZ := Lib.hid hz
    have HF := Lib.hid (fits_no h a n ha ha' hn' h1)
    clear hz h he e hs h1
    go_enter Tryz.func66, Tryz.ntmps66
    go_wp2_with (first
      | (go_at_call 86; (with_reducible refine (HZ.out _).mono ?_); rintro e w' ⟨rfl, rfl⟩)
      | (go_at_call 60; (with_reducible refine HF.out.mono ?_); rintro e w' ⟨rfl, rfl⟩))
    go_ret
    exact ⟨rfl, rfl⟩
theorem down_one (a : Int) (k : Nat) : a / 256 ^ k / 256 = a / 256 ^ (k + 1) := by
  rw [Int.pow_succ, Int.ediv_mul_of_nonneg (by have : (0 : Int) < 256 ^ k := Int.pow_pos (by omega); omega)]
theorem down_bound {a : Int} (ha : 0 ≤ a) (k : Nat) : 0 ≤ a / 256 ^ k ∧ a / 256 ^ k ≤ a := ediv_bd ha (Int.pow_pos (by omega))
theorem layL_zero (xs : List Int) (a : Nat) (v : Int) : layL xs a (bytesV v 0) = xs := layL_nil xs a
theorem layL_next {xs : List Int} {a m j : Nat} (v : Int) (hj : j < m) (h : a + m ≤ xs.length) : layL xs a (bytesV v (j + 1)) = (layL xs a (bytesV v j)).set (a + j) (byteV v j) := by
  rw [bytesV_succ, layL_snoc _ (by rw [bytesV_len]; omega), bytesV_len]
theorem RefAt.cell_lay {w : World} {mb bb c : Nat} {xs ys : List Int} {k : Nat} (h : RefAt w mb bb c (layL xs k ys)) (hl : k + ys.length ≤ xs.length) : w.cell? ⟨mb, 0, none⟩ = some (.slice (some ⟨bb, 0, none⟩) xs.length c) := by
  have := h.cell0
  rw [layL_len hl] at this
  exact this
set_option maxHeartbeats 1000000 in
theorem rstore_ok {mb bb c : Nat} {xs : List Int} {w : World} (h : RefAt w mb bb c xs) (k m : Nat) (v : Int) (hv : 0 ≤ v) (hv' : v < 18446744073709551616) (hk : 16 ≤ k) (hkm : k + m ≤ xs.length) (hs : sizedB m = true) :
    Calls Tryz.prog 66 #[.pointer (some ⟨mb, 0, none⟩), .int .u64 k, .int .i64 m, .int .u64 v] w (RStoreDone w mb bb c (layL xs k (bytesV v m)) 0) := by
  have hm8 : m ≤ 8 := by rcases sized_cases hs with h | h | h | h <;> omega
  have hl := h.hi
  have hz := rsized_any m
  rw [hs] at hz
  have HZ := Lib.hid hz
  have HF := Lib.hid (fits_yes h k m hk hkm)
  have hcap := h.rowcap
  have HR := Lib.hid h
  obtain ⟨L, hL⟩ : ∃ L, L = xs.length := ⟨_, rfl⟩
  rw [← hL] at hl hkm hcap
  have HL := Lib.hid hL
  have e0 : v = v / 256 ^ 0 := by simp
  have E0 := Lib.hid e0
  have HX := Lib.hid (layL_zero xs k v)
  clear hL h hs hz e0
  go_enter Tryz.func66, Tryz.ntmps66
  go_wp2_with (first
    | (go_at_call 86; (with_reducible refine (HZ.out _).mono ?_); rintro e w' ⟨rfl, rfl⟩)
    | (go_at_call 60; (with_reducible refine HF.out.mono ?_); rintro e w' ⟨rfl, rfl⟩))
  go_loopw [3, 9] (fun x i wr => ∃ j : Nat, j ≤ m ∧ x = .int .u64 (v / 256 ^ j) ∧ i = .int .i64 j ∧ Hid (RefAt wr mb bb c (layL xs k (bytesV v j)) ∧ But (OneBlock bb) w wr)) (fun _ i _ => m - (intOf i).toNat)
  case atStart => exact ⟨0, by omega, congrArg (Value.int .u64) E0.out, rfl, by rw [HX.out]; exact ⟨HR.out, But.refl _ _⟩⟩
  case round =>
    obtain ⟨j, hj, rfl, rfl, hq⟩ := hrel
    have hd := down_one v j
    have HD := Lib.hid hd
    obtain ⟨d1, d2⟩ := down_bound hv j
    clear hd
    by_cases hlt : j < m
    · have hcl := hq.out.1.cell_lay (by rw [bytesV_len, ← HL.out]; omega)
      rw [← HL.out] at hcl
      have hfr := hq.out.1.row.free (k + j)
      have hold : wr.cell? ⟨bb, k + j, none⟩ = some (.int .u8 ((layL xs k (bytesV v j)).getD (k + j) 0)) := hq.out.1.row.cell (by rw [layL_len (by rw [bytesV_len, ← HL.out]; omega), ← HL.out]; omega)
      obtain ⟨old, ho⟩ : ∃ o, o = (layL xs k (bytesV v j)).getD (k + j) 0 := ⟨_, rfl⟩
      rw [← ho] at hold
      have HN := Lib.hid (layL_next (xs := xs) (a := k) (m := m) v hlt (by rw [← HL.out]; exact hkm))
      have i1 : (k : Int) + (j : Int) < (L : Int) := by omega
      clear ho
      go_wp2
      go_roundw
      case rel => exact ⟨j + 1, by omega, congrArg (Value.int .u64) HD.out, by go_num, by rw [HN.out]; exact ⟨hq.out.1.set (by rw [layL_len (by rw [bytesV_len, ← HL.out]; omega), ← HL.out]; omega) (byteV_bd v j), hq.out.2.setCell (p := ⟨bb, k + j, none⟩) (Or.inl rfl) _⟩⟩
      case measure => simp [intOf]; omega
    · obtain rfl : j = m := by omega
      go_wp2
      go_ret
      exact ⟨rfl, hq.out.1, hq.out.2⟩
theorem rstore_any {mb bb c : Nat} {xs : List Int} {w : World} (h : RefAt w mb bb c xs) (a n v : Int) (ha : 0 ≤ a) (ha' : a < 18446744073709551616) (hn' : n < 9223372036854775808) (hv : 0 ≤ v) (hv' : v < 18446744073709551616) :
    Calls Tryz.prog 66 #[.pointer (some ⟨mb, 0, none⟩), .int .u64 a, .int .i64 n, .int .u64 v] w (RStoreDone w mb bb c (storeL xs a n v) (numE xs.length a n)) := by
  by_cases he : numE xs.length a n = 0
  · obtain ⟨hs, h0, h1, h2, h3⟩ := numE_zero he
    unfold storeL
    rw [if_pos he, he]
    obtain ⟨k, rfl⟩ := nat_of ha
    obtain ⟨m, rfl⟩ := nat_of h0
    exact rstore_ok h k m v hv hv' (by omega) (by omega) hs
  · unfold storeL
    rw [if_neg he]
    exact (rstore_bad h a n v ha ha' hn' he).mono fun e w' ⟨h1, h2⟩ => by subst h2; exact ⟨h1, h, But.refl _ _⟩

theorem slice_eq {a : Option Addr} {n n' c c' : Nat} (h : n = n') (h' : c = c') : Value.slice a n c = .slice a n' c' := by rw [h, h']
theorem rlay_bad {mb bb c : Nat} {xs ys : List Int} {w : World} (h : RefAt w mb bb c xs) (a : Int) {Y : Value} {B : Nat} (hY : IsBytes w B Y ys) (ha : 0 ≤ a) (ha' : a < 18446744073709551616) (he : accE xs.length a ys.length ≠ 0) :
    Calls Tryz.prog 29 #[.pointer (some ⟨mb, 0, none⟩), .int .u64 a, Y] w fun e w' => e = .returned (.int .i64 (accE xs.length a ys.length)) ∧ w = w' := by
  obtain ⟨A, cap, rfl, hb⟩ := isBytes_value hY
  have e : accE xs.length a ys.length = 15 := by
    unfold accE at he ⊢
    rw [if_neg (by omega)] at he ⊢
    split
    · rfl
    · rename_i hh
      rw [if_neg hh] at he
      exact absurd rfl he
  have HF := Lib.hid (fits_no h a ys.length ha ha' (by omega) he)
  rw [e]
  obtain ⟨m, hm⟩ : ∃ m, m = ys.length := ⟨_, rfl⟩
  rw [← hm] at HF hb ⊢
  clear h he e hY hm
  go_enter Tryz.func29, Tryz.ntmps29
  go_wp2_with (go_at_call 60; (with_reducible refine HF.out.mono ?_); rintro e w' ⟨rfl, rfl⟩)
  go_ret
  exact ⟨rfl, rfl⟩
theorem layL_step {xs ys : List Int} {a j : Nat} (hj : j < ys.length) (h : a + ys.length ≤ xs.length) : layL xs a (ys.take (j + 1)) = (layL xs a (ys.take j)).set (a + j) (ys.getD j 0) := by
  have hl : (ys.take j).length = j := by simp; omega
  rw [take_snoc' hj, layL_snoc _ (by rw [hl]; omega), hl]
set_option maxHeartbeats 1000000 in
set_option maxRecDepth 100000 in
theorem rlay_ok {mb bb c : Nat} {xs ys : List Int} {w : World} (h : RefAt w mb bb c xs) (k : Nat) {Y : Value} {B : Nat} (hY : IsBytes w B Y ys) (hB : B ≤ w.heap.size) (hBb : B ≤ bb) (hk : 16 ≤ k) (hkm : k + ys.length ≤ xs.length) (hm : 0 < ys.length) :
    Calls Tryz.prog 29 #[.pointer (some ⟨mb, 0, none⟩), .int .u64 k, Y] w (RStoreDone w mb bb c (layL xs k ys) 0) := by
  have hl := h.hi
  obtain ⟨b, off, cap, rfl, hcap, hlt, hc⟩ := hY.plain hm
  have HF := Lib.hid (fits_yes h k ys.length hk hkm)
  have hrc := h.rowcap
  have HR := Lib.hid h
  have HYB := Lib.hid hY.1
  obtain ⟨m, hmm⟩ : ∃ m, m = ys.length := ⟨_, rfl⟩
  obtain ⟨L, hL⟩ : ∃ L, L = xs.length := ⟨_, rfl⟩
  rw [← hL] at hl hkm hrc
  rw [← hmm] at hcap hc HF hkm hm ⊢
  have HMM := Lib.hid hmm
  have HL := Lib.hid hL
  have HC := Lib.hid hc
  have HX := Lib.hid (layL_nil xs k)
  clear hL h hY hmm hc
  go_enter Tryz.func29, Tryz.ntmps29
  go_wp2_with (go_at_call 60; (with_reducible refine HF.out.mono ?_); rintro e w' ⟨rfl, rfl⟩)
  go_loopw [7] (fun i wr => ∃ j : Nat, j ≤ m ∧ i = .int .i64 j ∧ Hid (RefAt wr mb bb c (layL xs k (ys.take j)) ∧ But (OneBlock bb) w wr)) (fun i _ => m - (intOf i).toNat)
  case atStart => exact ⟨0, by omega, rfl, by rw [List.take_zero, HX.out]; exact ⟨HR.out, But.refl _ _⟩⟩
  case round =>
    obtain ⟨j, hj, rfl, hq⟩ := hrel
    by_cases hlt2 : j < m
    · have htl : (ys.take j).length = j := by have := HMM.out; simp; omega
      have hcl := hq.out.1.cell_lay (by rw [htl, ← HL.out]; omega)
      rw [← HL.out] at hcl
      have hfr := hq.out.1.row.free (k + j)
      have hold : wr.cell? ⟨bb, k + j, none⟩ = some (.int .u8 ((layL xs k (ys.take j)).getD (k + j) 0)) := hq.out.1.row.cell (by rw [layL_len (by rw [htl, ← HL.out]; omega), ← HL.out]; omega)
      have hsrc : wr.cell? ⟨b, off + j, none⟩ = some (.int .u8 (ys.getD j 0)) := by rw [hq.out.2.cell (p := ⟨b, _, none⟩) (show b < _ by omega) (oneBlock_not (show b ≠ bb by omega))]; exact HC.out j hlt2
      obtain ⟨y1, y2⟩ := getD_bd HYB.out (k := j) (by rw [← HMM.out]; exact hlt2)
      obtain ⟨old, ho⟩ : ∃ o, o = (layL xs k (ys.take j)).getD (k + j) 0 := ⟨_, rfl⟩
      rw [← ho] at hold
      have HN := Lib.hid (layL_step (xs := xs) (ys := ys) (a := k) (j := j) (by rw [← HMM.out]; exact hlt2) (by rw [← HL.out, ← HMM.out]; exact hkm))
      obtain ⟨y, hy⟩ : ∃ y, y = ys.getD j 0 := ⟨_, rfl⟩
      rw [← hy] at hsrc y1 y2 HN
      have HT := Lib.hid htl
      have i1 : (k : Int) + (j : Int) < (L : Int) := by omega
      have i2 : (j : Int) < (m : Int) := by omega
      have i3 : (0 : Int) ≤ (j : Int) := by omega
      have i4 : (0 : Int) ≤ (k : Int) + (j : Int) := by omega
      clear ho hy htl
      have hw1 : IntKind.i64.wrap (k : Int) = (k : Int) := by rw [IntKind.wrap_i64]; omega
      have hw2 : IntKind.i64.wrap ((k : Int) + (j : Int)) = (k : Int) + (j : Int) := by rw [IntKind.wrap_i64]; omega
      have hw3 : ((k : Int) + (j : Int)).toNat = k + j := by omega
      go_wp2_with fail
      go_still_tail 13, (by kernel_rfl)
      go_wp2
      clear hw1 hw2 hw3
      go_roundw
      case rel => exact ⟨j + 1, by omega, by go_num, by rw [HN.out]; exact ⟨(hq.out.1.but ((But.refl NoBlock _).drew) (noBlock_not _) (noBlock_not _)).set (by rw [layL_len (by rw [HT.out, ← HL.out]; omega), ← HL.out]; omega) ⟨y1, y2⟩, (hq.out.2.drew).setCell (p := ⟨bb, k + j, none⟩) (Or.inl rfl) _⟩⟩
      case measure => simp [intOf]; omega
    · obtain rfl : j = m := by omega
      go_wp2
      go_ret
      refine ⟨rfl, ?_, hq.out.2⟩
      have := hq.out.1
      rw [List.take_of_length_le (by have := HMM.out; omega)] at this
      exact this
theorem rlay_any {mb bb c : Nat} {xs ys : List Int} {w : World} (h : RefAt w mb bb c xs) (a : Int) {Y : Value} {B : Nat} (hY : IsBytes w B Y ys) (hB : B ≤ w.heap.size) (hBb : B ≤ bb) (ha : 0 ≤ a) (ha' : a < 18446744073709551616) :
    Calls Tryz.prog 29 #[.pointer (some ⟨mb, 0, none⟩), .int .u64 a, Y] w (RStoreDone w mb bb c (layB xs a ys) (accE xs.length a ys.length)) := by
  have hb := hY.2.1
  unfold maxLen at hb
  by_cases he : accE xs.length a ys.length = 0
  · obtain ⟨h0, h1, h2, h3⟩ := accE_zero he
    unfold layB
    rw [if_pos he, he]
    obtain ⟨k, rfl⟩ := nat_of ha
    by_cases hm : 0 < ys.length
    · exact rlay_ok h k hY hB hBb (by omega) (by omega) hm
    · obtain rfl : ys = [] := List.eq_nil_of_length_eq_zero (by omega)
      rw [layL_nil]
      have hf := fits_yes h k 0 (by omega) (by omega)
      obtain ⟨A, cap, rfl⟩ := hY.len
      have hf0 : Calls Tryz.prog 60 #[.pointer (some ⟨mb, 0, none⟩), .int .u64 k, .int .i64 0] w fun e w' => e = .returned (.bool true) ∧ w = w' := hf
      have HF0 := Lib.hid hf0
      have HR := Lib.hid h
      clear hf hf0 h hY he h0 h1 h2 h3 hb hB hBb ha ha' hm
      have hgo : Calls Tryz.prog 29 #[.pointer (some ⟨mb, 0, none⟩), .int .u64 k, .slice A 0 cap] w fun e w' => e = .returned (.int .i64 0) ∧ w = w' := by
        go_enter Tryz.func29, Tryz.ntmps29
        go_wp2_with (go_at_call 60; (with_reducible refine HF0.out.mono ?_); rintro e w' ⟨rfl, rfl⟩)
        go_loop [7] (fun i => i = .int .i64 0) (fun _ => 0)
        case atStart => rfl
        case round =>
          obtain rfl := hrel
          go_wp2
          go_ret
          exact ⟨rfl, rfl⟩
      exact hgo.mono fun e w' ⟨h1, h2⟩ => by subst h2; exact ⟨h1, HR.out, But.refl _ _⟩
  · unfold layB
    rw [if_neg he]
    exact (rlay_bad h a hY ha ha' he).mono fun e w' ⟨h1, h2⟩ => by subst h2; exact ⟨h1, h, But.refl _ _⟩

def RNewDone2 (w : World) (xs : List Int) (e : Ending) (w' : World) : Prop :=
  ∃ mb bb c, e = .returned (.tuple #[.pointer (some ⟨mb, 0, none⟩), .int .i64 0]) ∧ RefAt w' mb bb c xs ∧ w.heap.size ≤ mb ∧ w.heap.size ≤ bb ∧ Below w.heap.size w w'
set_option maxHeartbeats 1000000 in
theorem rnew_yes (n : Nat) (w : World) (h : 16 ≤ n) (h' : n ≤ 65536) : Calls Tryz.prog 28 #[.int .i64 n] w (RNewDone2 w (List.replicate n 0)) := by
  have hmk := make_zeros n h'
  have HM := Lib.hid (Row.made w n)
  obtain ⟨C, hC⟩ : ∃ C, C = ((List.replicate n (0 : Int)).map (Value.int .u8)).toArray := ⟨_, rfl⟩
  rw [← hC] at HM hmk
  have h1 : ¬ (n : Int) < 16 := by omega
  have h2 : ¬ (65536 : Int) < n := by omega
  have HN := Lib.hid h
  clear hC
  go_enter Tryz.func28, Tryz.ntmps28
  go_wp2
  go_ret2
  have hsz : (w.alloc (.cells C 5)).heap.size = w.heap.size + 1 := by simp
  have hhead := heap_alloc_new (w.alloc (.cells C 5)) (.cells #[.slice (some ⟨w.heap.size, 0, none⟩) n n] 108)
  rw [hsz] at hhead
  exact ⟨w.heap.size + 1, w.heap.size, n, rfl, ⟨by rw [List.length_replicate]; exact hhead, HM.out.but ((But.refl NoBlock _).alloc _) (noBlock_not _), replicate_bd n, by simpa using HN.out, by simpa using h', by unfold maxLen; omega⟩, by omega, by omega, ((Below.refl _ _).alloc (Nat.le_refl _) _).alloc (by simp) _⟩
theorem rnew_no (n : Int) (w : World) (h : n < 16 ∨ 65536 < n) : Calls Tryz.prog 28 #[.int .i64 n] w fun e w' => e = .returned (.tuple #[.pointer none, .int .i64 2]) ∧ w = w' := by
  by_cases h1 : n < 16
  · clear h
    go_enter Tryz.func28, Tryz.ntmps28
    go_wp2
    go_ret2
    exact ⟨rfl, rfl⟩
  · have h2 : (65536 : Int) < n := by omega
    clear h
    go_enter Tryz.func28, Tryz.ntmps28
    go_wp2
    go_ret2
    exact ⟨rfl, rfl⟩
end Go.Proofs.YtnaceogkaiodnaaGreat

namespace Go.Proofs.YtnaceogkaiodnaaGreat
open Go.RowKit
set_option linter.unusedVariables false

def TwoBlocks (b r : Nat) : Nat → Prop := fun k => k = b ∨ k = r
theorem twoBlocks_not {k b r : Nat} (h : k ≠ b) (h' : k ≠ r) : ¬ TwoBlocks b r k := fun hh => by rcases hh with hh | hh; exact h hh; exact h' hh
theorem But.two1 {b r : Nat} {w w' : World} (h : But (OneBlock b) w w') : But (TwoBlocks b r) w w' := h.mono fun _ h => .inl h
theorem But.two2 {b r : Nat} {w w' : World} (h : But (OneBlock r) w w') : But (TwoBlocks b r) w w' := h.mono fun _ h => .inr h
theorem bytes_not_head {w : World} {mb bb c rm rb rc : Nat} {xs ys : List Int} (h : MemAt w mb bb c xs) (k : RefAt w rm rb rc ys) : rm ≠ bb ∧ mb ≠ rb := by
  constructor
  · rintro rfl
    obtain ⟨cur, h1, _⟩ := h.row
    rw [k.head] at h1
    injection h1 with h1
    injection h1 with _ h1 _
    exact absurd h1 (by decide)
  · rintro rfl
    obtain ⟨cur, h1, _⟩ := k.row
    rw [h.head] at h1
    injection h1 with h1
    injection h1 with _ h1 _
    exact absurd h1 (by decide)
/-- Both memories, alike. -/
structure Both (w : World) (mb bb c rm rb rc : Nat) (xs : List Int) : Prop where
  m : MemAt w mb bb c xs
  r : RefAt w rm rb rc xs
  ne : bb ≠ rb
theorem Both.but {w w' : World} {mb bb c rm rb rc : Nat} {xs : List Int} {S : Nat → Prop} (h : Both w mb bb c rm rb rc xs) (hb : But S w w') (h1 : ¬ S mb) (h2 : ¬ S bb) (h3 : ¬ S rm) (h4 : ¬ S rb) : Both w' mb bb c rm rb rc xs := ⟨h.m.but hb h1 h2, h.r.but hb h3 h4, h.ne⟩
theorem Both.quiet {w w' : World} {mb bb c rm rb rc : Nat} {xs : List Int} (h : Both w mb bb c rm rb rc xs) (hb : But NoBlock w w') : Both w' mb bb c rm rb rc xs := h.but hb (noBlock_not _) (noBlock_not _) (noBlock_not _) (noBlock_not _)
theorem Both.below {w w' : World} {mb bb c rm rb rc : Nat} {xs : List Int} (h : Both w mb bb c rm rb rc xs) (hb : Below w.heap.size w w') : Both w' mb bb c rm rb rc xs := h.quiet (But.of_below hb)
theorem Both.lt {w : World} {mb bb c rm rb rc : Nat} {xs : List Int} (h : Both w mb bb c rm rb rc xs) : mb < w.heap.size ∧ bb < w.heap.size ∧ rm < w.heap.size ∧ rb < w.heap.size := ⟨h.m.lt.1, h.m.lt.2, h.r.lt.1, h.r.lt.2⟩
/-- First the one stores, then the other. -/
theorem Both.store {w w1 w2 : World} {mb bb c rm rb rc : Nat} {xs xs' : List Int} (h : Both w mb bb c rm rb rc xs) (h1 : MemAt w1 mb bb c xs') (b1 : But (OneBlock bb) w w1) (h2 : RefAt w2 rm rb rc xs') (b2 : But (OneBlock rb) w1 w2) : Both w2 mb bb c rm rb rc xs' ∧ But (TwoBlocks bb rb) w w2 :=
  ⟨⟨h1.but b2 (oneBlock_not (bytes_not_head h.m h.r).2) (oneBlock_not h.ne), h2, h.ne⟩, b1.two1.trans b2.two2⟩
theorem Both.ref {w w1 : World} {mb bb c rm rb rc : Nat} {xs : List Int} (h : Both w mb bb c rm rb rc xs) (b1 : But (OneBlock bb) w w1) : RefAt w1 rm rb rc xs := h.r.but b1 (oneBlock_not (bytes_not_head h.m h.r).1) (oneBlock_not (Ne.symm h.ne))
theorem storeL_len' (xs : List Int) (a n v : Int) : (storeL xs a n v).length = xs.length := by
  unfold storeL
  split
  · rename_i h
    obtain ⟨_, h0, h1, h2, h3⟩ := numE_zero h
    rw [layL_len (by rw [bytesV_len]; omega)]
  · rfl
theorem layB_len' (xs ys : List Int) (a : Int) : (layB xs a ys).length = xs.length := by
  unfold layB
  split
  · rename_i h
    obtain ⟨h0, h1, h2, h3⟩ := accE_zero h
    rw [layL_len (by omega)]
  · rfl
/-- What an act leaves. -/
def DoesDone (w : World) (mb bb c rm rb rc L : Nat) (e : Ending) (w' : World) : Prop :=
  e = .returned (.bool true) ∧ ∃ xs', xs'.length = L ∧ Both w' mb bb c rm rb rc xs' ∧ But (TwoBlocks bb rb) w w'

end Go.Proofs.YtnaceogkaiodnaaGreat

namespace Go.Proofs.YtnaceogkaiodnaaGreat
open Go.RowKit
set_option linter.unusedVariables false

theorem tail_bytes {mb bb c : Nat} {xs : List Int} {w : World} (h : MemAt w mb bb c xs) :
    Calls Tryz.prog 25 #[.pointer (some ⟨mb, 0, none⟩), .int .u64 16, .int .i64 ((xs.length : Int) - 16)] w (BytesDone w (partL xs 16 (xs.length - 16 : Nat)) 0) := by
  have hl := h.hi
  have hlo := h.lo
  have e : ((xs.length : Int) - 16) = ((xs.length - 16 : Nat) : Int) := by omega
  rw [e]
  have e2 : accE xs.length 16 (xs.length - 16 : Nat) = 0 := accE_ok (by omega) (by omega) (by omega) (by omega)
  have := bytes_any h 16 (xs.length - 16 : Nat) (by omega) (by omega) (by omega)
  unfold bytesL at this
  rw [if_pos e2, e2] at this
  exact this
theorem tail_is {mb bb c : Nat} {xs : List Int} {w : World} (h : RefAt w mb bb c xs) (cap : Nat) (hc : xs.length - 16 ≤ cap) : IsBytes w w.heap.size (.slice (some ⟨bb, 16, none⟩) (xs.length - 16) cap) (partL xs 16 (xs.length - 16 : Nat)) := by
  have hl := h.hi
  have hlo := h.lo
  have := h.row.bytes h.bd h.lt.2 (a := 16) (n := xs.length - 16) (cap := cap) (by omega) hc (by unfold maxLen; omega)
  rw [← partL_nat] at this
  exact this
set_option maxRecDepth 100000 in
set_option maxHeartbeats 4000000 in
theorem alike_any (mb bb c rm rb rc : Nat) (xs : List Int) (w : World) (h : Both w mb bb c rm rb rc xs) :
    Calls Tryz.prog 35 #[.pointer (some ⟨mb, 0, none⟩), .pointer (some ⟨rm, 0, none⟩)] w fun e w' => e = .returned (.bool true) ∧ Below w.heap.size w w' := by
  have hl := h.m.hi
  have hlo := h.m.lo
  have hcap := h.r.rowcap
  have h0 := h.r.cell0
  have HS := Lib.hid (fun n => size_yes (h.m.drewN n))
  have HBY := Lib.hid (fun n => tail_bytes (h.m.drewN n))
  have HH := Lib.hid h
  have hbdp := partL_bd h.m.bd 16 (xs.length - 16 : Nat)
  obtain ⟨P, hP⟩ : ∃ P, P = partL xs 16 (xs.length - 16 : Nat) := ⟨_, rfl⟩
  have HP := Lib.hid hP
  rw [← hP] at HBY hbdp
  have HBD := Lib.hid hbdp
  obtain ⟨Ln, hLn⟩ : ∃ Ln, Ln = xs.length := ⟨_, rfl⟩
  rw [← hLn] at hl hlo hcap h0 HS HBY
  have HL := Lib.hid hLn
  clear hP hbdp hLn h
  by_cases hend : 16 < rc
  · go_enter Tryz.func35, Tryz.ntmps35
    go_wp2_with fail
    go_quiet ((go_at_call 61; with_reducible exact quiet_left (HS.out _)))
    go_wp2_with (first
      | (go_at_call 25; (with_reducible refine (HBY.out _).mono ?_); rintro e w1 ⟨v1, rfl, ho1, hb1⟩; have B1 := Lib.hid hb1; have k1 := Lib.hid ((HH.out.r.drewN nq).below hb1); have g0 := k1.out.cell0; rw [← HL.out] at g0; have ti := tail_is k1.out (rc - 16) (by rw [← HL.out]; omega); rw [← HP.out, ← HL.out] at ti; have HSB := Lib.hid (sameBytes_yes v1 _ P w1 _ _ (IsBytes.of_owns ho1 HBD.out (Nat.le_refl _)) ti); clear ho1 hb1 ti)
      | (go_at_call 62; (with_reducible refine HSB.out.mono ?_); rintro e w' ⟨rfl, rfl⟩))
    go_ret
    exact ⟨rfl, (below_drewN (Below.refl _ _) nq).trans B1.out⟩
  · have e1 : rc = 16 := by omega
    have e2 : Ln = 16 := by omega
    have hp0 : P = [] := by
      rw [HP.out]
      have := HL.out
      exact List.eq_nil_of_length_eq_zero (by simp [partL]; omega)
    subst hp0
    have HHL := HL.out
    subst e1 e2
    have hs16 : ∀ n, Calls Tryz.prog 61 #[.pointer (some ⟨mb, 0, none⟩)] (w.drewN n) fun e w' => e = .returned (.int .i64 16) ∧ w.drewN n = w' := HS.out
    have hb16 : ∀ n, Calls Tryz.prog 25 #[.pointer (some ⟨mb, 0, none⟩), .int .u64 16, .int .i64 0] (w.drewN n) (BytesDone (w.drewN n) [] 0) := HBY.out
    have HS16 := Lib.hid hs16
    have HB16 := Lib.hid hb16
    have HHL2 := Lib.hid HHL
    clear hend hcap hlo hl hs16 hb16 HHL HS HBY HL
    go_enter Tryz.func35, Tryz.ntmps35
    go_wp2_with fail
    go_quiet ((go_at_call 61; with_reducible exact quiet_left (HS16.out _)))
    go_wp2_with (first
      | (go_at_call 25; (with_reducible refine (HB16.out _).mono ?_); rintro e w1 ⟨v1, rfl, ho1, hb1⟩; have B1 := Lib.hid hb1; have k1 := Lib.hid ((HH.out.r.drewN nq).below hb1); have g0 := k1.out.cell0; rw [← HHL2.out] at g0; have HSB := Lib.hid (sameBytes_yes v1 _ [] w1 _ _ (IsBytes.of_owns ho1 (by simp) (Nat.le_refl _)) (IsBytes.empty w1 w1.heap.size ⟨rb, 0, none⟩ 0)); clear ho1 hb1)
      | (go_at_call 62; (with_reducible refine HSB.out.mono ?_); rintro e w' ⟨rfl, rfl⟩))
    go_ret
    exact ⟨rfl, (below_drewN (Below.refl _ _) nq).trans B1.out⟩
end Go.Proofs.YtnaceogkaiodnaaGreat

