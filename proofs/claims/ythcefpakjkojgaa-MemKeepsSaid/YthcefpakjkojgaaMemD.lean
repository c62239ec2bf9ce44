/- What slices.Clone and slices.Equal return on bytes, and Bytes and Lay of package mem: contracts for any memory, any place and any bytes, in whatever memory of the program. -/
import Derived.Test.YthcefpakjkojgaaMemC
import Derived.Test.YthcefpakjkojgaaKitBytes
import Derived.Laws.CopyOwn
import Derived.Deep.QuietTactic
import Derived.BigQuiet
import Derived.Lib.SliceRun
namespace Go.Proofs.Ythcefpakjkojgaa
open Go.RowKit
set_option linter.unusedVariables false

/-- A result, and no more than draws. -/
def Drew (w : World) (v : Value) (e : Ending) (w' : World) : Prop := e = .returned v ∧ ∃ n, w' = w.drewN n
theorem quiet_drew {P : Program} {f : FuncId} {args : Array Value} {w : World} {n : Nat} {v : Value}
    (h : Calls P f args (w.drewN n) (Drew (w.drewN n) v)) : Calls P f args (w.drewN n) fun e w'' => e = .returned v ∧ ∃ m, w'' = w.drewN m :=
  h.mono fun _ _ ⟨he, m, hm⟩ => ⟨he, n + m, by rw [hm, World.drewN_drewN]⟩
theorem quiet_add_drew {P : Program} {f : FuncId} {args : Array Value} {w : World} {a n : Nat} {v : Value}
    (h : Calls P f args (w.drewN (a + n)) (Drew (w.drewN (a + n)) v)) : Calls P f args (w.drewN (a + n)) fun e w'' => e = .returned v ∧ ∃ m, w'' = w.drewN (a + m) :=
  h.mono fun _ _ ⟨he, m, hm⟩ => ⟨he, n + m, by rw [hm, World.drewN_drewN, Nat.add_assoc]⟩
/-- What leaves the world alone draws nothing. -/
theorem drew_same {P : Program} {f : FuncId} {args : Array Value} {u : World} {v : Value} (h : Calls P f args u fun e w' => e = .returned v ∧ u = w') : Calls P f args u (Drew u v) :=
  h.mono fun _ _ hh => ⟨hh.1, 0, hh.2.symm⟩
theorem quiet_left {P : Program} {f : FuncId} {args : Array Value} {w : World} {n : Nat} {v : Value} (h : Calls P f args (w.drewN n) fun e w' => e = .returned v ∧ w.drewN n = w') :
    Calls P f args (w.drewN n) fun e w'' => e = .returned v ∧ ∃ m, w'' = w.drewN m := quiet_drew (drew_same h)
theorem quiet_add_left {P : Program} {f : FuncId} {args : Array Value} {w : World} {a n : Nat} {v : Value} (h : Calls P f args (w.drewN (a + n)) fun e w' => e = .returned v ∧ w.drewN (a + n) = w') :
    Calls P f args (w.drewN (a + n)) fun e w'' => e = .returned v ∧ ∃ m, w'' = w.drewN (a + m) := quiet_add_drew (drew_same h)
theorem hid_drew {w1 wr : World} (h : Hid (∃ q, wr = w1.drewN q)) (n : Nat) : Hid (∃ q, wr.drewN n = w1.drewN q) := by
  obtain ⟨q, rfl⟩ := h.out
  exact ⟨_, World.drewN_drewN _ _ _⟩
theorem MemAt.drewN {w : World} {mb bb c : Nat} {xs : List Int} (h : MemAt w mb bb c xs) (n : Nat) : MemAt (w.drewN n) mb bb c xs := h.but ((But.refl NoBlock w).drewN n) (noBlock_not _) (noBlock_not _)
theorem IsBytes.drewN {w : World} {B : Nat} {X : Value} {xs : List Int} (h : IsBytes w B X xs) (n : Nat) : IsBytes (w.drewN n) B X xs := h

theorem eql_slice_nil (a : Option Addr) (n c : Nat) (w : World) : (binOp .eql 33 (.slice a n c) (.slice none 0 0)).run Try.prog w = .ok (.bool a.isNone) w := Lib.run_eql_slice_nil w 33 5 a n c 0 0 Try.underlying33
theorem clone_none (w : World) : Calls Try.prog 29 #[.slice none 0 0] w (CopyDone w []) := by
  have hsn := eql_slice_nil
  go_enter Try.func29, Try.ntmps29
  go_wp2
  go_ret
  exact ⟨_, rfl, Owns.nil _ _ _ _ _, Below.refl _ _⟩
theorem clone_some (ad : Addr) (cap : Nat) (xs : List Int) (w : World) (hx : ∀ x ∈ xs, 0 ≤ x ∧ x < 256) (hm : xs.length ≤ 140737488355328) (hc : ∀ i, i < xs.length → w.cell? (ad.add i) = some (.int .u8 (xs.getD i 0))) (hb : 0 < xs.length → ad.block < w.heap.size) :
    Calls Try.prog 29 #[.slice (some ad) xs.length cap] w (CopyDone w xs) := by
  obtain ⟨i0, hi, hz0, hz1, hz2⟩ := info_parts u8_info
  have HI := Lib.hid hi
  have HZ0 := Lib.hid hz0
  have HZ1 := Lib.hid hz1
  have HZ2 := Lib.hid hz2
  have news : ∀ j u, (xs.map (Value.int .u8))[j]? = some u → (w.alloc (.cells #[] 5)).cell? (ad.add j) = some u := by
    intro j u hj
    have hl : j < xs.length := by
      rcases Nat.lt_or_ge j xs.length with h | h
      · exact h
      · rw [List.getElem?_eq_none (by simpa using h)] at hj
        cases hj
    have hbl : (ad.add j).block = ad.block := by unfold Addr.add; split <;> rfl
    rw [World.cell?_alloc_lt w _ _ (by rw [hbl]; exact hb (by omega)), hc j hl]
    simp [List.getElem?_eq_getElem hl] at hj
    subst hj
    simp [List.getD, List.getElem?_eq_getElem hl]
  have hmade := Owns.made w w.heap.size 5 1 IsU8 (Nat.le_refl _)
  have HN := Lib.hid news
  have HM := Lib.hid hmade
  have HK := Lib.hid (u8_cells hx)
  clear hi hz0 hz1 hz2 news hmade hc hb hx
  have hsn := eql_slice_nil
  go_enter Try.func29, Try.ntmps29
  go_wp2_with (at_builtin; refine wpList_append_q _ rfl (.tmp 5) (.tmp 6) 33 rfl w.heap.size 5 i0 _ 1 1 Try.underlying33 HI.out HZ0.out HZ1.out HZ2.out rfl (by decide) IsU8 zero_u8 _ 0 [] rfl HM.out ad xs.length cap (xs.map (Value.int .u8)) rfl (by simp) HN.out (ints_oneCell _ _) HK.out (by simp only [maxLen]; omega) (by omega) (by simp) ?_; intro v' w1 hown' hgrow; have R0 := Lib.hid hown'; have R1 := Lib.hid hgrow; clear hown' hgrow)
  go_ret
  refine ⟨_, rfl, ?_, ((Below.refl _ _).alloc (Nat.le_refl _) _).grown R1.out (by simp) (fun g hg => (HM.out.lt hg).1)⟩
  have h := R0.out
  simpa using h
theorem clone_any (X : Value) (xs : List Int) (w : World) (hX : IsBytes w w.heap.size X xs) (hm : xs.length ≤ 140737488355328) : Calls Try.prog 29 #[X] w (CopyDone w xs) := by
  rcases hX.2.2 with ⟨rfl, rfl⟩ | ⟨ad, cap, rfl, h1, h2, h3⟩
  · exact clone_none w
  · exact clone_some ad cap xs w hX.1 hm h3 h2

/-- What Bytes leaves. -/
def BytesDone (w : World) (xs : List Int) (E : Int) (e : Ending) (w' : World) : Prop :=
  ∃ v, e = .returned (.tuple #[v, .int .i64 E]) ∧ Owns w' w.heap.size 5 1 IsU8 v xs.length (xs.map (Value.int .u8)) ∧ Below w.heap.size w w'
theorem bytes_of {w : World} {p a n : Value} {X : Value} {xs : List Int} {E : Int} (hX : IsBytes w w.heap.size X xs) (hm : xs.length ≤ 140737488355328)
    (hcut : Calls Try.prog 31 #[p, a, n, .func (.func 42) #[p] #[]] w fun e w' => e = .returned (.tuple #[X, .int .i64 E]) ∧ w = w') :
    Calls Try.prog 19 #[p, a, n] w (BytesDone w xs E) := by
  have HX := Lib.hid (clone_any X xs w hX hm)
  have HC := Lib.hid hcut
  clear hX hm hcut
  go_enter Try.func19, Try.ntmps19
  go_wp2_with (first
    | (go_at_call 31; (with_reducible refine HC.out.mono ?_); rintro e w' ⟨rfl, rfl⟩)
    | (go_at_call 29; refine HX.out.mono ?_; rintro e w1 ⟨v, rfl, hown, hbel⟩; have R0 := Lib.hid hown; have R1 := Lib.hid hbel; clear hown hbel))
  go_ret2
  exact ⟨v, rfl, R0.out, R1.out⟩
theorem IsBytes.none (w : World) (B : Nat) : IsBytes w B (.slice none 0 0) [] := ⟨by simp, by simp, .inl ⟨rfl, rfl⟩⟩
theorem IsBytes.empty (w : World) (B : Nat) (ad : Addr) (cap : Nat) : IsBytes w B (.slice (some ad) 0 cap) [] := ⟨by simp, by simp, .inr ⟨ad, cap, rfl, by simp, by simp, by simp⟩⟩
theorem bytes_any {mb bb c : Nat} {xs : List Int} {w : World} (h : MemAt w mb bb c xs) (a n : Int) (ha : 0 ≤ a) (ha' : a < 18446744073709551616) (hn' : n < 9223372036854775808) :
    Calls Try.prog 19 #[.pointer (some ⟨mb, 0, none⟩), .int .u64 a, .int .i64 n] w (BytesDone w (bytesL xs a n) (accE xs.length a n)) := by
  have hl := h.hi
  by_cases he : accE xs.length a n = 0
  · obtain ⟨h0, h1, h2, h3⟩ := accE_zero he
    unfold bytesL
    rw [if_pos he, he]
    obtain ⟨k, rfl⟩ := nat_of ha
    obtain ⟨m, rfl⟩ := nat_of h0
    by_cases hm : 0 < m
    · have hB := h.row.bytes h.bd h.row.lt (a := k) (n := m) (by omega) (Nat.le_refl m) (by unfold maxLen; omega)
      rw [partL_nat]
      exact bytes_of hB (by simp; omega) (cutB_ok h k m (by omega) (by omega) hm)
    · obtain rfl : m = 0 := by omega
      have e : partL xs k (0 : Nat) = [] := by simp [partL]
      rw [e]
      exact bytes_of (IsBytes.empty w _ _ _) (by simp) (cutB_nil h k (by omega) (by omega))
  · unfold bytesL
    rw [if_neg he]
    exact bytes_of (IsBytes.none w _) (by simp) (cutB_bad h a n ha ha' hn' he)
theorem cutB_no {p : Value} {w : World} (h : NoMem w p) (a n : Int) :
    Calls Try.prog 31 #[p, .int .u64 a, .int .i64 n, .func (.func 42) #[p] #[]] w fun e w' => e = .returned (.tuple #[.slice none 0 0, .int .i64 1]) ∧ w = w' := by
  have HV := Lib.hid (valid_no h)
  clear h
  go_enter Try.func31, Try.ntmps31
  go_wp2_with (go_at_call 28; (with_reducible refine HV.out.mono ?_); rintro e w' ⟨rfl, rfl⟩)
  go_ret2
  exact ⟨rfl, rfl⟩
theorem bytes_no {p : Value} {w : World} (h : NoMem w p) (a n : Int) :
    Calls Try.prog 19 #[p, .int .u64 a, .int .i64 n] w fun e w' => e = .returned (.tuple #[.slice none 0 0, .int .i64 1]) ∧ w = w' := by
  have HC := Lib.hid (cutB_no h a n)
  have hcl : ∀ w, Calls Try.prog 29 #[.slice none 0 0] w fun e w' => e = .returned (.slice none 0 0) ∧ w = w' := by
    intro w
    have hsn := eql_slice_nil
    go_enter Try.func29, Try.ntmps29
    go_wp2
    go_ret
    exact ⟨rfl, rfl⟩
  have HX := Lib.hid hcl
  clear h hcl
  go_enter Try.func19, Try.ntmps19
  go_wp2_with (first
    | (go_at_call 31; (with_reducible refine HC.out.mono ?_); rintro e w' ⟨rfl, rfl⟩)
    | (go_at_call 29; (with_reducible refine (HX.out _).mono ?_); rintro e w' ⟨rfl, rfl⟩))
  go_ret2
  exact ⟨rfl, rfl⟩

theorem isBytes_value {w : World} {B : Nat} {Y : Value} {ys : List Int} (h : IsBytes w B Y ys) : ∃ (A : Option Addr) (cap : Nat), Y = .slice A ys.length cap ∧ ys.length ≤ 9223372036854775807 := by
  obtain ⟨A, cap, e⟩ := h.len
  have := h.2.1
  unfold maxLen at this
  exact ⟨A, cap, e, by omega⟩
theorem lay_bad {p : Value} {Y : Value} {ys : List Int} {w : World} {B : Nat} {E a : Int} {d : Option Addr} (hY : IsBytes w B Y ys)
    (hcut : Calls Try.prog 31 #[p, .int .u64 a, .int .i64 ys.length, .func (.func 42) #[p] #[]] w fun e w' => e = .returned (.tuple #[.slice d 0 0, .int .i64 E]) ∧ w = w') :
    Calls Try.prog 20 #[p, .int .u64 a, Y] w fun e w' => e = .returned (.int .i64 E) ∧ w = w' := by
  obtain ⟨A, cap, rfl, hb⟩ := isBytes_value hY
  have HC := Lib.hid hcut
  obtain ⟨m, hm⟩ : ∃ m, m = ys.length := ⟨_, rfl⟩
  rw [← hm] at HC hb ⊢
  clear hY hcut hm
  go_enter Try.func20, Try.ntmps20
  go_wp2_with (first
    | (go_at_call 31; (with_reducible refine HC.out.mono ?_); rintro e w' ⟨rfl, rfl⟩)
    | (with_reducible refine wpList_copy_nothing rfl (.tmp 19) (.tmp 20) 33 33 rfl 5 Try.underlying33 u8_size _ _ 0 0 m cap rfl rfl (Nat.min_zero m) ?_))
  go_ret
  exact ⟨rfl, rfl⟩
set_option maxHeartbeats 1000000 in
theorem lay_ok {mb bb c : Nat} {xs ys : List Int} {w : World} (h : MemAt w mb bb c xs) (k : Nat) {Y : Value} {B : Nat} (hY : IsBytes w B Y ys) (hk : 16 ≤ k) (hkm : k + ys.length ≤ xs.length) (hm : 0 < ys.length) :
    Calls Try.prog 20 #[.pointer (some ⟨mb, 0, none⟩), .int .u64 k, Y] w (StoreDone w mb bb c (layL xs k ys) 0) := by
  have hl := h.hi
  have HBD := Lib.hid hY.1
  obtain ⟨m, hmm⟩ : ∃ m, m = ys.length := ⟨_, rfl⟩
  obtain ⟨b, off, cap, rfl, hcap, hlt, hc⟩ := hY.plain hm
  obtain ⟨cur, hcur, hsz, htk, hcl⟩ := h.row
  have hnews : ∀ j u, (ys.map (Value.int .u8))[j]? = some u → w.cell? ((⟨b, off, none⟩ : Addr).add j) = some u := by
    intro j u hj
    have hl : j < ys.length := by
      rcases Nat.lt_or_ge j ys.length with h | h
      · exact h
      · rw [List.getElem?_eq_none (by simpa using h)] at hj
        cases hj
    have e : (⟨b, off, none⟩ : Addr).add j = ⟨b, off + j, none⟩ := by unfold Addr.add; split <;> simp_all
    rw [e, hc j hl]
    simp [List.getElem?_eq_getElem hl] at hj
    subst hj
    simp [List.getD, List.getElem?_eq_getElem hl]
  have HN := Lib.hid hnews
  have HC := Lib.hid (cutB_ok h k ys.length hk hkm hm)
  have HM := Lib.hid h
  have HCUR := Lib.hid hcur
  have HSZ := Lib.hid hsz
  have HMM := Lib.hid hmm
  rw [← hmm] at HC hcap hkm hm ⊢
  have hmx : m ≤ 65536 := by omega
  clear h hY hc hcur hsz htk hnews hmm
  go_enter Try.func20, Try.ntmps20
  go_wp2_with (first
    | (go_at_call 31; (with_reducible refine HC.out.mono ?_); rintro e w' ⟨rfl, rfl⟩)
    | (with_reducible refine wpList_copy_own rfl (.tmp 19) (.tmp 20) 33 33 rfl 5 Try.underlying33 u8_size bb k m m ⟨b, off, none⟩ m cap rfl rfl cur 5 HCUR.out (ys.map (Value.int .u8)) (by simp [HMM.out]) HN.out (by simp [HSZ.out, ← HMM.out]; omega) (ints_oneCell _ _) ?_))
  go_ret
  refine ⟨rfl, HM.out.lay (by rw [← HMM.out]; exact hkm) HBD.out HCUR.out, ?_⟩
  exact (But.refl (OneBlock bb) _).setRow (.inl rfl) _
theorem lay_any {mb bb c : Nat} {xs ys : List Int} {w : World} (h : MemAt w mb bb c xs) (a : Int) {Y : Value} {B : Nat} (hY : IsBytes w B Y ys) (ha : 0 ≤ a) (ha' : a < 18446744073709551616) :
    Calls Try.prog 20 #[.pointer (some ⟨mb, 0, none⟩), .int .u64 a, Y] w (StoreDone w mb bb c (layB xs a ys) (accE xs.length a ys.length)) := by
  have hb := hY.2.1
  unfold maxLen at hb
  by_cases he : accE xs.length a ys.length = 0
  · obtain ⟨h0, h1, h2, h3⟩ := accE_zero he
    unfold layB
    rw [if_pos he, he]
    obtain ⟨k, rfl⟩ := nat_of ha
    by_cases hm : 0 < ys.length
    · exact lay_ok h k hY (by omega) (by omega) hm
    · obtain rfl : ys = [] := List.eq_nil_of_length_eq_zero (by omega)
      rw [layL_nil]
      exact (lay_bad (E := 0) hY (cutB_nil h k (by omega) (by omega))).mono fun e w' ⟨h1, h2⟩ => by subst h2; exact ⟨h1, h, But.refl _ _⟩
  · unfold layB
    rw [if_neg he]
    exact (lay_bad hY (cutB_bad h a _ ha ha' (by omega) he)).mono fun e w' ⟨h1, h2⟩ => by subst h2; exact ⟨h1, h, But.refl _ _⟩
theorem lay_no {p : Value} {w : World} (h : NoMem w p) (a : Int) {Y : Value} {ys : List Int} {B : Nat} (hY : IsBytes w B Y ys) :
    Calls Try.prog 20 #[p, .int .u64 a, Y] w fun e w' => e = .returned (.int .i64 1) ∧ w = w' :=
  lay_bad hY (cutB_no h a _)
end Go.Proofs.Ythcefpakjkojgaa
