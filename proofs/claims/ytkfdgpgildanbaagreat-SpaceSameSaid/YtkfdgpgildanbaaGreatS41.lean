import Derived.Test.YtkfdgpgildanbaaGreatS40
import Derived.Test.YtkfdgpgildanbaaGreatS01
import Derived.Laws.CopyOwn
import Derived.Deep.QuietTactic
import Derived.BigQuiet
import Derived.Lib.SliceRun
import Derived.Laws.MakeOwn
namespace Go.Proofs.YtkfdgpgildanbaaGreat
open Go.RowKit
set_option linter.unusedVariables false
def Drew (w : World) (v : Value) (e : Ending) (w' : World) : Prop := e = .returned v ∧ ∃ n, w' = w.drewN n
theorem quiet_drew {P : Program} {f : FuncId} {args : Array Value} {w : World} {n : Nat} {v : Value}
    (h : Calls P f args (w.drewN n) (Drew (w.drewN n) v)) : Calls P f args (w.drewN n) fun e w'' => e = .returned v ∧ ∃ m, w'' = w.drewN m :=
  h.mono fun _ _ ⟨he, m, hm⟩ => ⟨he, n + m, by rw [hm, World.drewN_drewN]⟩
theorem quiet_add_drew {P : Program} {f : FuncId} {args : Array Value} {w : World} {a n : Nat} {v : Value}
    (h : Calls P f args (w.drewN (a + n)) (Drew (w.drewN (a + n)) v)) : Calls P f args (w.drewN (a + n)) fun e w'' => e = .returned v ∧ ∃ m, w'' = w.drewN (a + m) :=
  h.mono fun _ _ ⟨he, m, hm⟩ => ⟨he, n + m, by rw [hm, World.drewN_drewN, Nat.add_assoc]⟩
theorem drew_same {P : Program} {f : FuncId} {args : Array Value} {u : World} {v : Value} (h : Calls P f args u fun e w' => e = .returned v ∧ u = w') : Calls P f args u (Drew u v) :=
  h.mono fun _ _ hh => ⟨hh.1, 0, hh.2.symm⟩
theorem quiet_left {P : Program} {f : FuncId} {args : Array Value} {w : World} {n : Nat} {v : Value} (h : Calls P f args (w.drewN n) fun e w' => e = .returned v ∧ w.drewN n = w') :
    Calls P f args (w.drewN n) fun e w'' => e = .returned v ∧ ∃ m, w'' = w.drewN m := quiet_drew (drew_same h)
theorem quiet_add_left {P : Program} {f : FuncId} {args : Array Value} {w : World} {a n : Nat} {v : Value} (h : Calls P f args (w.drewN (a + n)) fun e w' => e = .returned v ∧ w.drewN (a + n) = w') :
    Calls P f args (w.drewN (a + n)) fun e w'' => e = .returned v ∧ ∃ m, w'' = w.drewN (a + m) := quiet_add_drew (drew_same h)
theorem MemAt.drewN {w : World} {mb bb c : Nat} {xs : List Int} (h : MemAt w mb bb c xs) (n : Nat) : MemAt (w.drewN n) mb bb c xs := h.but ((But.refl NoBlock w).drewN n) (noBlock_not _) (noBlock_not _)
theorem IsBytes.drewM {w : World} {B : Nat} {X : Value} {xs : List Int} (h : IsBytes w B X xs) (n : Nat) : IsBytes (w.drewN n) B X xs := h
theorem eql_slice_nil (a : Option Addr) (n c : Nat) (w : World) : (binOp .eql 22 (.slice a n c) (.slice none 0 0)).run Tryz.prog w = .ok (.bool a.isNone) w := Lib.run_eql_slice_nil w 22 5 a n c 0 0 Tryz.underlying22
theorem clone_none (w : World) : Calls Tryz.prog 58 #[.slice none 0 0] w (CopyDone w []) := by
  have hsn := eql_slice_nil
  go_enter Tryz.func58, Tryz.ntmps58
  go_wp2
  go_ret
  exact ⟨_, rfl, Owns.nil _ _ _ _ _, Below.refl _ _⟩
theorem clone_some (ad : Addr) (cap : Nat) (xs : List Int) (w : World) (hx : ∀ x ∈ xs, 0 ≤ x ∧ x < 256) (hm : xs.length ≤ 140737488355328) (hc : ∀ i, i < xs.length → w.cell? (ad.add i) = some (.int .u8 (xs.getD i 0))) (hb : 0 < xs.length → ad.block < w.heap.size) :
    Calls Tryz.prog 58 #[.slice (some ad) xs.length cap] w (CopyDone w xs) := by
  obtain ⟨i0, hi, hz0, hz1, hz2⟩ := info_parts u8_info
  have HI := Lib.hid hi
  have HZ0 := Lib.hid hz0
  have HZ1 := Lib.hid hz1
  have HZ2 := Lib.hid hz2
  have news : ∀ j u, (xs.map (Value.int .u8))[j]? = some u → (w.alloc (.cells #[] 5)).cell? (ad.add j) = some u := by
    intro j u hj
    have hl : j < xs.length := by
      rcases Nat.lt_or_ge j xs.length with h | h
      · exact h
      · rw [List.getElem?_eq_none (by simpa using h)] at hj
        cases hj
    have hbl : (ad.add j).block = ad.block := by unfold Addr.add; split <;> rfl
    rw [World.cell?_alloc_lt w _ _ (by rw [hbl]; exact hb (by omega)), hc j hl]
    simp [List.getElem?_eq_getElem hl] at hj
    subst hj
    simp [List.getD, List.getElem?_eq_getElem hl]
  have hmade := Owns.made w w.heap.size 5 1 IsU8 (Nat.le_refl _)
  have HN := Lib.hid news
  have HM := Lib.hid hmade
  have HK := Lib.hid (u8_cells hx)
  clear hi hz0 hz1 hz2 news hmade hc hb hx
  have hsn := eql_slice_nil
  go_enter Tryz.func58, Tryz.ntmps58
  go_wp2_with (at_builtin; refine wpList_append_q _ rfl (.tmp 5) (.tmp 6) 22 rfl w.heap.size 5 i0 _ 1 1 Tryz.underlying22 HI.out HZ0.out HZ1.out HZ2.out rfl (by decide) IsU8 zero_u8 _ 0 [] rfl HM.out ad xs.length cap (xs.map (Value.int .u8)) rfl (by simp) HN.out (ints_oneCell _ _) HK.out (by simp only [maxLen]; omega) (by omega) (by simp) ?_; intro v' w1 hown' hgrow; have R0 := Lib.hid hown'; have R1 := Lib.hid hgrow; clear hown' hgrow)
  go_ret
  refine ⟨_, rfl, ?_, ((Below.refl _ _).alloc (Nat.le_refl _) _).grown R1.out (by simp) (fun g hg => (HM.out.lt hg).1)⟩
  have h := R0.out
  simpa using h
theorem cloneM_any (X : Value) (xs : List Int) (w : World) (hX : IsBytes w w.heap.size X xs) (hm : xs.length ≤ 140737488355328) : Calls Tryz.prog 58 #[X] w (CopyDone w xs) := by
  rcases hX.2.2 with ⟨rfl, rfl⟩ | ⟨ad, cap, rfl, h1, h2, h3⟩
  · exact clone_none w
  · exact clone_some ad cap xs w hX.1 hm h3 h2
def BytesDone (w : World) (xs : List Int) (E : Int) (e : Ending) (w' : World) : Prop :=
  ∃ v, e = .returned (.tuple #[v, .int .i64 E]) ∧ Owns w' w.heap.size 5 1 IsU8 v xs.length (xs.map (Value.int .u8)) ∧ Below w.heap.size w w'
theorem bytes_of {w : World} {p a n : Value} {X : Value} {xs : List Int} {E : Int} (hX : IsBytes w w.heap.size X xs) (hm : xs.length ≤ 140737488355328)
    (hcut : Calls Tryz.prog 109 #[p, a, n, .func (.func 110) #[p] #[]] w fun e w' => e = .returned (.tuple #[X, .int .i64 E]) ∧ w = w') :
    Calls Tryz.prog 47 #[p, a, n] w (BytesDone w xs E) := by
  have HX := Lib.hid (cloneM_any X xs w hX hm)
  have HC := Lib.hid hcut
  clear hX hm hcut
  go_enter Tryz.func47, Tryz.ntmps47
  go_wp2_with (first
    | (go_at_call 109; (with_reducible refine HC.out.mono ?_); rintro e w' ⟨rfl, rfl⟩)
    | (go_at_call 58; refine HX.out.mono ?_; rintro e w1 ⟨v, rfl, hown, hbel⟩; have R0 := Lib.hid hown; have R1 := Lib.hid hbel; clear hown hbel))
  go_ret2
  exact ⟨v, rfl, R0.out, R1.out⟩
theorem IsBytes.none (w : World) (B : Nat) : IsBytes w B (.slice none 0 0) [] := ⟨by simp, by simp, .inl ⟨rfl, rfl⟩⟩
theorem IsBytes.empty (w : World) (B : Nat) (ad : Addr) (cap : Nat) : IsBytes w B (.slice (some ad) 0 cap) [] := ⟨by simp, by simp, .inr ⟨ad, cap, rfl, by simp, by simp, by simp⟩⟩
theorem bytes_any {mb bb c : Nat} {xs : List Int} {w : World} (h : MemAt w mb bb c xs) (a n : Int) (ha : 0 ≤ a) (ha' : a < 18446744073709551616) (hn' : n < 9223372036854775808) :
    Calls Tryz.prog 47 #[.pointer (some ⟨mb, 0, none⟩), .int .u64 a, .int .i64 n] w (BytesDone w (bytesL xs a n) (accE xs.length a n)) := by
  have hl := h.hi
  by_cases he : accE xs.length a n = 0
  · obtain ⟨h0, h1, h2, h3⟩ := accE_zero he
    unfold bytesL
    rw [if_pos he, he]
    obtain ⟨k, rfl⟩ := nat_of ha
    obtain ⟨m, rfl⟩ := nat_of h0
    by_cases hm : 0 < m
    · have hB := h.row.bytes h.bd h.row.lt (a := k) (n := m) (by omega) (Nat.le_refl m) (by unfold maxLen; omega)
      rw [partL_nat]
      exact bytes_of hB (by simp; omega) (cutB_ok h k m (by omega) (by omega) hm)
    · obtain rfl : m = 0 := by omega
      have e : partL xs k (0 : Nat) = [] := by simp [partL]
      rw [e]
      exact bytes_of (IsBytes.empty w _ _ _) (by simp) (cutB_nil h k (by omega) (by omega))
  · unfold bytesL
    rw [if_neg he]
    exact bytes_of (IsBytes.none w _) (by simp) (cutB_bad h a n ha ha' hn' he)
theorem isBytes_value {w : World} {B : Nat} {Y : Value} {ys : List Int} (h : IsBytes w B Y ys) : ∃ (A : Option Addr) (cap : Nat), Y = .slice A ys.length cap ∧ ys.length ≤ 9223372036854775807 := by
  obtain ⟨A, cap, e⟩ := h.len
  have := h.2.1
  unfold maxLen at this
  exact ⟨A, cap, e, by omega⟩
theorem lay_bad {p : Value} {Y : Value} {ys : List Int} {w : World} {B : Nat} {E a : Int} {d : Option Addr} (hY : IsBytes w B Y ys)
    (hcut : Calls Tryz.prog 109 #[p, .int .u64 a, .int .i64 ys.length, .func (.func 110) #[p] #[]] w fun e w' => e = .returned (.tuple #[.slice d 0 0, .int .i64 E]) ∧ w = w') :
    Calls Tryz.prog 169 #[p, .int .u64 a, Y] w fun e w' => e = .returned (.int .i64 E) ∧ w = w' := by
  obtain ⟨A, cap, rfl, hb⟩ := isBytes_value hY
  have HC := Lib.hid hcut
  obtain ⟨m, hm⟩ : ∃ m, m = ys.length := ⟨_, rfl⟩
  rw [← hm] at HC hb ⊢
  clear hY hcut hm
  go_enter Tryz.func169, Tryz.ntmps169
  go_wp2_with (first
    | (go_at_call 109; (with_reducible refine HC.out.mono ?_); rintro e w' ⟨rfl, rfl⟩)
    | (with_reducible refine wpList_copy_nothing rfl (.tmp 19) (.tmp 20) 22 22 rfl 5 Tryz.underlying22 u8_size _ _ 0 0 m cap rfl rfl (Nat.min_zero m) ?_))
  go_ret
  exact ⟨rfl, rfl⟩
set_option maxHeartbeats 1000000 in
theorem lay_ok {mb bb c : Nat} {xs ys : List Int} {w : World} (h : MemAt w mb bb c xs) (k : Nat) {Y : Value} {B : Nat} (hY : IsBytes w B Y ys) (hk : 16 ≤ k) (hkm : k + ys.length ≤ xs.length) (hm : 0 < ys.length) :
    Calls Tryz.prog 169 #[.pointer (some ⟨mb, 0, none⟩), .int .u64 k, Y] w (StoreDone w mb bb c (layL xs k ys) 0) := by
  have hl := h.hi
  have HBD := Lib.hid hY.1
  obtain ⟨m, hmm⟩ : ∃ m, m = ys.length := ⟨_, rfl⟩
  obtain ⟨b, off, cap, rfl, hcap, hlt, hc⟩ := hY.plain hm
  obtain ⟨cur, hcur, hsz, htk, hcl⟩ := h.row
  have hnews : ∀ j u, (ys.map (Value.int .u8))[j]? = some u → w.cell? ((⟨b, off, none⟩ : Addr).add j) = some u := by
    intro j u hj
    have hl : j < ys.length := by
      rcases Nat.lt_or_ge j ys.length with h | h
      · exact h
      · rw [List.getElem?_eq_none (by simpa using h)] at hj
        cases hj
    have e : (⟨b, off, none⟩ : Addr).add j = ⟨b, off + j, none⟩ := by unfold Addr.add; split <;> simp_all
    rw [e, hc j hl]
    simp [List.getElem?_eq_getElem hl] at hj
    subst hj
    simp [List.getD, List.getElem?_eq_getElem hl]
  have HN := Lib.hid hnews
  have HC := Lib.hid (cutB_ok h k ys.length hk hkm hm)
  have HM := Lib.hid h
  have HCUR := Lib.hid hcur
  have HSZ := Lib.hid hsz
  have HMM := Lib.hid hmm
  rw [← hmm] at HC hcap hkm hm ⊢
  have hmx : m ≤ 65536 := by omega
  clear h hY hc hcur hsz htk hnews hmm
  go_enter Tryz.func169, Tryz.ntmps169
  go_wp2_with (first
    | (go_at_call 109; (with_reducible refine HC.out.mono ?_); rintro e w' ⟨rfl, rfl⟩)
    | (with_reducible refine wpList_copy_own rfl (.tmp 19) (.tmp 20) 22 22 rfl 5 Tryz.underlying22 u8_size bb k m m ⟨b, off, none⟩ m cap rfl rfl cur 5 HCUR.out (ys.map (Value.int .u8)) (by simp [HMM.out]) HN.out (by simp [HSZ.out, ← HMM.out]; omega) (ints_oneCell _ _) ?_))
  go_ret
  refine ⟨rfl, HM.out.lay (by rw [← HMM.out]; exact hkm) HBD.out HCUR.out, ?_⟩
  exact (But.refl (OneBlock bb) _).setRow (.inl rfl) _
theorem lay_any {mb bb c : Nat} {xs ys : List Int} {w : World} (h : MemAt w mb bb c xs) (a : Int) {Y : Value} {B : Nat} (hY : IsBytes w B Y ys) (ha : 0 ≤ a) (ha' : a < 18446744073709551616) :
    Calls Tryz.prog 169 #[.pointer (some ⟨mb, 0, none⟩), .int .u64 a, Y] w (StoreDone w mb bb c (layB xs a ys) (accE xs.length a ys.length)) := by
  have hb := hY.2.1
  unfold maxLen at hb
  by_cases he : accE xs.length a ys.length = 0
  · obtain ⟨h0, h1, h2, h3⟩ := accE_zero he
    unfold layB
    rw [if_pos he, he]
    obtain ⟨k, rfl⟩ := nat_of ha
    by_cases hm : 0 < ys.length
    · exact lay_ok h k hY (by omega) (by omega) hm
    · obtain rfl : ys = [] := List.eq_nil_of_length_eq_zero (by omega)
      rw [layL_nil]
      exact (lay_bad (E := 0) hY (cutB_nil h k (by omega) (by omega))).mono fun e w' ⟨h1, h2⟩ => by subst h2; exact ⟨h1, h, But.refl _ _⟩
  · unfold layB
    rw [if_neg he]
    exact (lay_bad hY (cutB_bad h a _ ha ha' (by omega) he)).mono fun e w' ⟨h1, h2⟩ => by subst h2; exact ⟨h1, h, But.refl _ _⟩
end Go.Proofs.YtkfdgpgildanbaaGreat
namespace Go.Proofs.YtkfdgpgildanbaaGreat
open Go.RowKit
set_option linter.unusedVariables false
theorem made_bytes (n : Nat) : madeCells (Value.int .u8 0).cells (n * 1) = ((List.replicate n (0 : Int)).map (Value.int .u8)).toArray := by
  apply Array.ext
  · simp [madeCells]
  · intro i h1 h2
    simp [madeCells, Value.cells, Nat.mod_one]
theorem make_zeros (n : Nat) (h : n ≤ 65536) (w : World) : (Instr.makeSlice 22 (.int .i64 (n : Int)) (.int .i64 (n : Int))).run Tryz.prog w = .ok (.slice (some ⟨w.heap.size, 0, none⟩) n n) (w.alloc (.cells ((List.replicate n (0 : Int)).map (Value.int .u8)).toArray 5)) := by
  obtain ⟨i0, hi, hz0, hz1, hz2⟩ := info_parts u8_info
  have hr := run_make (P := Tryz.prog) w 22 5 i0 _ Tryz.underlying22 hi hz0 .i64 .i64 n n (by omega) (Int.le_refl _) (by rw [hz2]; omega) (by omega)
  rw [Int.toNat_natCast, hz1, made_bytes] at hr
  exact hr
theorem Row.made (w : World) (n : Nat) : Row 5 (w.alloc (.cells ((List.replicate n (0 : Int)).map (Value.int .u8)).toArray 5)) w.heap.size n (List.replicate n 0) :=
  ⟨_, heap_alloc_new w _, by simp, by simp, by simp⟩
def NewDone (w : World) (xs : List Int) (e : Ending) (w' : World) : Prop :=
  ∃ mb bb c, e = .returned (.pointer (some ⟨mb, 0, none⟩)) ∧ MemAt w' mb bb c xs ∧ w.heap.size ≤ mb ∧ w.heap.size ≤ bb ∧ Below w.heap.size w w'
def NewDone2 (w : World) (xs : List Int) (e : Ending) (w' : World) : Prop :=
  ∃ mb bb c, e = .returned (.tuple #[.pointer (some ⟨mb, 0, none⟩), .int .i64 0]) ∧ MemAt w' mb bb c xs ∧ w.heap.size ≤ mb ∧ w.heap.size ≤ bb ∧ Below w.heap.size w w'
theorem over_mem (bb n c : Nat) (w : World) :
    Calls Tryz.prog 133 #[.slice (some ⟨bb, 0, none⟩) n c] w fun e w' => e = .returned (.pointer (some ⟨w.heap.size, 0, none⟩)) ∧ w' = w.alloc (.cells #[.pointer (some ⟨w.heap.size, 0, none⟩), .slice (some ⟨bb, 0, none⟩) n c] 175) := by
  go_enter Tryz.func133, Tryz.ntmps133
  go_wp2
  go_ret
  exact ⟨rfl, rfl⟩
theorem MemAt.over {w : World} {bb c : Nat} {xs : List Int} (h : Row 5 w bb c xs) (bd : ∀ x ∈ xs, 0 ≤ x ∧ x < 256) (lo : 16 ≤ xs.length) (hi : xs.length ≤ 65536) (hc : c ≤ maxLen) :
    MemAt (w.alloc (.cells #[.pointer (some ⟨w.heap.size, 0, none⟩), .slice (some ⟨bb, 0, none⟩) xs.length c] 175)) w.heap.size bb c xs :=
  ⟨heap_alloc_new w _, h.but ((But.refl NoBlock w).alloc _) (noBlock_not _), bd, lo, hi, hc⟩
theorem replicate_bd (n : Nat) : ∀ x ∈ List.replicate n (0 : Int), 0 ≤ x ∧ x < 256 := by
  intro x h
  rw [(List.mem_replicate.1 h).2]
  omega
set_option maxHeartbeats 1000000 in
theorem new_yes (n : Nat) (w : World) (h : 16 ≤ n) (h' : n ≤ 65536) : Calls Tryz.prog 168 #[.int .i64 n] w (NewDone2 w (List.replicate n 0)) := by
  have hmk := make_zeros n h'
  have HM := Lib.hid (Row.made w n)
  obtain ⟨C, hC⟩ : ∃ C, C = ((List.replicate n (0 : Int)).map (Value.int .u8)).toArray := ⟨_, rfl⟩
  rw [← hC] at HM hmk
  have h1 : ¬ (n : Int) < 16 := by omega
  have h2 : ¬ (65536 : Int) < n := by omega
  have HN := Lib.hid h
  clear hC
  go_enter Tryz.func168, Tryz.ntmps168
  go_wp2_with (go_at_call 133; refine (over_mem _ _ _ _).mono ?_; rintro e w' ⟨rfl, rfl⟩)
  go_ret2
  have hm := MemAt.over HM.out (replicate_bd n) (by simpa using HN.out) (by simpa using h') (by unfold maxLen; omega)
  simp only [List.length_replicate] at hm
  have hsz : (w.alloc (.cells C 5)).heap.size = w.heap.size + 1 := by simp
  rw [hsz] at hm
  exact ⟨_, _, _, rfl, hm, by omega, by omega, ((Below.refl _ _).alloc (Nat.le_refl _) _).alloc (by simp) _⟩
theorem owns_row {w : World} {base : Nat} {v : Value} {xs : List Int} (h : Owns w base 5 1 IsU8 v xs.length (xs.map (Value.int .u8))) (hn : 0 < xs.length) :
    ∃ g cap, v = .slice (some ⟨g, 0, none⟩) xs.length cap ∧ base ≤ g ∧ Row 5 w g cap xs ∧ cap ≤ maxLen := by
  rcases h.1.2 with ⟨rfl, h0⟩ | ⟨g, cap, cur, rfl, h1, h2, h3, h4, h5, h6⟩
  · omega
  · exact ⟨g, cap, rfl, h1, ⟨cur, h2, by simpa using h5, by rw [← h6, Nat.mul_one], h3⟩, h4⟩
set_option maxHeartbeats 1000000 in
theorem memCopy_yes {mb bb c : Nat} {xs : List Int} {w : World} (h : MemAt w mb bb c xs) : Calls Tryz.prog 69 #[.pointer (some ⟨mb, 0, none⟩)] w (NewDone w xs) := by
  have hl := h.hi
  have hlo := h.lo
  have HV := Lib.hid (valid_yes h)
  have hB := h.row.bytes h.bd h.row.lt (a := 0) (n := xs.length) (by omega) (by obtain ⟨_, _, _, _, h4⟩ := h.row; exact h4) (by unfold maxLen; omega)
  rw [List.drop_zero, List.take_length] at hB
  have HX := Lib.hid (cloneM_any _ xs w hB (by omega))
  have h1 := h.cell1
  have HBD := Lib.hid h.bd
  clear h hB
  go_enter Tryz.func69, Tryz.ntmps69
  go_wp2_with (first
    | (go_at_call 132; (with_reducible refine HV.out.mono ?_); rintro e w' ⟨rfl, rfl⟩)
    | (go_at_call 58; refine HX.out.mono ?_; rintro e w1 ⟨v, rfl, hown, hbel⟩; obtain ⟨g, cap, rfl, hg, hr, hcap⟩ := owns_row hown (by omega); have HR := Lib.hid hr; have HB := Lib.hid hbel; have HCP := Lib.hid hcap; clear hown hbel hr hcap)
    | (go_at_call 133; refine (over_mem _ _ _ _).mono ?_; rintro e w' ⟨rfl, rfl⟩))
  go_ret
  exact ⟨_, _, _, rfl, MemAt.over HR.out HBD.out hlo hl HCP.out, HB.out.size, hg, HB.out.alloc HB.out.size _⟩
theorem take_eq_step {xs ys : List Int} {k : Nat} (h : xs.take k = ys.take k) (hx : k < xs.length) (hy : k < ys.length) (he : xs.getD k 0 = ys.getD k 0) : xs.take (k + 1) = ys.take (k + 1) := by
  rw [take_snoc' hx, take_snoc' hy, h, he]
theorem ne_of_getD {xs ys : List Int} {k : Nat} (he : xs.getD k 0 ≠ ys.getD k 0) : (xs == ys) = false := by
  rw [beq_eq_false_iff_ne]
  intro h
  exact he (by rw [h])
theorem drew_ret {w : World} {v : Value} (n : Nat) : Drew w v (.returned v) (w.drewN n) := ⟨rfl, n, rfl⟩
theorem equal_len (X Y : Value) (xs ys : List Int) (w : World) (B C : Nat) (hX : IsBytes w B X xs) (hY : IsBytes w C Y ys) (hne : xs.length ≠ ys.length) :
    Calls Tryz.prog 78 #[X, Y] w fun e w' => e = .returned (.bool (xs == ys)) ∧ w = w' := by
  obtain ⟨A1, c1, rfl, b1⟩ := isBytes_value hX
  obtain ⟨A2, c2, rfl, b2⟩ := isBytes_value hY
  rw [show (xs == ys) = false by rw [beq_eq_false_iff_ne]; intro h; exact hne (by rw [h])]
  have hne' : ((xs.length : Int) != (ys.length : Int)) = true := by simpa using (by omega : ¬ (xs.length : Int) = ys.length)
  have hne2 : ((xs.length : Int) == (ys.length : Int)) = false := by simpa using (by omega : ¬ (xs.length : Int) = ys.length)
  clear hX hY hne
  go_enter Tryz.func78, Tryz.ntmps78
  go_wp2
  go_ret
  exact ⟨rfl, rfl⟩
set_option maxHeartbeats 2000000 in
theorem equal_same (b1 o1 c1 b2 o2 c2 n : Nat) (xs ys : List Int) (w : World) (hn : n ≤ 9223372036854775807) (hx : xs.length = n) (hy : ys.length = n)
    (h1 : ∀ i, i < n → w.cell? ⟨b1, o1 + i, none⟩ = some (.int .u8 (xs.getD i 0))) (h2 : ∀ i, i < n → w.cell? ⟨b2, o2 + i, none⟩ = some (.int .u8 (ys.getD i 0))) (r1 : n ≤ c1) (r2 : n ≤ c2) :
    Calls Tryz.prog 78 #[.slice (some ⟨b1, o1, none⟩) n c1, .slice (some ⟨b2, o2, none⟩) n c2] w (Drew w (.bool (xs == ys))) := by
  have H1 := Lib.hid h1
  have H2 := Lib.hid h2
  have HX := Lib.hid hx
  have HY := Lib.hid hy
  clear h1 h2 hx hy
  go_enter Tryz.func78, Tryz.ntmps78
  go_wp2
  go_loopw [13] (fun i wr => ∃ k q : Nat, k ≤ n ∧ i = .int .i64 k ∧ wr = w.drewN q ∧ xs.take k = ys.take k) (fun i _ => n - (intOf i).toNat)
  case atStart => exact ⟨0, 0, by omega, rfl, rfl, rfl⟩
  case round =>
    obtain ⟨k, q, hk, rfl, rfl, ht⟩ := hrel
    have HT := Lib.hid ht
    clear ht
    by_cases hlt : k < n
    · have g1 := H1.out k hlt
      have g2 := H2.out k hlt
      obtain ⟨x, hx⟩ : ∃ x, x = xs.getD k 0 := ⟨_, rfl⟩
      obtain ⟨y, hy⟩ : ∃ y, y = ys.getD k 0 := ⟨_, rfl⟩
      rw [← hx] at g1
      rw [← hy] at g2
      have GX := Lib.hid hx
      have GY := Lib.hid hy
      clear hx hy
      have k0 : (0 : Int) ≤ (k : Int) := by omega
      have k1 : (k : Int) < (n : Int) := by omega
      by_cases he : x = y
      · subst he
        have hs := Lib.hid (take_eq_step HT.out (by rw [HX.out]; exact hlt) (by rw [HY.out]; exact hlt) (by rw [← GX.out, ← GY.out]))
        go_wp2
        go_quiet (fail)
        go_wp2
        go_roundw
        case rel => exact ⟨k + 1, _, by omega, by go_num, rfl, hs.out⟩
        case measure => simp [intOf]; omega
      · have hs := Lib.hid (ne_of_getD (xs := xs) (ys := ys) (k := k) (by rw [← GX.out, ← GY.out]; exact he))
        have hb : (x != y) = true := by simpa using he
        have hb2 : (x == y) = false := by simpa using he
        clear he
        go_wp2
        go_quiet (fail)
        go_wp2
        go_ret
        rw [hs.out]
        exact ⟨rfl, _, World.drewN_drewN _ _ _⟩
    · obtain rfl : k = n := by omega
      go_wp2
      go_ret
      have e : (xs == ys) = true := by
        have := HT.out
        rw [List.take_of_length_le (by have := HX.out; omega), List.take_of_length_le (by have := HY.out; omega)] at this
        rw [this]
        exact beq_self_eq_true _
      rw [e]
      exact drew_ret q
theorem equal_any (X Y : Value) (xs ys : List Int) (w : World) (B C : Nat) (hX : IsBytes w B X xs) (hY : IsBytes w C Y ys) (hp : 0 < xs.length) :
    Calls Tryz.prog 78 #[X, Y] w (Drew w (.bool (xs == ys))) := by
  by_cases he : xs.length = ys.length
  · obtain ⟨b1, o1, c1, rfl, r1, _, g1⟩ := hX.plain hp
    obtain ⟨b2, o2, c2, rfl, r2, _, g2⟩ := hY.plain (by omega)
    have hm := hX.2.1
    unfold maxLen at hm
    rw [← he] at g2 r2 ⊢
    exact equal_same b1 o1 c1 b2 o2 c2 xs.length xs ys w (by omega) rfl he.symm g1 g2 r1 r2
  · exact (equal_len X Y xs ys w B C hX hY he).mono fun e w' ⟨h1, h2⟩ => by subst h2; exact ⟨h1, 0, rfl⟩
theorem MemAt.whole {w : World} {mb bb c : Nat} {xs : List Int} (h : MemAt w mb bb c xs) : IsBytes w w.heap.size (.slice (some ⟨bb, 0, none⟩) xs.length c) xs := by
  have hl := h.hi
  have hB := h.row.bytes h.bd h.row.lt (a := 0) (n := xs.length) (by omega) (by obtain ⟨_, _, _, _, h4⟩ := h.row; exact h4) (by unfold maxLen; omega)
  rw [List.drop_zero, List.take_length] at hB
  exact hB
set_option maxHeartbeats 1000000 in
theorem same_yes {ma ba ca mb bb cb : Nat} {xs ys : List Int} {w : World} (h : MemAt w ma ba ca xs) (k : MemAt w mb bb cb ys) :
    Calls Tryz.prog 80 #[.pointer (some ⟨ma, 0, none⟩), .pointer (some ⟨mb, 0, none⟩)] w (Drew w (.bool (xs == ys))) := by
  have h1 := h.cell1
  have k1 := k.cell1
  have HV := Lib.hid (fun n => valid_yes (h.drewN n))
  have KV := Lib.hid (fun n => valid_yes (k.drewN n))
  have HE := Lib.hid (fun n => equal_any _ _ xs ys (w.drewN n) _ _ (h.whole.drewM n) (k.whole.drewM n) (by have := h.lo; omega))
  obtain ⟨b, hb⟩ : ∃ b, b = (xs == ys) := ⟨_, rfl⟩
  rw [← hb] at HE ⊢
  clear h k hb
  go_enter Tryz.func80, Tryz.ntmps80
  go_wp2_with fail
  go_quiet ((first
    | (go_at_call 132; with_reducible exact quiet_left (HV.out _))
    | (go_at_call 132; with_reducible exact quiet_left (KV.out _))
    | (go_at_call 78; with_reducible exact quiet_drew (HE.out _))))
  go_wp2
  go_ret
  exact ⟨rfl, _, rfl⟩
end Go.Proofs.YtkfdgpgildanbaaGreat
