/- The fields of a form: closures over shifts: what each puts into a word, and takes of one. Contracts; conditions: the numbers that each is made with are the small ones that the program makes it with. -/
import Derived.Test.YtcglfbjfllohjaaRows
import Derived.Test.YtcglfbjfllohjaaMath01
import Derived.Test.YtcglfbjfllohjaaBut
import Derived.WalkKit
import Derived.WalkSpells
import Derived.WalkLawsBesides
import Derived.Laws.EntriesVeiled
import Derived.BigQuiet
import Derived.Deep.QuietTactic
import Derived.ProofKit
import Derived.Lib.Hide
namespace Go.Proofs.Ytcglfbjfllohjaa
open Go.RowKit
set_option linter.unusedVariables false

/-- A field: which number, from which of its bits, how many bits (none: all above, the sign), where they stand. -/
structure Fd where
  of : Nat
  fr : Nat
  sz : Nat
  at' : Nat
structure Fd.ok (F : Fd) : Prop where
  of : F.of < 4
  fr : F.fr < 32
  at' : F.at' < 32
  sz : F.sz + F.at' ≤ 32
  top : F.sz + F.fr ≤ 32
def Fd.put (F : Fd) (n : Int) : Int := if F.sz = 0 then n / 2 ^ F.fr % 4294967296 * 2 ^ F.at' % 4294967296 else n / 2 ^ F.fr % 2 ^ F.sz * 2 ^ F.at'
def Fd.take (F : Fd) (w : Int) : Int := if F.sz = 0 then wrap32 w / 2 ^ F.at' * 2 ^ F.fr else w / 2 ^ F.at' % 2 ^ F.sz * 2 ^ F.fr

theorem two_pow_pos (k : Nat) : (0 : Int) < 2 ^ k := Int.pow_pos (by decide)
theorem two_pow_le {a b : Nat} (h : a ≤ b) : (2 : Int) ^ a ≤ 2 ^ b := by
  have : (2 : Nat) ^ a ≤ 2 ^ b := Nat.pow_le_pow_right (by decide) h
  exact_mod_cast this
theorem two_pow_32 {a : Nat} (h : a ≤ 32) : (2 : Int) ^ a ≤ 4294967296 := two_pow_le (b := 32) h
theorem pow_add' (a b : Nat) : (2 : Int) ^ a * 2 ^ b = 2 ^ (a + b) := (Int.pow_add 2 a b).symm
theorem mod_mul_lt {x : Int} {a b c : Nat} (h : a + b ≤ c) : 0 ≤ x % 2 ^ a * 2 ^ b ∧ x % 2 ^ a * 2 ^ b < 2 ^ c := by
  have h1 := Int.emod_nonneg x (by have := two_pow_pos a; omega : (2 : Int) ^ a ≠ 0)
  have h2 := Int.emod_lt_of_pos x (two_pow_pos a)
  have h3 := two_pow_pos b
  have h4 := two_pow_le h
  rw [← pow_add'] at h4
  refine ⟨Int.mul_nonneg h1 (by omega), ?_⟩
  have : x % 2 ^ a * 2 ^ b < 2 ^ a * 2 ^ b := Int.mul_lt_mul_of_pos_right h2 h3
  omega
theorem and_mask {x : Int} {k : Nat} (h : k ≤ 32) (hx : 0 ≤ x) (hx' : x < 4294967296) : bits .and .u32 x (2 ^ k - 1) = x % 2 ^ k := by
  have hp := two_pow_pos k
  have hl := two_pow_32 h
  rw [u32_and x (2 ^ k - 1) hx hx' (by omega) (by omega)]
  have e : ((2 : Int) ^ k - 1).toNat = 2 ^ k - 1 := by
    have : ((2 : Int) ^ k) = ((2 ^ k : Nat) : Int) := by simp
    rw [this]
    omega
  rw [e, Nat.and_two_pow_sub_one_eq_mod, Int.natCast_emod, Int.toNat_of_nonneg hx]
  simp
theorem Fd.put_bd (F : Fd) (h : F.ok) (n : Int) : 0 ≤ F.put n ∧ F.put n < 4294967296 := by
  unfold Fd.put
  split
  · omega
  · exact mod_mul_lt (c := 32) h.sz
theorem wrap32_bd (n : Int) : -2147483648 ≤ wrap32 n ∧ wrap32 n < 2147483648 := by unfold wrap32; omega
theorem div_bd {x : Int} {b : Int} (k : Nat) (h : -b ≤ x) (h' : x < b) (hb : 0 ≤ b) : -b ≤ x / 2 ^ k ∧ x / 2 ^ k < b := by
  have hp := two_pow_pos k
  constructor
  · rw [Int.le_ediv_iff_mul_le hp]
    have : b * 1 ≤ b * 2 ^ k := Int.mul_le_mul_of_nonneg_left (by omega) hb
    rw [Int.neg_mul]
    omega
  · rw [Int.ediv_lt_iff_lt_mul hp]
    have : b * 1 ≤ b * 2 ^ k := Int.mul_le_mul_of_nonneg_left (by omega) hb
    omega
theorem Fd.take_bd (F : Fd) (h : F.ok) (w : Int) : -9223372036854775808 ≤ F.take w ∧ F.take w < 9223372036854775808 := by
  unfold Fd.take
  split
  · have h1 := wrap32_bd w
    have h2 := div_bd F.at' h1.1 h1.2 (by omega)
    have h3 := two_pow_pos F.fr
    have h4 := two_pow_32 (Nat.le_of_lt h.fr)
    have h5 : -2147483648 * 2 ^ F.fr ≤ wrap32 w / 2 ^ F.at' * 2 ^ F.fr := Int.mul_le_mul_of_nonneg_right h2.1 (by omega)
    have h6 : wrap32 w / 2 ^ F.at' * 2 ^ F.fr < 2147483648 * 2 ^ F.fr := Int.mul_lt_mul_of_pos_right h2.2 h3
    omega
  · have := mod_mul_lt (x := w / 2 ^ F.at') (a := F.sz) (b := F.fr) (c := 32) h.top
    omega

section
variable (F : Fd) (w : World) (n : Int) (pf pm pa : Nat)
theorem toNat_of (k : Nat) : ((k : Nat) : Int).toNat = k := rfl
theorem part1_any (h : F.ok) (hz : 0 < F.sz) (hn : -9223372036854775808 ≤ n) (hn' : n < 9223372036854775808)
    (cf : w.cell? ⟨pf, 0, none⟩ = some (.int .i64 F.fr)) (cm : w.cell? ⟨pm, 0, none⟩ = some (.int .u32 (2 ^ F.sz - 1))) (ca : w.cell? ⟨pa, 0, none⟩ = some (.int .i64 F.at')) :
    Calls Try.prog 42 #[.int .i64 n, .pointer (some ⟨pf, 0, none⟩), .pointer (some ⟨pm, 0, none⟩), .pointer (some ⟨pa, 0, none⟩)] w fun e w' => e = .returned (.int .u32 (F.put n)) ∧ ∃ m, w' = w.drewN m := by
  have hv : bits .and .u32 (n / 2 ^ F.fr % 4294967296) (2 ^ F.sz - 1) * 2 ^ F.at' % 4294967296 = F.put n := by
    unfold Fd.put
    rw [if_neg (by omega), and_mask (by have := h.sz; omega) (by omega) (by omega)]
    have e : n / 2 ^ F.fr % 4294967296 % 2 ^ F.sz = n / 2 ^ F.fr % 2 ^ F.sz := Int.emod_emod_of_dvd _ (by
      have : (2 : Int) ^ 32 = 2 ^ F.sz * 2 ^ (32 - F.sz) := by rw [pow_add']; congr 1; have := h.sz; omega
      exact ⟨2 ^ (32 - F.sz), by rw [← this]; rfl⟩)
    rw [e]
    have := mod_mul_lt (x := n / 2 ^ F.fr) (a := F.sz) (b := F.at') (c := 32) h.sz
    exact Int.emod_eq_of_lt this.1 this.2
  have HV := Lib.hid hv
  obtain ⟨M, hM⟩ : ∃ M : Int, M = 2 ^ F.sz - 1 := ⟨_, rfl⟩
  have hm1 : 0 ≤ M := by have := two_pow_pos F.sz; omega
  have hm2 : M < 4294967296 := by have := two_pow_32 (a := F.sz) (by have := h.sz; omega); omega
  rw [← hM] at cm
  have h1 : (0 : Int) ≤ (F.fr : Int) := by omega
  have h2 : (F.fr : Int) < 32 := by have := h.fr; omega
  have h3 : (0 : Int) ≤ (F.at' : Int) := by omega
  have h4 : (F.at' : Int) < 32 := by have := h.at'; omega
  have HM := Lib.hid hM
  clear hv hM h
  go_enter Try.func42, Try.ntmps42
  go_wp2
  go_quiet (fail)
  go_wp2
  go_ret
  exact ⟨ret_int (by rw [HM.out]; exact HV.out), _, rfl⟩
theorem part2_any (h : F.ok) (hz : 0 < F.sz) (hn : 0 ≤ n) (hn' : n < 4294967296)
    (cf : w.cell? ⟨pf, 0, none⟩ = some (.int .i64 F.fr)) (cm : w.cell? ⟨pm, 0, none⟩ = some (.int .u32 (2 ^ F.sz - 1))) (ca : w.cell? ⟨pa, 0, none⟩ = some (.int .i64 F.at')) :
    Calls Try.prog 43 #[.int .u32 n, .pointer (some ⟨pa, 0, none⟩), .pointer (some ⟨pm, 0, none⟩), .pointer (some ⟨pf, 0, none⟩)] w fun e w' => e = .returned (.int .i64 (F.take n)) ∧ ∃ m, w' = w.drewN m := by
  have hd : 0 ≤ n / 2 ^ F.at' ∧ n / 2 ^ F.at' < 4294967296 := by
    have h1 := two_pow_pos F.at'
    exact ⟨Int.ediv_nonneg hn (by omega), Int.lt_of_le_of_lt (Int.ediv_le_self _ hn) hn'⟩
  have hv : wrap64 (wrap64 (bits .and .u32 (n / 2 ^ F.at') (2 ^ F.sz - 1)) * 2 ^ F.fr) = F.take n := by
    have hb := F.take_bd h n
    unfold Fd.take at hb ⊢
    rw [if_neg (by omega)] at hb ⊢
    rw [and_mask (by have := h.sz; omega) hd.1 hd.2]
    have h5 := mod_mul_lt (x := n / 2 ^ F.at') (a := F.sz) (b := 0) (c := 32) (by have := h.sz; omega)
    rw [Int.pow_zero, Int.mul_one] at h5
    rw [IntWalk.wrap64_in (n / 2 ^ F.at' % 2 ^ F.sz) ⟨by omega, by omega⟩]
    exact IntWalk.wrap64_in _ ⟨by omega, by omega⟩
  have HV := Lib.hid hv
  obtain ⟨M, hM⟩ : ∃ M : Int, M = 2 ^ F.sz - 1 := ⟨_, rfl⟩
  have hm1 : 0 ≤ M := by have := two_pow_pos F.sz; omega
  have hm2 : M < 4294967296 := by have := two_pow_32 (a := F.sz) (by have := h.sz; omega); omega
  rw [← hM] at cm
  have h1 : (0 : Int) ≤ (F.fr : Int) := by omega
  have h2 : (F.fr : Int) < 32 := by have := h.fr; omega
  have h3 : (0 : Int) ≤ (F.at' : Int) := by omega
  have h4 : (F.at' : Int) < 32 := by have := h.at'; omega
  have HM := Lib.hid hM
  clear hv hM h hd
  go_enter Try.func43, Try.ntmps43
  go_wp2
  go_quiet (fail)
  go_wp2
  go_ret
  exact ⟨ret_int (by rw [HM.out]; exact HV.out), _, rfl⟩
theorem top1_any (h : F.ok) (hz : F.sz = 0) (hn : -9223372036854775808 ≤ n) (hn' : n < 9223372036854775808)
    (cf : w.cell? ⟨pf, 0, none⟩ = some (.int .i64 F.fr)) (ca : w.cell? ⟨pa, 0, none⟩ = some (.int .i64 F.at')) :
    Calls Try.prog 44 #[.int .i64 n, .pointer (some ⟨pf, 0, none⟩), .pointer (some ⟨pa, 0, none⟩)] w fun e w' => e = .returned (.int .u32 (F.put n)) ∧ ∃ m, w' = w.drewN m := by
  have hv : n / 2 ^ F.fr % 4294967296 * 2 ^ F.at' % 4294967296 = F.put n := by
    unfold Fd.put
    rw [if_pos hz]
  have HV := Lib.hid hv
  have h1 : (0 : Int) ≤ (F.fr : Int) := by omega
  have h2 : (F.fr : Int) < 32 := by have := h.fr; omega
  have h3 : (0 : Int) ≤ (F.at' : Int) := by omega
  have h4 : (F.at' : Int) < 32 := by have := h.at'; omega
  clear hv h hz
  go_enter Try.func44, Try.ntmps44
  go_wp2
  go_quiet (fail)
  go_wp2
  go_ret
  exact ⟨ret_int HV.out, _, rfl⟩
theorem top2_any (h : F.ok) (hz : F.sz = 0) (hn : 0 ≤ n) (hn' : n < 4294967296)
    (cf : w.cell? ⟨pf, 0, none⟩ = some (.int .i64 F.fr)) (ca : w.cell? ⟨pa, 0, none⟩ = some (.int .i64 F.at')) :
    Calls Try.prog 45 #[.int .u32 n, .pointer (some ⟨pa, 0, none⟩), .pointer (some ⟨pf, 0, none⟩)] w fun e w' => e = .returned (.int .i64 (F.take n)) ∧ ∃ m, w' = w.drewN m := by
  have hv : wrap64 (wrap64 (wrap32 n / 2 ^ F.at') * 2 ^ F.fr) = F.take n := by
    have hb := F.take_bd h n
    unfold Fd.take at hb ⊢
    rw [if_pos hz] at hb ⊢
    have h1 := wrap32_bd n
    have h5 := div_bd F.at' h1.1 h1.2 (by omega)
    rw [IntWalk.wrap64_in (wrap32 n / 2 ^ F.at') ⟨by omega, by omega⟩]
    exact IntWalk.wrap64_in _ ⟨by omega, by omega⟩
  have HV := Lib.hid hv
  have h1 : (0 : Int) ≤ (F.fr : Int) := by omega
  have h2 : (F.fr : Int) < 32 := by have := h.fr; omega
  have h3 : (0 : Int) ≤ (F.at' : Int) := by omega
  have h4 : (F.at' : Int) < 32 := by have := h.at'; omega
  clear hv h hz
  go_enter Try.func45, Try.ntmps45
  go_wp2
  go_quiet (fail)
  go_wp2
  go_ret
  exact ⟨ret_int HV.out, _, rfl⟩
end

/-- Two closures that are a field's, in a world. -/
def IsPart (w : World) (A B : Nat) (F : Fd) (v1 v2 : Value) : Prop :=
  ∃ pf pm pa : Nat, (A ≤ pf ∧ pf < B) ∧ (A ≤ pm ∧ pm < B) ∧ (A ≤ pa ∧ pa < B) ∧ v1 = .func (.func 42) #[] #[.pointer (some ⟨pf, 0, none⟩), .pointer (some ⟨pm, 0, none⟩), .pointer (some ⟨pa, 0, none⟩)] ∧
    v2 = .func (.func 43) #[] #[.pointer (some ⟨pa, 0, none⟩), .pointer (some ⟨pm, 0, none⟩), .pointer (some ⟨pf, 0, none⟩)] ∧
    w.cell? ⟨pf, 0, none⟩ = some (.int .i64 F.fr) ∧ w.cell? ⟨pm, 0, none⟩ = some (.int .u32 (2 ^ F.sz - 1)) ∧ w.cell? ⟨pa, 0, none⟩ = some (.int .i64 F.at')
def IsTop (w : World) (A B : Nat) (F : Fd) (v1 v2 : Value) : Prop :=
  ∃ pf pa : Nat, (A ≤ pf ∧ pf < B) ∧ (A ≤ pa ∧ pa < B) ∧ v1 = .func (.func 44) #[] #[.pointer (some ⟨pf, 0, none⟩), .pointer (some ⟨pa, 0, none⟩)] ∧
    v2 = .func (.func 45) #[] #[.pointer (some ⟨pa, 0, none⟩), .pointer (some ⟨pf, 0, none⟩)] ∧
    w.cell? ⟨pf, 0, none⟩ = some (.int .i64 F.fr) ∧ w.cell? ⟨pa, 0, none⟩ = some (.int .i64 F.at')
structure IsFd (w : World) (A B : Nat) (F : Fd) (v1 v2 : Value) : Prop where
  ok : F.ok
  how : (0 < F.sz ∧ IsPart w A B F v1 v2) ∨ (F.sz = 0 ∧ IsTop w A B F v1 v2)
theorem IsFd.of_cells {w w' : World} {A B : Nat} {F : Fd} {v1 v2 : Value} (h : IsFd w A B F v1 v2) (hc : ∀ k, A ≤ k → k < B → w'.cell? ⟨k, 0, none⟩ = w.cell? ⟨k, 0, none⟩) : IsFd w' A B F v1 v2 := by
  refine ⟨h.ok, ?_⟩
  rcases h.how with ⟨h0, pf, pm, pa, l1, l2, l3, e1, e2, c1, c2, c3⟩ | ⟨h0, pf, pa, l1, l3, e1, e2, c1, c3⟩
  · exact .inl ⟨h0, pf, pm, pa, l1, l2, l3, e1, e2, by rw [hc _ l1.1 l1.2]; exact c1, by rw [hc _ l2.1 l2.2]; exact c2, by rw [hc _ l3.1 l3.2]; exact c3⟩
  · exact .inr ⟨h0, pf, pa, l1, l3, e1, e2, by rw [hc _ l1.1 l1.2]; exact c1, by rw [hc _ l3.1 l3.2]; exact c3⟩
theorem IsFd.below {w w' : World} {A B B' : Nat} {F : Fd} {v1 v2 : Value} (h : IsFd w A B F v1 v2) (hb : Below B' w w') (hB : B ≤ B') : IsFd w' A B F v1 v2 :=
  h.of_cells fun k _ hk => hb.cell (p := ⟨k, 0, none⟩) (show k < B' by omega)
theorem IsFd.more {w : World} {A A' B B' : Nat} {F : Fd} {v1 v2 : Value} (h : IsFd w A B F v1 v2) (hB : B ≤ B') (hA : A' ≤ A) : IsFd w A' B' F v1 v2 := by
  refine ⟨h.ok, ?_⟩
  rcases h.how with ⟨h0, pf, pm, pa, l1, l2, l3, e⟩ | ⟨h0, pf, pa, l1, l3, e⟩
  · exact .inl ⟨h0, pf, pm, pa, by omega, by omega, by omega, e⟩
  · exact .inr ⟨h0, pf, pa, by omega, by omega, e⟩
/-- A field is made. -/
def FdDone (w : World) (F : Fd) (e : Ending) (w' : World) : Prop :=
  ∃ v1 v2, e = .returned (.agg #[.int .i64 F.of, v1, v2]) ∧ IsFd w' w.heap.size w'.heap.size F v1 v2 ∧ Below w.heap.size w w'
set_option maxHeartbeats 1000000 in
theorem part_any (F : Fd) (w : World) (h : F.ok) (hz : 0 < F.sz) :
    Calls Try.prog 36 #[.int .i64 F.of, .int .i64 F.fr, .int .i64 F.sz, .int .i64 F.at'] w (FdDone w F) := by
  have hm : (2 ^ F.sz % 4294967296 - 1) % 4294967296 = (2 : Int) ^ F.sz - 1 := by
    have h1 := two_pow_pos F.sz
    have h2 := two_pow_32 (a := F.sz) (by have := h.sz; omega)
    omega
  have HM := Lib.hid hm
  have h1 : (F.fr : Int) < 32 := by have := h.fr; omega
  have h2 : (F.at' : Int) < 32 := by have := h.at'; omega
  have h3 : (F.of : Int) < 4 := by have := h.of; omega
  have h4 : (F.sz : Int) ≤ 32 := by have := h.sz; omega
  have HF := Lib.hid h
  clear hm h
  go_enter Try.func36, Try.ntmps36
  go_wp2
  have hs : ∀ (w : World) (o : Obj), (w.alloc o).heap.size = w.heap.size + 1 := fun w o => by simp
  refine bodyPost_ret (v := .agg #[.int .i64 F.of, .func (.func 42) #[] #[.pointer (some ⟨w.heap.size, 0, none⟩), .pointer (some ⟨w.heap.size + 1 + 1 + 1, 0, none⟩), .pointer (some ⟨w.heap.size + 1, 0, none⟩)],
      .func (.func 43) #[] #[.pointer (some ⟨w.heap.size + 1, 0, none⟩), .pointer (some ⟨w.heap.size + 1 + 1 + 1, 0, none⟩), .pointer (some ⟨w.heap.size, 0, none⟩)]])
    (by simp [results, Try.results36, go_sem]) rfl ⟨_, _, rfl, ⟨HF.out, .inl ⟨hz, w.heap.size, w.heap.size + 1 + 1 + 1, w.heap.size + 1, ⟨by omega, by simp <;> omega⟩, ⟨by omega, by simp⟩, ⟨by omega, by simp <;> omega⟩, rfl, rfl, by go_simp, ?_, by go_simp⟩⟩, ?_⟩
  · have e : (2 ^ F.sz - 1) % 4294967296 = (2 : Int) ^ F.sz - 1 := by
      have h1 := two_pow_pos F.sz
      have h2 := two_pow_32 (a := F.sz) (by omega)
      omega
    rw [e]
    go_simp
  · exact (((((Below.refl _ _).alloc (Nat.le_refl _) _).alloc (by simp) _).alloc (by simp <;> omega) _).alloc (by simp <;> omega) _)
set_option maxHeartbeats 1000000 in
theorem top_any (F : Fd) (w : World) (h : F.ok) (hz : F.sz = 0) (h3 : F.of = 3) :
    Calls Try.prog 37 #[.int .i64 F.fr, .int .i64 F.at'] w (FdDone w F) := by
  have HF := Lib.hid h
  have H3 := Lib.hid h3
  clear h h3
  go_enter Try.func37, Try.ntmps37
  go_wp2
  refine bodyPost_ret (v := .agg #[.int .i64 3, .func (.func 44) #[] #[.pointer (some ⟨w.heap.size, 0, none⟩), .pointer (some ⟨w.heap.size + 1, 0, none⟩)],
      .func (.func 45) #[] #[.pointer (some ⟨w.heap.size + 1, 0, none⟩), .pointer (some ⟨w.heap.size, 0, none⟩)]])
    (by simp [results, Try.results37, go_sem]) rfl ⟨_, _, by rw [H3.out]; rfl, ⟨HF.out, .inr ⟨hz, w.heap.size, w.heap.size + 1, ⟨by omega, by simp <;> omega⟩, ⟨by omega, by simp⟩, rfl, rfl, by go_simp, by go_simp⟩⟩, ?_⟩
  exact ((((Below.refl _ _).alloc (Nat.le_refl _) _).alloc (by simp) _).alloc (by simp <;> omega) _)
end Go.Proofs.Ytcglfbjfllohjaa
