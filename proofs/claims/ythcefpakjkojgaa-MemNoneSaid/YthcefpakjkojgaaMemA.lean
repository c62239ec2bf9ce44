/- What a memory of package mem is in the model (two blocks), and what its smallest functions return: contracts for any memory, any place and any number, in whatever memory of the program. -/
import Derived.Test.YthcefpakjkojgaaRows
import Derived.Test.YthcefpakjkojgaaPutGet
import Derived.Test.YthcefpakjkojgaaBut
import Derived.WalkKit
import Derived.WalkSpells
import Derived.WalkLawsBesides
import Derived.ProofKit
import Derived.Lib.Hide
import Derived.LaidEqlPtr
namespace Go.Proofs.Ythcefpakjkojgaa
open Go.RowKit
set_option linter.unusedVariables false

/-- A memory: a block that leads to itself and to its bytes, and the block of its bytes. -/
structure MemAt (w : World) (mb bb c : Nat) (xs : List Int) : Prop where
  head : w.heap[mb]? = some (.cells #[.pointer (some ⟨mb, 0, none⟩), .slice (some ⟨bb, 0, none⟩) xs.length c] 44 (0, 0))
  row : Row 5 w bb c xs
  bd : ∀ x ∈ xs, 0 ≤ x ∧ x < 256
  lo : 16 ≤ xs.length
  hi : xs.length ≤ 65536
  cap : c ≤ maxLen
theorem MemAt.ne {w : World} {mb bb c : Nat} {xs : List Int} (h : MemAt w mb bb c xs) : mb ≠ bb := by
  intro e
  subst e
  obtain ⟨cur, h1, _⟩ := h.row
  rw [h.head] at h1
  injection h1 with h1
  injection h1 with _ h1 _
  exact absurd h1 (by decide)
theorem MemAt.cell0 {w : World} {mb bb c : Nat} {xs : List Int} (h : MemAt w mb bb c xs) : w.cell? ⟨mb, 0, none⟩ = some (.pointer (some ⟨mb, 0, none⟩)) := by
  rw [cell_of_row w mb 0 _ _ _ h.head]; rfl
theorem MemAt.cell1 {w : World} {mb bb c : Nat} {xs : List Int} (h : MemAt w mb bb c xs) : w.cell? ⟨mb, 1, none⟩ = some (.slice (some ⟨bb, 0, none⟩) xs.length c) := by
  rw [cell_of_row w mb 1 _ _ _ h.head]; rfl
theorem MemAt.but {w w' : World} {mb bb c : Nat} {xs : List Int} {R : Nat → Prop} (h : MemAt w mb bb c xs) (hb : But R w w') (h1 : ¬ R mb) (h2 : ¬ R bb) : MemAt w' mb bb c xs :=
  ⟨hb.heap h.head h1, h.row.but hb h2, h.bd, h.lo, h.hi, h.cap⟩
theorem MemAt.lt {w : World} {mb bb c : Nat} {xs : List Int} (h : MemAt w mb bb c xs) : mb < w.heap.size ∧ bb < w.heap.size := ⟨heap_lt h.head, h.row.lt⟩
theorem MemAt.alloc {w : World} {mb bb c : Nat} {xs : List Int} (h : MemAt w mb bb c xs) (o : Obj) : MemAt (w.alloc o) mb bb c xs := h.but ((But.refl NoBlock _).alloc _) (noBlock_not _) (noBlock_not _)
theorem MemAt.below {w w' : World} {mb bb c : Nat} {xs : List Int} (h : MemAt w mb bb c xs) (hb : Below w.heap.size w w') : MemAt w' mb bb c xs := h.but (But.of_below (R := NoBlock) hb) (noBlock_not _) (noBlock_not _)
/-- No memory: nil, or one that nobody made. -/
def NoMem (w : World) (p : Value) : Prop := p = .pointer none ∨ ∃ b, p = .pointer (some ⟨b, 0, none⟩) ∧ w.cell? ⟨b, 0, none⟩ = some (.pointer none)

/-- What is wrong with an access to bytes, to a number. -/
def accE (size at' n : Int) : Int := if n < 0 then 2 else if at' < 16 ∨ size < at' ∨ size - at' < n then 15 else 0
def numE (size at' n : Int) : Int := if sizedB n = true then accE size at' n else 2
theorem accE_ok {size at' n : Int} (h0 : 0 ≤ n) (h1 : 16 ≤ at') (h2 : at' ≤ size) (h3 : n ≤ size - at') : accE size at' n = 0 := by unfold accE; rw [if_neg (by omega), if_neg (by omega)]
theorem accE_zero {size at' n : Int} (h : accE size at' n = 0) : 0 ≤ n ∧ 16 ≤ at' ∧ at' ≤ size ∧ n ≤ size - at' := by
  unfold accE at h
  split at h
  · omega
  · split at h <;> omega
theorem numE_zero {size at' n : Int} (h : numE size at' n = 0) : sizedB n = true ∧ 0 ≤ n ∧ 16 ≤ at' ∧ at' ≤ size ∧ n ≤ size - at' := by
  unfold numE at h
  split at h
  · exact ⟨by assumption, accE_zero h⟩
  · omega

theorem mem_info : ∃ j, Try.prog.info? 44 = some j := Option.isSome_iff_exists.1 (by kernel_rfl)
theorem eql_self (a : Addr) (w : World) : (binOp .eql 25 (.pointer (some a)) (.pointer (some a))).run Try.prog w = .ok (.bool true) w := by
  obtain ⟨j, hj⟩ := mem_info
  exact run_eql_ptr_same w a Try.underlying25 hj
theorem eql_nil_some (a : Addr) (w : World) : (binOp .eql 25 (.pointer none) (.pointer (some a))).run Try.prog w = .ok (.bool false) w := by
  have h : ∀ d : Nat, (Op.equalIn (d + 1) 25 (.pointer none) (.pointer (some a))).run Try.prog w = .ok false w := fun d => by
    simp [Op.equalIn, run_underlying Try.underlying25]
  simp only [binOp]
  simp [Op.equal, Op.maxDepth, h 9999]

theorem valid_yes {mb bb c : Nat} {xs : List Int} {w : World} (h : MemAt w mb bb c xs) :
    Calls Try.prog 28 #[.pointer (some ⟨mb, 0, none⟩)] w fun e w' => e = .returned (.bool true) ∧ w = w' := by
  have h0 := h.cell0
  have he := eql_self
  clear h
  go_enter Try.func28, Try.ntmps28
  go_wp2
  go_ret
  exact ⟨rfl, rfl⟩
theorem valid_no {p : Value} {w : World} (h : NoMem w p) :
    Calls Try.prog 28 #[p] w fun e w' => e = .returned (.bool false) ∧ w = w' := by
  rcases h with rfl | ⟨b, rfl, h⟩
  · go_enter Try.func28, Try.ntmps28
    go_wp2
    go_ret
    exact ⟨rfl, rfl⟩
  · have he := eql_nil_some
    go_enter Try.func28, Try.ntmps28
    go_wp2
    go_ret
    exact ⟨rfl, rfl⟩
theorem size_yes {mb bb c : Nat} {xs : List Int} {w : World} (h : MemAt w mb bb c xs) :
    Calls Try.prog 14 #[.pointer (some ⟨mb, 0, none⟩)] w fun e w' => e = .returned (.int .i64 xs.length) ∧ w = w' := by
  have hv := Lib.hid (valid_yes h)
  have h0 := h.cell1
  clear h
  go_enter Try.func14, Try.ntmps14
  go_wp2_with (go_at_call 28; (with_reducible refine hv.out.mono ?_); rintro e w' ⟨rfl, rfl⟩)
  go_ret
  exact ⟨rfl, rfl⟩
theorem size_no {p : Value} {w : World} (h : NoMem w p) :
    Calls Try.prog 14 #[p] w fun e w' => e = .returned (.int .i64 0) ∧ w = w' := by
  have hv := Lib.hid (valid_no h)
  clear h
  go_enter Try.func14, Try.ntmps14
  go_wp2_with (go_at_call 28; (with_reducible refine hv.out.mono ?_); rintro e w' ⟨rfl, rfl⟩)
  go_ret
  exact ⟨rfl, rfl⟩

theorem checkBytes_any {mb bb c : Nat} {xs : List Int} {w : World} (h : MemAt w mb bb c xs) (a n : Int) (ha : 0 ≤ a) (ha' : a < 18446744073709551616) (hn' : n < 9223372036854775808) :
    Calls Try.prog 42 #[.pointer (some ⟨mb, 0, none⟩), .int .u64 a, .int .i64 n] w fun e w' => e = .returned (.int .i64 (accE xs.length a n)) ∧ w = w' := by
  have h1 := h.cell1
  have hl := h.hi
  obtain ⟨L, hL⟩ : ∃ L, L = xs.length := ⟨_, rfl⟩
  rw [← hL] at h1 hl ⊢
  clear h hL
  by_cases c1 : n < 0
  · rw [show accE L a n = 2 by unfold accE; rw [if_pos c1]]
    go_enter Try.func42, Try.ntmps42
    go_wp2
    go_ret
    exact ⟨rfl, rfl⟩
  have c1' : 0 ≤ n := by omega
  by_cases c2 : a < 16
  · rw [show accE L a n = 15 by unfold accE; rw [if_neg c1, if_pos (by omega)]]
    clear c1
    go_enter Try.func42, Try.ntmps42
    go_wp2
    go_ret
    exact ⟨rfl, rfl⟩
  by_cases c3 : (L : Int) < a
  · rw [show accE L a n = 15 by unfold accE; rw [if_neg c1, if_pos (by omega)]]
    have c2' : 16 ≤ a := by omega
    clear c1 c2
    go_enter Try.func42, Try.ntmps42
    go_wp2
    go_ret
    exact ⟨rfl, rfl⟩
  have c2' : 16 ≤ a := by omega
  have c3' : a ≤ (L : Int) := by omega
  by_cases c4 : (L : Int) - a < n
  · rw [show accE L a n = 15 by unfold accE; rw [if_neg c1, if_pos (by omega)]]
    clear c1 c2 c3
    go_enter Try.func42, Try.ntmps42
    go_wp2
    go_ret
    exact ⟨rfl, rfl⟩
  rw [show accE L a n = 0 by unfold accE; rw [if_neg c1, if_neg (by omega)]]
  have c4' : n ≤ (L : Int) - a := by omega
  clear c1 c2 c3 c4
  go_enter Try.func42, Try.ntmps42
  go_wp2
  go_ret
  exact ⟨rfl, rfl⟩
end Go.Proofs.Ythcefpakjkojgaa
