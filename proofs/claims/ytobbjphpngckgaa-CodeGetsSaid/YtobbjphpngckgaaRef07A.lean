/- The document's own width, register, field, fault of layer 7. Contracts; no condition but that a register's number is one of three. -/
import Derived.Test.YtobbjphpngckgaaCode07K
import Derived.Test.YtobbjphpngckgaaRefPG07
import Derived.Test.YtobbjphpngckgaaMathC06
namespace Go.Proofs.Ytobbjphpngckgaa
open Go.RowKit Go.Shelf
set_option linter.unusedVariables false
set_option linter.unusedSimpArgs false

def rwidthV (q : Int) : Nat := if q = 108 then 0 else widthV q
theorem rwidth_any (q : Int) (w : World) : Calls Try.prog 42 #[.int .u8 q] w fun e w' => e = .returned (.int .i64 (rwidthV q)) ∧ w = w' := by
  by_cases h105 : q = 105
  · subst h105
    go_enter Try.func42, Try.ntmps42
    go_wp2
    go_ret
    exact ⟨rfl, rfl⟩
  by_cases h102 : q = 102
  · subst h102
    go_enter Try.func42, Try.ntmps42
    go_wp2
    go_ret
    exact ⟨rfl, rfl⟩
  by_cases h100 : q = 100
  · subst h100
    go_enter Try.func42, Try.ntmps42
    go_wp2
    go_ret
    exact ⟨rfl, rfl⟩
  by_cases h116 : q = 116
  · subst h116
    go_enter Try.func42, Try.ntmps42
    go_wp2
    go_ret
    exact ⟨rfl, rfl⟩
  by_cases h108 : q = 108
  · subst h108
    go_enter Try.func42, Try.ntmps42
    go_wp2
    go_ret
    exact ⟨rfl, rfl⟩
  have hw : rwidthV q = 1 := by unfold rwidthV widthV; rw [if_neg h108, if_neg h105, if_neg h102, if_neg h100, if_neg h116]
  rw [hw]
  have e105 : (q == 105) = false := by simpa using h105
  have e102 : (q == 102) = false := by simpa using h102
  have e100 : (q == 100) = false := by simpa using h100
  have e116 : (q == 116) = false := by simpa using h116
  have e108 : (q == 108) = false := by simpa using h108
  clear h105 h102 h100 h116 h108 hw
  go_enter Try.func42, Try.ntmps42
  go_wp2
  go_ret
  exact ⟨rfl, rfl⟩
theorem rreg_any (q : Int) (w : World) : Calls Try.prog 43 #[.int .u8 q] w fun e w' => e = .returned (.bool (isReg q)) ∧ w = w' := by
  by_cases h119 : q = 119
  · subst h119
    go_enter Try.func43, Try.ntmps43
    go_wp2
    go_ret
    exact ⟨rfl, rfl⟩
  by_cases h114 : q = 114
  · subst h114
    go_enter Try.func43, Try.ntmps43
    go_wp2
    go_ret
    exact ⟨rfl, rfl⟩
  have e : isReg q = false := decide_eq_false (by omega)
  rw [e]
  have e119 : (q == 119) = false := by simpa using h119
  have e114 : (q == 114) = false := by simpa using h114
  clear h119 h114 e
  go_enter Try.func43, Try.ntmps43
  go_wp2
  go_ret
  exact ⟨rfl, rfl⟩
theorem rfield_num (op a b c n : Int) (X : Value) (q k : Int) (w : World) (hq : isReg q = false) :
    Calls Try.prog 41 #[.agg (insCells op a b c n X), .int .u8 q, .int .i64 k] w (Makes w (.int .i64 n)) := by
  have HR := Lib.hid (fun W => rreg_any q W)
  rw [hq] at HR
  have hk0 := heap_alloc_new w (.cells (insCells op a b c n X) 35)
  obtain ⟨c0, c1, c2, c3, c4, c5⟩ := cells6 hk0
  clear hq hk0
  go_enter Try.func41, Try.ntmps41
  go_wp2_with (go_at_call 43; (with_reducible refine (HR.out _).mono ?_); rintro e w' ⟨rfl, rfl⟩)
  go_ret
  exact ⟨rfl, (Below.refl _ w).alloc (Nat.le_refl _) _⟩
theorem rfield_reg (op a b c n : Int) (X : Value) (q : Int) (k : Nat) (w : World) (hq : isReg q = true) (hk : k < 3) :
    Calls Try.prog 41 #[.agg (insCells op a b c n X), .int .u8 q, .int .i64 k] w (Makes w (.int .i64 ([a, b, c].getD k 0))) := by
  have HR := Lib.hid (fun W => rreg_any q W)
  rw [hq] at HR
  have hk0 := heap_alloc_new w (.cells (insCells op a b c n X) 35)
  obtain ⟨c0, c1, c2, c3, c4, c5⟩ := cells6 hk0
  clear hq hk0
  rcases (show k = 0 ∨ k = 1 ∨ k = 2 by omega) with rfl | rfl | rfl
  all_goals
    go_enter Try.func41, Try.ntmps41
    go_wp2_with (go_at_call 43; (with_reducible refine (HR.out _).mono ?_); rintro e w' ⟨rfl, rfl⟩)
    go_ret
    exact ⟨rfl, ((Below.refl _ w).alloc (Nat.le_refl _) _).alloc (by simp) _⟩
def FaultDone (w : World) (z k : Int) (e : Ending) (w' : World) : Prop := e = .returned (.tuple #[.agg (insCells 0 0 0 0 0 (.slice none 0 0)), .int .i64 0, .agg #[.int .i64 z, .int .i64 k]]) ∧ Below w.heap.size w w'
theorem rfault_any (z k : Int) (w : World) : Calls Try.prog 47 #[.int .i64 z, .int .i64 k] w (FaultDone w z k) := by
  go_enter Try.func47, Try.ntmps47
  go_wp2
  refine bodyPost_ret (v := .tuple #[.agg (insCells 0 0 0 0 0 (.slice none 0 0)), .int .i64 0, .agg #[.int .i64 z, .int .i64 k]]) (by simp [results, Try.results47, go_sem]) rfl ?_
  exact ⟨rfl, ((Below.refl _ w).alloc (Nat.le_refl _) _).alloc (by simp) _⟩
/-- A byte that is laid in a new row. -/
theorem outB_one {w W : World} {x : Int} (h : Below w.heap.size w W) (hx : 0 ≤ x ∧ x < 256) : OutB w (W.alloc (.cells #[.int .u8 x] 5)) (.slice (some ⟨W.heap.size, 0, none⟩) 1 1) [x] := by
  refine ⟨⟨⟨by simp, .inr ⟨W.heap.size, 1, _, rfl, h.size, heap_alloc_new W _, Nat.le_refl _, by unfold maxLen; decide, rfl, rfl⟩⟩, fun g cur t fr hg hc => ?_⟩, h.alloc h.size _⟩
  simp [Value.ownBlock] at hg
  subst hg
  rw [heap_alloc_new] at hc
  injection hc with hc
  injection hc with hc _ _
  subst hc
  intro u hu
  simp at hu
  subst hu
  exact ⟨x, hx.1, hx.2, rfl⟩
/-- A byte more, at the operation. -/
theorem wpList_outB1 {w W : World} {ops : Array Oper} {rest : List Oper} {o : Oper} {a : Act} {Q : Exit → Act → World → Prop} (hgd : o.guard = none) (s x : Operand)
    (ho : o.op = .call { callee := .builtin .append, args := #[s, x], argTypes := #[26, 26] }) {V : Value} {xs : List Int} {z : Int} {g : Nat} (hs : a.eval s = V) (hx : a.eval x = .slice (some ⟨g, 0, none⟩) 1 1) (hg : g = W.heap.size) (h : OutB w W V xs)
    (hz : 0 ≤ z ∧ z < 256) (hl : xs.length + 1 ≤ 1000000)
    (hK : ∀ V' W', OutB w W' V' (xs ++ [z]) → (∀ i, i < W.heap.size → some i ≠ V.ownBlock → W'.heap[i]? = W.heap[i]?) → wpList Try.prog ops Q rest (a.put o.dst V') W') :
    wpList Try.prog ops Q (o :: rest) a (W.alloc (.cells #[.int .u8 z] 5)) := by
  subst hg
  have ha : Below W.heap.size W (W.alloc (.cells #[.int .u8 z] 5)) := (Below.refl W.heap.size W).alloc (Nat.le_refl _) _
  have h1 := outB_one (Below.refl W.heap.size W) hz
  refine wpList_outB hgd s x ho hs hx (h.grow ha) (ys := [z]) h1.own (by intro y hy; simp at hy; subst hy; exact hz) (by simp) (by simpa using hl) ?_
  intro V' W' ho' hb'
  exact hK V' W' ho' (fun i hi hn => (hb' i (by simp; omega) hn).trans (ha.block i hi))
end Go.Proofs.Ytobbjphpngckgaa
